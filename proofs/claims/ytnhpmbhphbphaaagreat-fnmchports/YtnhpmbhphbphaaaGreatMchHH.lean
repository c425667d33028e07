/-
  The program's step, where it does an instruction.
-/
import Derived.Test.YtnhpmbhphbphaaaGreatJnR
namespace Go.Proofs.YtnhpmbhphbphaaaGreat.MchI
set_option linter.unusedSimpArgs false
set_option linter.unusedVariables false
open Go.ChangeShapes Go.WideShapes Go.ChangeAt Go.RowKit IntS Mch
/-- A function without results leaves alike whatever its temporaries hold. -/
theorem leaves_same {P : Program} {fn : Func} {R : Ending → World → Prop} (h : ∀ t t' : Array Value, results fn t = results fn t') {t t' : Array Value} : ∀ (ds : List Deferred) (u : FrameMode) (w : World), Leaves P fn t R ds u w → Leaves P fn t' R ds u w := by
  intro ds
  induction ds with
  | nil => intro u w hl; cases u <;> simp only [Leaves] at hl ⊢ <;> first | exact hl | (rw [h t' t]; exact hl)
  | cons d ds ih =>
    intro u w hl
    simp only [Leaves] at hl ⊢
    obtain ⟨hu, fv, cap, f, args, h1, h2, hc⟩ := hl
    refine ⟨hu, fv, cap, f, args, h1, h2, hc.mono ?_⟩
    intro e u' w' hq
    cases e <;> first | exact ih _ _ hq | exact hq
theorem found_fn {c3 c4 c5 c6 c7 c11 c12 n f : Nat} (h : (deedsOf c3 c4 c5 c6 c7 c11 c12)[n]? = some (fn f)) : f ∈ [58, 59, 61, 63, 65, 67, 69, 70, 71] := by
  have hm := List.mem_of_getElem? h
  simp only [deedsOf, fn, clo, List.mem_cons, List.not_mem_nil, or_false, Value.func.injEq, Fn.func.injEq, and_true, true_and, and_self] at hm ⊢
  simp at hm
  first | omega | (rcases hm with h | h | h | h | h | h | h <;> simp [h.1]) | grind
theorem found_clo {c3 c4 c5 c6 c7 c11 c12 n f g : Nat} (h : (deedsOf c3 c4 c5 c6 c7 c11 c12)[n]? = some (clo f g)) : f ∈ [86, 93] := by
  have hm := List.mem_of_getElem? h
  simp only [deedsOf, fn, clo, List.mem_cons, List.not_mem_nil, or_false, Value.func.injEq, Fn.func.injEq, and_true, true_and, and_self] at hm ⊢
  simp at hm
  first | omega | (rcases hm with h | h | h | h | h | h | h <;> simp [h.1]) | grind
theorem enters_fn {f : Nat} (h : f ∈ [58, 59, 61, 63, 65, 67, 69, 70, 71]) (args : Array Value) (w : World) : (callFunc f args).run Tryz.prog w = .ok (.enter f args) w := by
  simp only [List.mem_cons, List.not_mem_nil, or_false] at h
  rcases h with rfl | rfl | rfl | rfl | rfl | rfl | rfl | rfl | rfl <;> kernel_rfl
theorem enters_clo {f : Nat} (h : f ∈ [86, 93]) (args : Array Value) (w : World) : (callFunc f args).run Tryz.prog w = .ok (.enter f args) w := by
  simp only [List.mem_cons, List.not_mem_nil, or_false] at h
  rcases h with rfl | rfl <;> kernel_rfl
set_option maxRecDepth 8000 in
set_option maxHeartbeats 4000000 in
theorem step_do (A : Nat → Prop) (Z D : Nat) (m : M) (irq : Bool) (w : World) (h : PM A w Z m) (h0 : m.halt = 0) (h1 : m.count < 1000000) (t : Nat) (hp : (sampleM m irq).pc = t) (ht : t < 64) (hl : m.mem.length = 64) (v : Int) (hv : m.mem[t]? = some v) (tk : Ins.takeB v = true) (ok : OkM m) (hl9 : m.outs.length ≤ 1000000000) (lo hi : Nat) (hD : Deeds w lo hi D) (hno : ∀ j, lo ≤ j → j < hi → ¬ A j) (hZ : ¬ (lo ≤ Z ∧ Z < hi)) (hfr : ∀ j, w.heap.size ≤ j → A j) :
    Calls Tryz.prog 33 #[.pointer (some ⟨Z, 0, none⟩), .bool irq, .map (some D)] w fun e w' => e = .returned (.tuple #[]) ∧ PM A w' Z (doM (sampleM m irq) (v / 4096) (v / 1024 % 4).toNat (v / 256 % 4).toNat (v % 256)) ∧ Keep (Grip A Z) w w' := by
  obtain ⟨b1, o1, k1, b2, o2, k2, b3, o3, k3, b4, k4, hB, hC, hA⟩ := h
  obtain ⟨regs, pc, mem, save, lets, waits, halt, ins, outs, count⟩ := m
  simp only [mv] at *
  have bV : Below w.heap.size w (w.alloc (.cells #[.pointer (some ⟨Z, 0, none⟩)] 50)) := (Below.refl _ _).alloc (Nat.le_refl _) _
  have N := hide (hB.below bV)
  have C := hide (hC.below bV)
  have BV := hide bV
  have Q := hide (Box.new w [.pointer (some ⟨Z, 0, none⟩)] 50)
  have lz : Hid (Z < w.heap.size) := hB.t.lt
  have ST : Hid (decide (halt ≠ 0 ∨ 1000000 ≤ count) = false) := show _ = _ by rw [decide_eq_false_iff_not]; omega
  have HA := hide hA
  have LB := hide (show b1 < w.heap.size ∧ b2 < w.heap.size ∧ b3 < w.heap.size ∧ b4 < w.heap.size from ⟨(CMach.parts (m := ⟨regs, pc, mem, save, lets, waits, halt, ins, outs, count⟩) hC).2.2.2.2.2.2.1.lt, (CMach.parts (m := ⟨regs, pc, mem, save, lets, waits, halt, ins, outs, count⟩) hC).2.2.2.2.2.2.2.1.lt, (CMach.parts (m := ⟨regs, pc, mem, save, lets, waits, halt, ins, outs, count⟩) hC).2.2.2.2.2.2.2.2.1.lt, (CMach.parts (m := ⟨regs, pc, mem, save, lets, waits, halt, ins, outs, count⟩) hC).2.2.2.2.2.2.2.2.2.lt⟩)
  have OK := hide ok
  have HD := hide hD
  have HN := hide hno
  have HZ := hide hZ
  have HF := hide hfr
  have TK := hide tk
  have HV := hide hv
  have L9 := hide hl9
  have HT := hide ht
  clear ok hD hno hZ hfr tk hv hl9 ht
  have HP := hide hp
  have HL := hide hl
  clear hl
  clear hB hC bV hA hp h0 h1
  have z0 := N.out.r.cell 0 _ rfl
  have z1 := N.out.r.cell 1 _ rfl
  have z2 := N.out.r.cell 2 _ rfl
  have z3 := N.out.r.cell 3 _ rfl
  have z4 := N.out.r.cell 4 _ rfl
  have z5 := N.out.r.cell 5 _ rfl
  have z6 := N.out.r.cell 6 _ rfl
  have z7 := N.out.r.cell 7 _ rfl
  have z8 := N.out.r.cell 8 _ rfl
  have z9 := N.out.r.cell 9 _ rfl
  have hmf : ∀ (fn : Fn) (first cap : Array Value) (w : World), (Instr.makeFunc fn first cap).run Tryz.prog w = .ok (.func fn first cap) w := fun _ _ _ _ => rfl
  go_enter_defers Tryz.func33, Tryz.ntmps33
  go_wp2_with fail
  refine (standsStill _ _ _ _ _ _ _ _ _ _ _ _ pc save halt count lets waits _).mono ?_
  rintro e u ⟨rfl, hb⟩
  rw [ST.out]
  have BU := hide (BV.out.trans (hb.mono BV.out.size))
  replace N := hide (N.out.below hb)
  replace C := hide (C.out.below hb)
  replace Q := hide (Q.out.below hb)
  clear hb BV z0 z1 z2 z3 z4 z5 z6 z7 z8 z9 ST
  have q0 := Q.out.r.cell 0 _ rfl
  go_wp2_with fail
  refine (interruptM Z regs mem ins outs _ _ _ _ pc save halt count lets waits irq _ N.out).mono ?_
  rintro e u1 ⟨rfl, ht, pc2, save2, lets2, waits2, SM, N1⟩
  have EP : pc2 = t := by have := HP.out; rw [SM] at this; exact this
  subst EP
  replace SM := hide SM
  have C1 := hide ((CMach.turn C.out N.out.t mach_int ht).plain (pc' := ((t : Nat) : Int)) (save' := save2) (halt' := halt) (count' := count) (lets' := lets2) (waits' := waits2))
  have Q1 := hide (Q.out.turn ht (by have := lz.out; omega))
  have K1 : Hid (Keep (Grip A Z) w u1) := (Keep.of_below BU.out).turn ht (fun j _ hn e => hn (Or.inl e))
  replace N1 := hide N1
  clear ht N C Q BU q0
  have z0 := N1.out.r.cell 0 _ rfl
  have z1 := N1.out.r.cell 1 _ rfl
  have z2 := N1.out.r.cell 2 _ rfl
  have z3 := N1.out.r.cell 3 _ rfl
  have z4 := N1.out.r.cell 4 _ rfl
  have z5 := N1.out.r.cell 5 _ rfl
  have z6 := N1.out.r.cell 6 _ rfl
  have z7 := N1.out.r.cell 7 _ rfl
  have z8 := N1.out.r.cell 8 _ rfl
  have z9 := N1.out.r.cell 9 _ rfl
  have q0 := Q1.out.r.cell 0 _ rfl
  go_wp2_with fail
  refine (at_yes mem t save2 halt count lets2 waits2 _ _ _ b2 o2 k2 _ C1.out.parts.2.1 HT.out HL.out v HV.out TK.out).mono ?_
  rintro e u2 ⟨rfl, hb⟩
  replace N1 := hide (N1.out.below hb)
  replace C1 := hide (C1.out.below hb)
  replace Q1 := hide (Q1.out.below hb)
  replace K1 : Hid (Keep (Grip A Z) w u2) := K1.out.trans (Keep.of_below hb)
  clear hb z0 z1 z2 z3 z4 z5 z6 z7 z8 z9 q0
  have bY : Below u2.heap.size u2 (u2.alloc (.cells #[.int .i64 (v / 4096), .int .i64 (v / 1024 % 4), .int .i64 (v / 256 % 4), .int .i64 (v % 256)] 38)) := (Below.refl _ _).alloc (Nat.le_refl _) _
  have I := hide (Box.new u2 [.int .i64 (v / 4096), .int .i64 (v / 1024 % 4), .int .i64 (v / 256 % 4), .int .i64 (v % 256)] 38)
  have lq : Hid (w.heap.size < u2.heap.size) := Q1.out.t.lt
  replace N1 := hide (N1.out.below bY)
  replace C1 := hide (C1.out.below bY)
  replace Q1 := hide (Q1.out.below bY)
  replace K1 : Hid (Keep (Grip A Z) w _) := K1.out.trans (Keep.of_below bY)
  have q0 := Q1.out.r.cell 0 _ rfl
  have sv : Hid (0 ≤ save2 ∧ save2 < 65536) := show _ ∧ _ by
    have h1 := congrArg M.save SM.out
    have h2 := OK.out.p
    have h3 := OK.out.s
    simp only [] at h2 h3
    unfold sampleM at h1
    split at h1 <;> simp only [] at h1 <;> omega
  clear bY
  go_wp2_with fail
  have lu : Hid (u2.heap.size < (u2.alloc (.cells #[.int .i64 (v / 4096), .int .i64 (v / 1024 % 4), .int .i64 (v / 256 % 4), .int .i64 (v % 256)] 38)).heap.size) := I.out.t.lt
  generalize u2.alloc (.cells #[.int .i64 (v / 4096), .int .i64 (v / 1024 % 4), .int .i64 (v / 256 % 4), .int .i64 (v % 256)] 38) = V at *
  have DV := HD.out.keep (Keep.drew K1.out) (fun k h1 h2 g => g.elim (fun e => HZ.out (by subst e; exact ⟨h1, h2⟩)) (HN.out k h1 h2))
  obtain ⟨c3, c4, c5, c6, c7, c11, c12, hM, hDr, hc⟩ := DV
  have SG : Hid (Stage (fun j => A j ∧ j ≠ w.heap.size ∧ j ≠ u2.heap.size) Z c3 c4 c5 c6 c7 c11 c12 ⟨regs, ((t : Nat) : Int), mem, save2, lets2, waits2, halt, ins, outs, count⟩ V.drew) := by
    have l1 := LB.out
    have l2 := lq.out
    have l3 := lu.out
    exact ⟨⟨b1, o1, k1, b2, o2, k2, b3, o3, k3, b4, k4, Box.drew N1.out, CMach.drewN C1.out 1, ⟨HA.out.1, by omega, by omega⟩, ⟨HA.out.2.1, by omega, by omega⟩, ⟨HA.out.2.2.1, by omega, by omega⟩, ⟨HA.out.2.2.2, by omega, by omega⟩⟩, fun p hp => ⟨(hc p hp).1, fun h => HN.out _ (hc p hp).2.1 (hc p hp).2.2 h.1⟩, fun j hj => ⟨HF.out j (by have : V.heap.size ≤ j := hj; omega), by have : V.heap.size ≤ j := hj; omega, by have : V.heap.size ≤ j := hj; omega⟩⟩
  obtain ⟨n, f, en, hdis⟩ := dispatch (fun j => A j ∧ j ≠ w.heap.size ∧ j ≠ u2.heap.size) Z c3 c4 c5 c6 c7 c11 c12 ⟨regs, ((t : Nat) : Int), mem, save2, lets2, waits2, halt, ins, outs, count⟩ (v / 4096) (v / 1024 % 4) (v / 256 % 4) (v % 256) ⟨OK.out.regs, OK.out.mem, words_at OK.out.wr, words_at OK.out.wm, by show 0 ≤ ((t : Nat) : Int); omega, by show ((t : Nat) : Int) < 65536; have := HT.out; omega, OK.out.c.1, OK.out.c.2⟩ sv.out L9.out (take_ok TK.out)
  have SS : V.drew.cell? ⟨w.heap.size, 0, none⟩ = some (.pointer (some ⟨Z, 0, none⟩)) ∧ V.drew.cell? ⟨u2.heap.size, 0, none⟩ = some (.int .i64 (v / 4096)) ∧ V.drew.cell? ⟨u2.heap.size, 1, none⟩ = some (.int .i64 (v / 1024 % 4)) ∧ V.drew.cell? ⟨u2.heap.size, 2, none⟩ = some (.int .i64 (v / 256 % 4)) ∧ V.drew.cell? ⟨u2.heap.size, 3, none⟩ = some (.int .i64 (v % 256)) ∧ MapIs V.drew D (deedsOf c3 c4 c5 c6 c7 c11 c12) := ⟨q0, I.out.r.cell 0 _ rfl, I.out.r.cell 1 _ rfl, I.out.r.cell 2 _ rfl, I.out.r.cell 3 _ rfl, hM⟩
  have hDr' := hDr
  clear q0 hc hDr N1 C1
  have MD := hide hM
  clear hM
  rcases hdis with ⟨hv, HC⟩ | ⟨g, hv, HC⟩
  · have RF : ∀ w' : World, MapIs w' D (deedsOf c3 c4 c5 c6 c7 c11 c12) → (Instr.lookup 51 (.map (some D)) (.int .i64 (v / 4096)) false).run Tryz.prog w' = .ok (.func (.func f) #[] #[]) w' := fun w' h => by rw [en]; exact run_found h n _ hv
    have EF := enters_fn (found_fn hv)
    have HCC := hide HC
    have EN := hide en
    clear hv HC en
    refine wp_region_held_drew (S := fun v1 => (v1.cell? ⟨w.heap.size, 0, none⟩ = some (.pointer (some ⟨Z, 0, none⟩)) ∧ v1.cell? ⟨u2.heap.size, 0, none⟩ = some (.int .i64 (v / 4096)) ∧ v1.cell? ⟨u2.heap.size, 1, none⟩ = some (.int .i64 (v / 1024 % 4)) ∧ v1.cell? ⟨u2.heap.size, 2, none⟩ = some (.int .i64 (v / 256 % 4)) ∧ v1.cell? ⟨u2.heap.size, 3, none⟩ = some (.int .i64 (v % 256)) ∧ MapIs v1 D (deedsOf c3 c4 c5 c6 c7 c11 c12))) (by kernel_rfl) SS (fun hHeld => ?_)
    refine wpAnyH_take (i := 0) (v := ?_) rfl (by kernel_rfl) (by kernel_rfl) (by kernel_rfl) (fun _ _ _ h => leaves_same (fun _ _ => by kernel_rfl) _ _ _ h) (Or.inl ⟨by rfl, ?_⟩) hHeld ?_
    rotate_left
    · intro w' hSw
      (try dsimp only at hSw)
      skip
      go_simp
      first | done | with_reducible rfl
    try simp only [Act.put, List.setIfInBounds_toArray, List.set]
    refine wpAnyH_take (i := 1) (v := ?_) rfl (by kernel_rfl) (by kernel_rfl) (by kernel_rfl) (fun _ _ _ h => leaves_same (fun _ _ => by kernel_rfl) _ _ _ h) (Or.inl ⟨by rfl, ?_⟩) hHeld ?_
    rotate_left
    · intro w' hSw
      (try dsimp only at hSw)
      skip
      go_simp
      first | done | with_reducible rfl
    try simp only [Act.put, List.setIfInBounds_toArray, List.set]
    refine wpAnyH_take (i := 2) (v := ?_) rfl (by kernel_rfl) (by kernel_rfl) (by kernel_rfl) (fun _ _ _ h => leaves_same (fun _ _ => by kernel_rfl) _ _ _ h) (Or.inl ⟨by rfl, ?_⟩) hHeld ?_
    rotate_left
    · intro w' hSw
      (try dsimp only at hSw)
      skip
      go_simp
      first | done | with_reducible rfl
    try simp only [Act.put, List.setIfInBounds_toArray, List.set]
    refine wpAnyH_take (i := 3) (v := ?_) rfl (by kernel_rfl) (by kernel_rfl) (by kernel_rfl) (fun _ _ _ h => leaves_same (fun _ _ => by kernel_rfl) _ _ _ h) (Or.inl ⟨by rfl, ?_⟩) hHeld ?_
    rotate_left
    · intro w' hSw
      (try dsimp only at hSw)
      skip
      go_simp
      first | done | with_reducible rfl
    try simp only [Act.put, List.setIfInBounds_toArray, List.set]
    refine wpAnyH_take (i := 4) (v := ?_) rfl (by kernel_rfl) (by kernel_rfl) (by kernel_rfl) (fun _ _ _ h => leaves_same (fun _ _ => by kernel_rfl) _ _ _ h) (Or.inl ⟨by rfl, ?_⟩) hHeld ?_
    rotate_left
    · intro w' hSw
      (try dsimp only at hSw)
      have hl := RF w' hSw.2.2.2.2.2
      go_simp
      first | done | with_reducible rfl
    try simp only [Act.put, List.setIfInBounds_toArray, List.set]
    refine wpAnyH_take (i := 5) (v := ?_) rfl (by kernel_rfl) (by kernel_rfl) (by kernel_rfl) (fun _ _ _ h => leaves_same (fun _ _ => by kernel_rfl) _ _ _ h) (Or.inl ⟨by rfl, ?_⟩) hHeld ?_
    rotate_left
    · intro w' hSw
      (try dsimp only at hSw)
      skip
      go_simp
      first | done | with_reducible rfl
    try simp only [Act.put, List.setIfInBounds_toArray, List.set]
    refine wpAnyH_take (i := 6) (v := ?_) rfl (by kernel_rfl) (by kernel_rfl) (by kernel_rfl) (fun _ _ _ h => leaves_same (fun _ _ => by kernel_rfl) _ _ _ h) (Or.inl ⟨by rfl, ?_⟩) hHeld ?_
    rotate_left
    · intro w' hSw
      (try dsimp only at hSw)
      skip
      go_simp
      first | done | with_reducible rfl
    try simp only [Act.put, List.setIfInBounds_toArray, List.set]
    refine wpAnyH_ready (rs := [7]) (by kernel_rfl) (by simp) ?_
    refine AllReadyH.cons rfl (fun K hK => ?_) AllReadyH.nil
    go_simp
    (try rw [EF])
    (try go_simp)
    refine (HCC.out _ SG.out).mono ?_
    rintro e u3 (⟨place, m', rfl, hP, hKp, p0, p1, hcc, hres⟩ | ⟨h, m', rfl, hP, hKp, hres⟩)
    all_goals
      have ng1 : ¬ Grip (fun j => A j ∧ j ≠ w.heap.size ∧ j ≠ u2.heap.size) Z w.heap.size := fun g => g.elim (fun e => by have := lz.out; omega) (fun g => g.2.1 rfl)
      have ng2 : ¬ Grip (fun j => A j ∧ j ≠ w.heap.size ∧ j ≠ u2.heap.size) Z u2.heap.size := fun g => g.elim (fun e => by have := lz.out; have := lq.out; omega) (fun g => g.2.2 rfl)
      have QU := hide ((Box.drew Q1.out).keep hKp ng1)
      have IU := hide ((Box.drew I.out).keep hKp ng2)
      have K2 := hide ((Keep.drew K1.out).trans (hKp.mono (S' := Grip A Z) (fun k _ g => g.imp id (fun g => g.1))))
      obtain ⟨d1, p1', l1, d2, p2', l2, d3, p3', l3, d4, l4, hB2, hC2, hA2⟩ := hP
      obtain ⟨regs', pc', mem', save', lets', waits', halt', ins', outs', count'⟩ := m'
      simp only [mv] at hB2 hC2
      have q0 := QU.out.r.cell 0 _ rfl
    · have hDl : D < V.drew.heap.size := (Array.getElem?_eq_some_iff.1 MD.out).1
      have ngD : ¬ Grip (fun j => A j ∧ j ≠ w.heap.size ∧ j ≠ u2.heap.size) Z D := fun g => g.elim (fun e => HZ.out (by subst e; exact hDr')) (fun g => HN.out D hDr'.1 hDr'.2 g.1)
      have MU : MapIs u3 D (deedsOf c3 c4 c5 c6 c7 c11 c12) := (hKp.block D hDl ngD).trans MD.out
      have z1 := hB2.r.cell 1 _ rfl
      have y1 := hB2.r.soft 1
      have z9 := hB2.r.cell 9 _ rfl
      have y9 := hB2.r.soft 9
      refine hK.out _ _ ⟨q0, IU.out.r.cell 0 _ rfl, IU.out.r.cell 1 _ rfl, IU.out.r.cell 2 _ rfl, IU.out.r.cell 3 _ rfl, MU⟩ (fun hHeld' => ?_)
      clear hK K
      try simp only [Act.put, List.setIfInBounds_toArray, List.set]
      refine wpAnyH_ready (rs := [8]) (by kernel_rfl) (by simp) ?_
      refine AllReadyH.cons rfl (fun K hK => ?_) AllReadyH.nil
      go_simp
      refine (goOn Z pc' count' place u3 z1 y1 z9 y9 hcc.1 hcc.2).mono ?_
      rintro e u4 ⟨rfl, rfl⟩
      have nz1 : Z ≠ w.heap.size := by have := lz.out; omega
      have nz2 : Z ≠ u2.heap.size := by have := lz.out; have := lq.out; omega
      have Q4 := (QU.out.other ⟨Z, 1, none⟩ (.int .i64 place) nz1).other ⟨Z, 9, none⟩ (.int .i64 (count' + 1)) nz1
      have I4 := (IU.out.other ⟨Z, 1, none⟩ (.int .i64 place) nz2).other ⟨Z, 9, none⟩ (.int .i64 (count' + 1)) nz2
      have M4 := MU.turn (((Turn.refl Z u3).setCell (p := ⟨Z, 1, none⟩) rfl (.int .i64 place)).setCell (p := ⟨Z, 9, none⟩) rfl (.int .i64 (count' + 1))) (fun e => HZ.out (by subst e; exact hDr'))
      refine hK.out _ _ ⟨Q4.r.cell 0 _ rfl, I4.r.cell 0 _ rfl, I4.r.cell 1 _ rfl, I4.r.cell 2 _ rfl, I4.r.cell 3 _ rfl, M4⟩ (fun hHeld2 => ?_)
      clear hK K
      refine wpAnyH_done (by kernel_rfl) ?_ _
      have FI : PM A ((u3.setCell ⟨Z, 1, none⟩ (.int .i64 place)).setCell ⟨Z, 9, none⟩ (.int .i64 (count' + 1))) Z (doM (sampleM ⟨regs, pc, mem, save, lets, waits, halt, ins, outs, count⟩ irq) (v / 4096) (v / 1024 % 4).toNat (v / 256 % 4).toNat (v % 256)) ∧ Keep (Grip A Z) w ((u3.setCell ⟨Z, 1, none⟩ (.int .i64 place)).setCell ⟨Z, 9, none⟩ (.int .i64 (count' + 1))) := by
        rw [SM.out, ← hres]
        have B1 := hB2.set 1 (.int .i64 place) (by simp) rfl
        have hpl : place % 65536 = place := by omega
        refine ⟨⟨d1, p1', l1, d2, p2', l2, d3, p3', l3, d4, l4, ?_, ?_, hA2.1.1, hA2.2.1.1, hA2.2.2.1.1, hA2.2.2.2.1⟩, K2.out.turn (((Turn.refl Z u3).setCell rfl _).setCell rfl _) (fun j _ hn e => hn (Or.inl e))⟩
        · have B2 := B1.set 9 (.int .i64 (count' + 1)) (by simp) rfl
          simpa [mv, nextM, hpl] using B2
        · exact (CMach.other (CMach.other hC2 hB2.t mach_int 1 _) B1.t mach_int 9 _).plain
      refine leaves_cons (f := 54) (args := #[.pointer (some ⟨w.heap.size, 0, none⟩)]) (by simp) (by simp [go_sem]) ?_
      refine (idle w.heap.size _).mono ?_
      rintro e u' w'' ⟨rfl, rfl, rfl⟩
      simp [Leaves, settle, results, Tryz.results33, go_sem]
      exact FI
    · have z6 := hB2.r.cell 6 _ rfl
      have y6 := hB2.r.soft 6
      refine leaves_cons (f := 54) (args := #[.pointer (some ⟨w.heap.size, 0, none⟩)]) (by simp) (by simp [go_sem]) ?_
      refine (caught w.heap.size Z h halt' [] _ q0 z6 y6).mono ?_
      rintro e u' w'' ⟨rfl, rfl, rfl⟩
      have FI : PM A (u3.setCell ⟨Z, 6, none⟩ (.int .i64 h)) Z (doM (sampleM ⟨regs, pc, mem, save, lets, waits, halt, ins, outs, count⟩ irq) (v / 4096) (v / 1024 % 4).toNat (v / 256 % 4).toNat (v % 256)) ∧ Keep (Grip A Z) w (u3.setCell ⟨Z, 6, none⟩ (.int .i64 h)) := by
        rw [SM.out, ← hres]
        exact ⟨⟨d1, p1', l1, d2, p2', l2, d3, p3', l3, d4, l4, hB2.set 6 _ (by simp) rfl, (CMach.other hC2 hB2.t mach_int 6 _).plain, hA2.1.1, hA2.2.1.1, hA2.2.2.1.1, hA2.2.2.2.1⟩, K2.out.turn ((Turn.refl Z u3).setCell rfl _) (fun j _ hn e => hn (Or.inl e))⟩
      simp [Leaves, settle, results, Tryz.results33, go_sem]
      exact FI
  · have RF : ∀ w' : World, MapIs w' D (deedsOf c3 c4 c5 c6 c7 c11 c12) → (Instr.lookup 51 (.map (some D)) (.int .i64 (v / 4096)) false).run Tryz.prog w' = .ok (.func (.func f) #[] #[.pointer (some ⟨g, 0, none⟩)]) w' := fun w' h => by rw [en]; exact run_found h n _ hv
    have EF := enters_clo (found_clo hv)
    have HCC := hide HC
    have EN := hide en
    clear hv HC en
    refine wp_region_held_drew (S := fun v1 => (v1.cell? ⟨w.heap.size, 0, none⟩ = some (.pointer (some ⟨Z, 0, none⟩)) ∧ v1.cell? ⟨u2.heap.size, 0, none⟩ = some (.int .i64 (v / 4096)) ∧ v1.cell? ⟨u2.heap.size, 1, none⟩ = some (.int .i64 (v / 1024 % 4)) ∧ v1.cell? ⟨u2.heap.size, 2, none⟩ = some (.int .i64 (v / 256 % 4)) ∧ v1.cell? ⟨u2.heap.size, 3, none⟩ = some (.int .i64 (v % 256)) ∧ MapIs v1 D (deedsOf c3 c4 c5 c6 c7 c11 c12))) (by kernel_rfl) SS (fun hHeld => ?_)
    refine wpAnyH_take (i := 0) (v := ?_) rfl (by kernel_rfl) (by kernel_rfl) (by kernel_rfl) (fun _ _ _ h => leaves_same (fun _ _ => by kernel_rfl) _ _ _ h) (Or.inl ⟨by rfl, ?_⟩) hHeld ?_
    rotate_left
    · intro w' hSw
      (try dsimp only at hSw)
      skip
      go_simp
      first | done | with_reducible rfl
    try simp only [Act.put, List.setIfInBounds_toArray, List.set]
    refine wpAnyH_take (i := 1) (v := ?_) rfl (by kernel_rfl) (by kernel_rfl) (by kernel_rfl) (fun _ _ _ h => leaves_same (fun _ _ => by kernel_rfl) _ _ _ h) (Or.inl ⟨by rfl, ?_⟩) hHeld ?_
    rotate_left
    · intro w' hSw
      (try dsimp only at hSw)
      skip
      go_simp
      first | done | with_reducible rfl
    try simp only [Act.put, List.setIfInBounds_toArray, List.set]
    refine wpAnyH_take (i := 2) (v := ?_) rfl (by kernel_rfl) (by kernel_rfl) (by kernel_rfl) (fun _ _ _ h => leaves_same (fun _ _ => by kernel_rfl) _ _ _ h) (Or.inl ⟨by rfl, ?_⟩) hHeld ?_
    rotate_left
    · intro w' hSw
      (try dsimp only at hSw)
      skip
      go_simp
      first | done | with_reducible rfl
    try simp only [Act.put, List.setIfInBounds_toArray, List.set]
    refine wpAnyH_take (i := 3) (v := ?_) rfl (by kernel_rfl) (by kernel_rfl) (by kernel_rfl) (fun _ _ _ h => leaves_same (fun _ _ => by kernel_rfl) _ _ _ h) (Or.inl ⟨by rfl, ?_⟩) hHeld ?_
    rotate_left
    · intro w' hSw
      (try dsimp only at hSw)
      skip
      go_simp
      first | done | with_reducible rfl
    try simp only [Act.put, List.setIfInBounds_toArray, List.set]
    refine wpAnyH_take (i := 4) (v := ?_) rfl (by kernel_rfl) (by kernel_rfl) (by kernel_rfl) (fun _ _ _ h => leaves_same (fun _ _ => by kernel_rfl) _ _ _ h) (Or.inl ⟨by rfl, ?_⟩) hHeld ?_
    rotate_left
    · intro w' hSw
      (try dsimp only at hSw)
      have hl := RF w' hSw.2.2.2.2.2
      go_simp
      first | done | with_reducible rfl
    try simp only [Act.put, List.setIfInBounds_toArray, List.set]
    refine wpAnyH_take (i := 5) (v := ?_) rfl (by kernel_rfl) (by kernel_rfl) (by kernel_rfl) (fun _ _ _ h => leaves_same (fun _ _ => by kernel_rfl) _ _ _ h) (Or.inl ⟨by rfl, ?_⟩) hHeld ?_
    rotate_left
    · intro w' hSw
      (try dsimp only at hSw)
      skip
      go_simp
      first | done | with_reducible rfl
    try simp only [Act.put, List.setIfInBounds_toArray, List.set]
    refine wpAnyH_take (i := 6) (v := ?_) rfl (by kernel_rfl) (by kernel_rfl) (by kernel_rfl) (fun _ _ _ h => leaves_same (fun _ _ => by kernel_rfl) _ _ _ h) (Or.inl ⟨by rfl, ?_⟩) hHeld ?_
    rotate_left
    · intro w' hSw
      (try dsimp only at hSw)
      skip
      go_simp
      first | done | with_reducible rfl
    try simp only [Act.put, List.setIfInBounds_toArray, List.set]
    refine wpAnyH_ready (rs := [7]) (by kernel_rfl) (by simp) ?_
    refine AllReadyH.cons rfl (fun K hK => ?_) AllReadyH.nil
    go_simp
    (try rw [EF])
    (try go_simp)
    refine (HCC.out _ SG.out).mono ?_
    rintro e u3 (⟨place, m', rfl, hP, hKp, p0, p1, hcc, hres⟩ | ⟨h, m', rfl, hP, hKp, hres⟩)
    all_goals
      have ng1 : ¬ Grip (fun j => A j ∧ j ≠ w.heap.size ∧ j ≠ u2.heap.size) Z w.heap.size := fun g => g.elim (fun e => by have := lz.out; omega) (fun g => g.2.1 rfl)
      have ng2 : ¬ Grip (fun j => A j ∧ j ≠ w.heap.size ∧ j ≠ u2.heap.size) Z u2.heap.size := fun g => g.elim (fun e => by have := lz.out; have := lq.out; omega) (fun g => g.2.2 rfl)
      have QU := hide ((Box.drew Q1.out).keep hKp ng1)
      have IU := hide ((Box.drew I.out).keep hKp ng2)
      have K2 := hide ((Keep.drew K1.out).trans (hKp.mono (S' := Grip A Z) (fun k _ g => g.imp id (fun g => g.1))))
      obtain ⟨d1, p1', l1, d2, p2', l2, d3, p3', l3, d4, l4, hB2, hC2, hA2⟩ := hP
      obtain ⟨regs', pc', mem', save', lets', waits', halt', ins', outs', count'⟩ := m'
      simp only [mv] at hB2 hC2
      have q0 := QU.out.r.cell 0 _ rfl
    · have hDl : D < V.drew.heap.size := (Array.getElem?_eq_some_iff.1 MD.out).1
      have ngD : ¬ Grip (fun j => A j ∧ j ≠ w.heap.size ∧ j ≠ u2.heap.size) Z D := fun g => g.elim (fun e => HZ.out (by subst e; exact hDr')) (fun g => HN.out D hDr'.1 hDr'.2 g.1)
      have MU : MapIs u3 D (deedsOf c3 c4 c5 c6 c7 c11 c12) := (hKp.block D hDl ngD).trans MD.out
      have z1 := hB2.r.cell 1 _ rfl
      have y1 := hB2.r.soft 1
      have z9 := hB2.r.cell 9 _ rfl
      have y9 := hB2.r.soft 9
      refine hK.out _ _ ⟨q0, IU.out.r.cell 0 _ rfl, IU.out.r.cell 1 _ rfl, IU.out.r.cell 2 _ rfl, IU.out.r.cell 3 _ rfl, MU⟩ (fun hHeld' => ?_)
      clear hK K
      try simp only [Act.put, List.setIfInBounds_toArray, List.set]
      refine wpAnyH_ready (rs := [8]) (by kernel_rfl) (by simp) ?_
      refine AllReadyH.cons rfl (fun K hK => ?_) AllReadyH.nil
      go_simp
      refine (goOn Z pc' count' place u3 z1 y1 z9 y9 hcc.1 hcc.2).mono ?_
      rintro e u4 ⟨rfl, rfl⟩
      have nz1 : Z ≠ w.heap.size := by have := lz.out; omega
      have nz2 : Z ≠ u2.heap.size := by have := lz.out; have := lq.out; omega
      have Q4 := (QU.out.other ⟨Z, 1, none⟩ (.int .i64 place) nz1).other ⟨Z, 9, none⟩ (.int .i64 (count' + 1)) nz1
      have I4 := (IU.out.other ⟨Z, 1, none⟩ (.int .i64 place) nz2).other ⟨Z, 9, none⟩ (.int .i64 (count' + 1)) nz2
      have M4 := MU.turn (((Turn.refl Z u3).setCell (p := ⟨Z, 1, none⟩) rfl (.int .i64 place)).setCell (p := ⟨Z, 9, none⟩) rfl (.int .i64 (count' + 1))) (fun e => HZ.out (by subst e; exact hDr'))
      refine hK.out _ _ ⟨Q4.r.cell 0 _ rfl, I4.r.cell 0 _ rfl, I4.r.cell 1 _ rfl, I4.r.cell 2 _ rfl, I4.r.cell 3 _ rfl, M4⟩ (fun hHeld2 => ?_)
      clear hK K
      refine wpAnyH_done (by kernel_rfl) ?_ _
      have FI : PM A ((u3.setCell ⟨Z, 1, none⟩ (.int .i64 place)).setCell ⟨Z, 9, none⟩ (.int .i64 (count' + 1))) Z (doM (sampleM ⟨regs, pc, mem, save, lets, waits, halt, ins, outs, count⟩ irq) (v / 4096) (v / 1024 % 4).toNat (v / 256 % 4).toNat (v % 256)) ∧ Keep (Grip A Z) w ((u3.setCell ⟨Z, 1, none⟩ (.int .i64 place)).setCell ⟨Z, 9, none⟩ (.int .i64 (count' + 1))) := by
        rw [SM.out, ← hres]
        have B1 := hB2.set 1 (.int .i64 place) (by simp) rfl
        have hpl : place % 65536 = place := by omega
        refine ⟨⟨d1, p1', l1, d2, p2', l2, d3, p3', l3, d4, l4, ?_, ?_, hA2.1.1, hA2.2.1.1, hA2.2.2.1.1, hA2.2.2.2.1⟩, K2.out.turn (((Turn.refl Z u3).setCell rfl _).setCell rfl _) (fun j _ hn e => hn (Or.inl e))⟩
        · have B2 := B1.set 9 (.int .i64 (count' + 1)) (by simp) rfl
          simpa [mv, nextM, hpl] using B2
        · exact (CMach.other (CMach.other hC2 hB2.t mach_int 1 _) B1.t mach_int 9 _).plain
      refine leaves_cons (f := 54) (args := #[.pointer (some ⟨w.heap.size, 0, none⟩)]) (by simp) (by simp [go_sem]) ?_
      refine (idle w.heap.size _).mono ?_
      rintro e u' w'' ⟨rfl, rfl, rfl⟩
      simp [Leaves, settle, results, Tryz.results33, go_sem]
      exact FI
    · have z6 := hB2.r.cell 6 _ rfl
      have y6 := hB2.r.soft 6
      refine leaves_cons (f := 54) (args := #[.pointer (some ⟨w.heap.size, 0, none⟩)]) (by simp) (by simp [go_sem]) ?_
      refine (caught w.heap.size Z h halt' [] _ q0 z6 y6).mono ?_
      rintro e u' w'' ⟨rfl, rfl, rfl⟩
      have FI : PM A (u3.setCell ⟨Z, 6, none⟩ (.int .i64 h)) Z (doM (sampleM ⟨regs, pc, mem, save, lets, waits, halt, ins, outs, count⟩ irq) (v / 4096) (v / 1024 % 4).toNat (v / 256 % 4).toNat (v % 256)) ∧ Keep (Grip A Z) w (u3.setCell ⟨Z, 6, none⟩ (.int .i64 h)) := by
        rw [SM.out, ← hres]
        exact ⟨⟨d1, p1', l1, d2, p2', l2, d3, p3', l3, d4, l4, hB2.set 6 _ (by simp) rfl, (CMach.other hC2 hB2.t mach_int 6 _).plain, hA2.1.1, hA2.2.1.1, hA2.2.2.1.1, hA2.2.2.2.1⟩, K2.out.turn ((Turn.refl Z u3).setCell rfl _) (fun j _ hn e => hn (Or.inl e))⟩
      simp [Leaves, settle, results, Tryz.results33, go_sem]
      exact FI
end Go.Proofs.YtnhpmbhphbphaaaGreat.MchI
