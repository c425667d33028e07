/-
  Engines: EngNew, the specification's and the program's.
-/
import Derived.Test.YtlgpnogeoaoidaaEnA
import Derived.Test.YtlgpnogeoaoidaaMchI
import Derived.Test.YtlgpnogeoaoidaaMchCd
namespace Go.Proofs.Ytlgpnogeoaoidaa.En
set_option linter.unusedVariables false
set_option linter.unusedSimpArgs false
open Go.ChangeShapes Go.WideShapes Go.ChangeAt Go.RowKit IntS Pol Dt Flat Irk
open Ir (Opn)
open Mch (M RMach CMach mv Mid Small okM)
set_option maxRecDepth 8000 in
set_option maxHeartbeats 8000000 in
theorem specNew (m : M) (c : List Value) (w : World) (h : RMach w c m) (hs : Mid m) :
    Calls Try.prog 6 #[.agg c.toArray] w fun e w' => ∃ c', e = .returned (.agg c'.toArray) ∧ engR.ow w' (New w w') c' (newE m) ∧ Below w.heap.size w w' := by
  obtain ⟨r, e, i, q, b1, b2, b3, b4, rfl, h1, h2, h3, h4⟩ := h
  have RM : Hid (RMach w (mv m r e i q) m) := ⟨r, e, i, q, b1, b2, b3, b4, rfl, h1, h2, h3, h4⟩
  obtain ⟨OUT, eO⟩ : ∃ z, newE m = z := ⟨_, rfl⟩
  have EO := hide eO
  rw [eO]
  have HS := hide hs
  clear eO h1 h2 h3 h4 b1 b2 b3 b4 hs
  obtain ⟨regs, pc, mem, save, lets, waits, halt, ins, outs, count⟩ := m
  simp only [mv] at *
  have bV : Below w.heap.size w ((w.alloc (.cells #[r, .int .i64 pc, e, .int .i64 save, .bool lets, .bool waits, .int .i64 halt, i, q, .int .i64 count] 26)).alloc (.cells #[.slice none 0 0, .int .i64 0, .slice none 0 0, .int .i64 0, .bool false, .bool false, .int .i64 0, .slice none 0 0, .slice none 0 0, .int .i64 0, .slice none 0 0, .slice none 0 0] 30)) := ((Below.refl _ _).alloc (Nat.le_refl _) _).alloc (by simp) _
  have RR := hide ((Rec.new w [r, .int .i64 pc, e, .int .i64 save, .bool lets, .bool waits, .int .i64 halt, i, q, .int .i64 count] 26).alloc (.cells #[.slice none 0 0, .int .i64 0, .slice none 0 0, .int .i64 0, .bool false, .bool false, .int .i64 0, .slice none 0 0, .slice none 0 0, .int .i64 0, .slice none 0 0, .slice none 0 0] 30))
  have RZ := Rec.new (w.alloc (.cells #[r, .int .i64 pc, e, .int .i64 save, .bool lets, .bool waits, .int .i64 halt, i, q, .int .i64 count] 26)) [.slice none 0 0, .int .i64 0, .slice none 0 0, .int .i64 0, .bool false, .bool false, .int .i64 0, .slice none 0 0, .slice none 0 0, .int .i64 0, .slice none 0 0, .slice none 0 0] 30
  rw [show (w.alloc (.cells #[r, .int .i64 pc, e, .int .i64 save, .bool lets, .bool waits, .int .i64 halt, i, q, .int .i64 count] 26)).heap.size = w.heap.size + 1 by simp] at RZ
  replace RZ := hide RZ
  have BW := hide bV
  clear bV
  go_enter Try.func6, Try.ntmps6
  go_wp2_with fail
  generalize ((w.alloc (.cells #[r, .int .i64 pc, e, .int .i64 save, .bool lets, .bool waits, .int .i64 halt, i, q, .int .i64 count] 26)).alloc (.cells #[.slice none 0 0, .int .i64 0, .slice none 0 0, .int .i64 0, .bool false, .bool false, .int .i64 0, .slice none 0 0, .slice none 0 0, .int .i64 0, .slice none 0 0, .slice none 0 0] 30)) = U0 at RR RZ BW ⊢
  refine (Mch.mchOk _ _ _ (RM.out.below BW.out)).mono ?_
  rintro e1 u1 ⟨rfl, hb⟩
  replace RR := hide (RR.out.below hb)
  replace RZ := hide (RZ.out.below hb)
  replace BW := hide (BW.out.trans (hb.mono BW.out.size))
  clear hb
  cases ok : okM ⟨regs, pc, mem, save, lets, waits, halt, ins, outs, count⟩ with
  | false =>
    have HD : Hid (OUT = ([], 0, [], 0, false, false, 0, [], [], 0, [], [])) := show _ = _ by rw [← EO.out, newE, if_neg (by rw [ok]; decide)]
    have FIN : Hid (∀ V, engR.ow V (New w V) [.slice none 0 0, .int .i64 0, .slice none 0 0, .int .i64 0, .bool false, .bool false, .int .i64 0, .slice none 0 0, .slice none 0 0, .int .i64 0, .slice none 0 0, .slice none 0 0] OUT) := fun V => by
      rw [HD.out]
      exact engR_omk (a1 := 0) (a3 := 0) (a4 := false) (a5 := false) (a6 := 0) (a9 := 0) (low_nil leaf V (fun _ => False)) (low_nil leaf V (fun _ => False)) (low_nil leaf V (fun _ => False)) (low_nil leaf V (fun _ => False)) (low_nil cacR V (fun _ => False)) (low_nil cerR V (fun _ => False)) (fun _ h => h.elim) (fun _ h => h.elim) (fun _ h => h.elim) (fun _ h => h.elim) (fun _ h => h.elim) (fun _ h => h.elim) (fun _ h => h.elim) (fun _ h => h.elim) (fun _ h => h.elim) (fun _ h => h.elim) (fun _ h => h.elim) (fun _ h => h.elim) (fun _ h => h.elim) (fun _ h => h.elim) (fun _ h => h.elim) (fun _ h => h.elim) (fun _ h => h.elim) (fun _ h => h.elim) (fun _ h => h.elim) (fun _ h => h.elim) (fun _ h => h.elim)
    go_wp2_with (refine layEngEng rfl rfl _ _ rfl (w.heap.size + 1) _ _ _ _ _ _ _ _ _ _ _ _ RZ.out rfl none 0 0 0 none 0 0 0 false false 0 none 0 0 none 0 0 0 none 0 0 none 0 0 rfl ?_; intro V RB TB; refine Hid.out ?_)
    have SI := RR.out.lt
    replace BW := hide (BW.out.trans (TB.out.below (by omega) BW.out.size))
    have RC := hide RB.out
    have z0 := RC.out.cell 0 _ rfl
    have z1 := RC.out.cell 1 _ rfl
    have z2 := RC.out.cell 2 _ rfl
    have z3 := RC.out.cell 3 _ rfl
    have z4 := RC.out.cell 4 _ rfl
    have z5 := RC.out.cell 5 _ rfl
    have z6 := RC.out.cell 6 _ rfl
    have z7 := RC.out.cell 7 _ rfl
    have z8 := RC.out.cell 8 _ rfl
    have z9 := RC.out.cell 9 _ rfl
    have z10 := RC.out.cell 10 _ rfl
    have z11 := RC.out.cell 11 _ rfl
    clear RB TB RR RZ
    refine hide ?_
    go_wp2
    exact bodyPost_ret (v := .agg #[.slice none 0 0, .int .i64 0, .slice none 0 0, .int .i64 0, .bool false, .bool false, .int .i64 0, .slice none 0 0, .slice none 0 0, .int .i64 0, .slice none 0 0, .slice none 0 0]) (by simp [results, Try.results6, go_sem, z0, z1, z2, z3, z4, z5, z6, z7, z8, z9, z10, z11]) rfl ⟨_, rfl, FIN.out _, BW.out⟩
  | true =>
    have HD : Hid (OUT = tE ⟨regs, pc, mem, save, lets, waits, halt, ins, outs, count⟩ [] []) := show _ = _ by rw [← EO.out, newE, if_pos ok]
    have m0 := RR.out.cell 0 _ rfl
    have m1 := RR.out.cell 1 _ rfl
    have m2 := RR.out.cell 2 _ rfl
    have m3 := RR.out.cell 3 _ rfl
    have m4 := RR.out.cell 4 _ rfl
    have m5 := RR.out.cell 5 _ rfl
    have m6 := RR.out.cell 6 _ rfl
    have m7 := RR.out.cell 7 _ rfl
    have m8 := RR.out.cell 8 _ rfl
    have m9 := RR.out.cell 9 _ rfl
    go_wp2_with fail
    refine (Mch.l3Copy _ _ _ (RM.out.below BW.out) HS.out).mono ?_
    rintro e2 u2 ⟨c2, rfl, CM, hb⟩
    obtain ⟨b1, b2, b3, b4, o1, o2, o3, k1, k2, k3, k4, rfl, h1, h2, h3, h4, hl, hu, hn⟩ := own_mach CM
    simp only [mv] at h1 h2 h3 h4 ⊢
    have U12 : Hid (w.heap.size + 1 < u1.heap.size) := RZ.out.lt
    have H1 := hide h1
    have H2 := hide h2
    have H3 := hide h3
    have H4 := hide h4
    have HX : Hid ((u1.heap.size ≤ b1 ∧ u1.heap.size ≤ b2 ∧ u1.heap.size ≤ b3 ∧ u1.heap.size ≤ b4) ∧ (b1 < u2.heap.size ∧ b2 < u2.heap.size ∧ b3 < u2.heap.size ∧ b4 < u2.heap.size) ∧ (b1 ≠ b2 ∧ b1 ≠ b3 ∧ b1 ≠ b4 ∧ b2 ≠ b3 ∧ b2 ≠ b4 ∧ b3 ≠ b4)) := ⟨hl, hu, hn⟩
    replace RZ := hide (RZ.out.below hb)
    replace BW := hide (BW.out.trans (hb.mono BW.out.size))
    have U23 : Hid (u1.heap.size ≤ u2.heap.size) := hb.size
    clear hb CM h1 h2 h3 h4 hl hu hn RR m0 m1 m2 m3 m4 m5 m6 m7 m8 m9
    go_wp2_with (refine layEngEng rfl rfl _ _ rfl (w.heap.size + 1) _ _ _ _ _ _ _ _ _ _ _ _ RZ.out rfl _ _ _ _ _ _ _ _ _ _ _ _ _ _ _ _ _ _ _ _ _ _ _ _ rfl ?_; intro V RB TB; refine Hid.out ?_)
    have TI : ∀ b, u1.heap.size ≤ b → ¬ (fun b' => b' = w.heap.size + 1) b := fun b h (e : b = _) => by have := U12.out; omega
    have KT := Keep.of_turn TB.out
    have F1 := intsK.ok H1.out KT (fun b (q : b = b1) => TI b (by have := HX.out.1; omega))
    have F2 := intsK.ok H2.out KT (fun b (q : b = b2) => TI b (by have := HX.out.1; omega))
    have F3 := intsK.ok H3.out KT (fun b (q : b = b3) => TI b (by have := HX.out.1; omega))
    have F4 := intsK.ok H4.out KT (fun b (q : b = b4) => TI b (by have := HX.out.1; omega))
    have SV := TB.out.size
    have IN : ∀ b, u1.heap.size ≤ b → b < u2.heap.size → New w V b := fun b h1 h2 => ⟨by have := U12.out; omega, by omega⟩
    have FIN : Hid (engR.ow V (New w V) [.slice (some ⟨b1, o1, none⟩) regs.length k1, .int .i64 pc, .slice (some ⟨b2, o2, none⟩) mem.length k2, .int .i64 save, .bool lets, .bool waits, .int .i64 halt, .slice (some ⟨b3, o3, none⟩) ins.length k3, .slice (some ⟨b4, 0, none⟩) outs.length k4, .int .i64 count, .slice none 0 0, .slice none 0 0] OUT) := by
      rw [HD.out]
      have := HX.out
      exact engR_omk (a1 := pc) (a3 := save) (a4 := lets) (a5 := waits) (a6 := halt) (a9 := count) F1 F2 F3 F4 (low_nil cacR V (fun _ => False)) (low_nil cerR V (fun _ => False))
        (fun b (q : b = b1) => IN b (by omega) (by omega)) (fun b (q : b = b2) => IN b (by omega) (by omega)) (fun b (q : b = b3) => IN b (by omega) (by omega)) (fun b (q : b = b4) => IN b (by omega) (by omega)) (fun _ h => h.elim) (fun _ h => h.elim)
        (fun b (p : b = b1) (q : b = b2) => by omega) (fun b (p : b = b1) (q : b = b3) => by omega) (fun b (p : b = b1) (q : b = b4) => by omega) (fun _ _ h => h.elim) (fun _ _ h => h.elim)
        (fun b (p : b = b2) (q : b = b3) => by omega) (fun b (p : b = b2) (q : b = b4) => by omega) (fun _ _ h => h.elim) (fun _ _ h => h.elim)
        (fun b (p : b = b3) (q : b = b4) => by omega) (fun _ _ h => h.elim) (fun _ _ h => h.elim) (fun _ _ h => h.elim) (fun _ _ h => h.elim) (fun _ h => h.elim)
    have SB := U12.out
    replace BW := hide (BW.out.trans (TB.out.below (by omega) BW.out.size))
    have RC := hide RB.out
    have z0 := RC.out.cell 0 _ rfl
    have z1 := RC.out.cell 1 _ rfl
    have z2 := RC.out.cell 2 _ rfl
    have z3 := RC.out.cell 3 _ rfl
    have z4 := RC.out.cell 4 _ rfl
    have z5 := RC.out.cell 5 _ rfl
    have z6 := RC.out.cell 6 _ rfl
    have z7 := RC.out.cell 7 _ rfl
    have z8 := RC.out.cell 8 _ rfl
    have z9 := RC.out.cell 9 _ rfl
    have z10 := RC.out.cell 10 _ rfl
    have z11 := RC.out.cell 11 _ rfl
    clear RB TB RZ F1 F2 F3 F4 TI KT IN H1 H2 H3 H4 HX SV SB U12 U23
    refine hide ?_
    go_wp2
    exact bodyPost_ret (v := .agg #[.slice (some ⟨b1, o1, none⟩) regs.length k1, .int .i64 pc, .slice (some ⟨b2, o2, none⟩) mem.length k2, .int .i64 save, .bool lets, .bool waits, .int .i64 halt, .slice (some ⟨b3, o3, none⟩) ins.length k3, .slice (some ⟨b4, 0, none⟩) outs.length k4, .int .i64 count, .slice none 0 0, .slice none 0 0]) (by simp [results, Try.results6, go_sem, z0, z1, z2, z3, z4, z5, z6, z7, z8, z9, z10, z11]) rfl ⟨_, rfl, FIN.out, BW.out⟩
set_option maxRecDepth 8000 in
set_option maxHeartbeats 8000000 in
theorem implNew (m : M) (c : List Value) (w : World) (h : RMach w c m) (hs : Mid m) :
    Calls Try.prog 8 #[.agg c.toArray] w fun e w' => ∃ c', e = .returned (.agg c'.toArray) ∧ engR.ow w' (New w w') c' (newE m) ∧ Below w.heap.size w w' := by
  obtain ⟨r, e, i, q, b1, b2, b3, b4, rfl, h1, h2, h3, h4⟩ := h
  have RM : Hid (RMach w (mv m r e i q) m) := ⟨r, e, i, q, b1, b2, b3, b4, rfl, h1, h2, h3, h4⟩
  obtain ⟨OUT, eO⟩ : ∃ z, newE m = z := ⟨_, rfl⟩
  have EO := hide eO
  rw [eO]
  have HS := hide hs
  clear eO h1 h2 h3 h4 b1 b2 b3 b4 hs
  obtain ⟨regs, pc, mem, save, lets, waits, halt, ins, outs, count⟩ := m
  simp only [mv] at *
  have bV : Below w.heap.size w ((w.alloc (.cells #[r, .int .i64 pc, e, .int .i64 save, .bool lets, .bool waits, .int .i64 halt, i, q, .int .i64 count] 26)).alloc (.cells #[.slice none 0 0, .int .i64 0, .slice none 0 0, .int .i64 0, .bool false, .bool false, .int .i64 0, .slice none 0 0, .slice none 0 0, .int .i64 0, .slice none 0 0, .slice none 0 0] 30)) := ((Below.refl _ _).alloc (Nat.le_refl _) _).alloc (by simp) _
  have RR := hide ((Rec.new w [r, .int .i64 pc, e, .int .i64 save, .bool lets, .bool waits, .int .i64 halt, i, q, .int .i64 count] 26).alloc (.cells #[.slice none 0 0, .int .i64 0, .slice none 0 0, .int .i64 0, .bool false, .bool false, .int .i64 0, .slice none 0 0, .slice none 0 0, .int .i64 0, .slice none 0 0, .slice none 0 0] 30))
  have RZ := Rec.new (w.alloc (.cells #[r, .int .i64 pc, e, .int .i64 save, .bool lets, .bool waits, .int .i64 halt, i, q, .int .i64 count] 26)) [.slice none 0 0, .int .i64 0, .slice none 0 0, .int .i64 0, .bool false, .bool false, .int .i64 0, .slice none 0 0, .slice none 0 0, .int .i64 0, .slice none 0 0, .slice none 0 0] 30
  rw [show (w.alloc (.cells #[r, .int .i64 pc, e, .int .i64 save, .bool lets, .bool waits, .int .i64 halt, i, q, .int .i64 count] 26)).heap.size = w.heap.size + 1 by simp] at RZ
  replace RZ := hide RZ
  have BW := hide bV
  clear bV
  go_enter Try.func8, Try.ntmps8
  go_wp2_with fail
  generalize ((w.alloc (.cells #[r, .int .i64 pc, e, .int .i64 save, .bool lets, .bool waits, .int .i64 halt, i, q, .int .i64 count] 26)).alloc (.cells #[.slice none 0 0, .int .i64 0, .slice none 0 0, .int .i64 0, .bool false, .bool false, .int .i64 0, .slice none 0 0, .slice none 0 0, .int .i64 0, .slice none 0 0, .slice none 0 0] 30)) = U0 at RR RZ BW ⊢
  refine (MchI.mchOk _ _ _ (RM.out.below BW.out)).mono ?_
  rintro e1 u1 ⟨rfl, hb⟩
  replace RR := hide (RR.out.below hb)
  replace RZ := hide (RZ.out.below hb)
  replace BW := hide (BW.out.trans (hb.mono BW.out.size))
  clear hb
  cases ok : okM ⟨regs, pc, mem, save, lets, waits, halt, ins, outs, count⟩ with
  | false =>
    have HD : Hid (OUT = ([], 0, [], 0, false, false, 0, [], [], 0, [], [])) := show _ = _ by rw [← EO.out, newE, if_neg (by rw [ok]; decide)]
    have FIN : Hid (∀ V, engR.ow V (New w V) [.slice none 0 0, .int .i64 0, .slice none 0 0, .int .i64 0, .bool false, .bool false, .int .i64 0, .slice none 0 0, .slice none 0 0, .int .i64 0, .slice none 0 0, .slice none 0 0] OUT) := fun V => by
      rw [HD.out]
      exact engR_omk (a1 := 0) (a3 := 0) (a4 := false) (a5 := false) (a6 := 0) (a9 := 0) (low_nil leaf V (fun _ => False)) (low_nil leaf V (fun _ => False)) (low_nil leaf V (fun _ => False)) (low_nil leaf V (fun _ => False)) (low_nil cacR V (fun _ => False)) (low_nil cerR V (fun _ => False)) (fun _ h => h.elim) (fun _ h => h.elim) (fun _ h => h.elim) (fun _ h => h.elim) (fun _ h => h.elim) (fun _ h => h.elim) (fun _ h => h.elim) (fun _ h => h.elim) (fun _ h => h.elim) (fun _ h => h.elim) (fun _ h => h.elim) (fun _ h => h.elim) (fun _ h => h.elim) (fun _ h => h.elim) (fun _ h => h.elim) (fun _ h => h.elim) (fun _ h => h.elim) (fun _ h => h.elim) (fun _ h => h.elim) (fun _ h => h.elim) (fun _ h => h.elim)
    go_wp2_with (refine layEngEng rfl rfl _ _ rfl (w.heap.size + 1) _ _ _ _ _ _ _ _ _ _ _ _ RZ.out rfl none 0 0 0 none 0 0 0 false false 0 none 0 0 none 0 0 0 none 0 0 none 0 0 rfl ?_; intro V RB TB; refine Hid.out ?_)
    have SI := RR.out.lt
    replace BW := hide (BW.out.trans (TB.out.below (by omega) BW.out.size))
    have RC := hide RB.out
    have z0 := RC.out.cell 0 _ rfl
    have z1 := RC.out.cell 1 _ rfl
    have z2 := RC.out.cell 2 _ rfl
    have z3 := RC.out.cell 3 _ rfl
    have z4 := RC.out.cell 4 _ rfl
    have z5 := RC.out.cell 5 _ rfl
    have z6 := RC.out.cell 6 _ rfl
    have z7 := RC.out.cell 7 _ rfl
    have z8 := RC.out.cell 8 _ rfl
    have z9 := RC.out.cell 9 _ rfl
    have z10 := RC.out.cell 10 _ rfl
    have z11 := RC.out.cell 11 _ rfl
    clear RB TB RR RZ
    refine hide ?_
    go_wp2
    exact bodyPost_ret (v := .agg #[.slice none 0 0, .int .i64 0, .slice none 0 0, .int .i64 0, .bool false, .bool false, .int .i64 0, .slice none 0 0, .slice none 0 0, .int .i64 0, .slice none 0 0, .slice none 0 0]) (by simp [results, Try.results8, go_sem, z0, z1, z2, z3, z4, z5, z6, z7, z8, z9, z10, z11]) rfl ⟨_, rfl, FIN.out _, BW.out⟩
  | true =>
    have HD : Hid (OUT = tE ⟨regs, pc, mem, save, lets, waits, halt, ins, outs, count⟩ [] []) := show _ = _ by rw [← EO.out, newE, if_pos ok]
    have m0 := RR.out.cell 0 _ rfl
    have m1 := RR.out.cell 1 _ rfl
    have m2 := RR.out.cell 2 _ rfl
    have m3 := RR.out.cell 3 _ rfl
    have m4 := RR.out.cell 4 _ rfl
    have m5 := RR.out.cell 5 _ rfl
    have m6 := RR.out.cell 6 _ rfl
    have m7 := RR.out.cell 7 _ rfl
    have m8 := RR.out.cell 8 _ rfl
    have m9 := RR.out.cell 9 _ rfl
    go_wp2_with fail
    refine (MchI.copiedMachine _ _ _ (RM.out.below BW.out) HS.out).mono ?_
    rintro e2 u2 ⟨c2, rfl, CM, hb⟩
    obtain ⟨b1, b2, b3, b4, o1, o2, o3, k1, k2, k3, k4, rfl, h1, h2, h3, h4, hl, hu, hn⟩ := own_mach CM
    simp only [mv] at h1 h2 h3 h4 ⊢
    have U12 : Hid (w.heap.size + 1 < u1.heap.size) := RZ.out.lt
    have H1 := hide h1
    have H2 := hide h2
    have H3 := hide h3
    have H4 := hide h4
    have HX : Hid ((u1.heap.size ≤ b1 ∧ u1.heap.size ≤ b2 ∧ u1.heap.size ≤ b3 ∧ u1.heap.size ≤ b4) ∧ (b1 < u2.heap.size ∧ b2 < u2.heap.size ∧ b3 < u2.heap.size ∧ b4 < u2.heap.size) ∧ (b1 ≠ b2 ∧ b1 ≠ b3 ∧ b1 ≠ b4 ∧ b2 ≠ b3 ∧ b2 ≠ b4 ∧ b3 ≠ b4)) := ⟨hl, hu, hn⟩
    replace RZ := hide (RZ.out.below hb)
    replace BW := hide (BW.out.trans (hb.mono BW.out.size))
    have U23 : Hid (u1.heap.size ≤ u2.heap.size) := hb.size
    clear hb CM h1 h2 h3 h4 hl hu hn RR m0 m1 m2 m3 m4 m5 m6 m7 m8 m9
    go_wp2_with (refine layEngEng rfl rfl _ _ rfl (w.heap.size + 1) _ _ _ _ _ _ _ _ _ _ _ _ RZ.out rfl _ _ _ _ _ _ _ _ _ _ _ _ _ _ _ _ _ _ _ _ _ _ _ _ rfl ?_; intro V RB TB; refine Hid.out ?_)
    have TI : ∀ b, u1.heap.size ≤ b → ¬ (fun b' => b' = w.heap.size + 1) b := fun b h (e : b = _) => by have := U12.out; omega
    have KT := Keep.of_turn TB.out
    have F1 := intsK.ok H1.out KT (fun b (q : b = b1) => TI b (by have := HX.out.1; omega))
    have F2 := intsK.ok H2.out KT (fun b (q : b = b2) => TI b (by have := HX.out.1; omega))
    have F3 := intsK.ok H3.out KT (fun b (q : b = b3) => TI b (by have := HX.out.1; omega))
    have F4 := intsK.ok H4.out KT (fun b (q : b = b4) => TI b (by have := HX.out.1; omega))
    have SV := TB.out.size
    have IN : ∀ b, u1.heap.size ≤ b → b < u2.heap.size → New w V b := fun b h1 h2 => ⟨by have := U12.out; omega, by omega⟩
    have FIN : Hid (engR.ow V (New w V) [.slice (some ⟨b1, o1, none⟩) regs.length k1, .int .i64 pc, .slice (some ⟨b2, o2, none⟩) mem.length k2, .int .i64 save, .bool lets, .bool waits, .int .i64 halt, .slice (some ⟨b3, o3, none⟩) ins.length k3, .slice (some ⟨b4, 0, none⟩) outs.length k4, .int .i64 count, .slice none 0 0, .slice none 0 0] OUT) := by
      rw [HD.out]
      have := HX.out
      exact engR_omk (a1 := pc) (a3 := save) (a4 := lets) (a5 := waits) (a6 := halt) (a9 := count) F1 F2 F3 F4 (low_nil cacR V (fun _ => False)) (low_nil cerR V (fun _ => False))
        (fun b (q : b = b1) => IN b (by omega) (by omega)) (fun b (q : b = b2) => IN b (by omega) (by omega)) (fun b (q : b = b3) => IN b (by omega) (by omega)) (fun b (q : b = b4) => IN b (by omega) (by omega)) (fun _ h => h.elim) (fun _ h => h.elim)
        (fun b (p : b = b1) (q : b = b2) => by omega) (fun b (p : b = b1) (q : b = b3) => by omega) (fun b (p : b = b1) (q : b = b4) => by omega) (fun _ _ h => h.elim) (fun _ _ h => h.elim)
        (fun b (p : b = b2) (q : b = b3) => by omega) (fun b (p : b = b2) (q : b = b4) => by omega) (fun _ _ h => h.elim) (fun _ _ h => h.elim)
        (fun b (p : b = b3) (q : b = b4) => by omega) (fun _ _ h => h.elim) (fun _ _ h => h.elim) (fun _ _ h => h.elim) (fun _ _ h => h.elim) (fun _ h => h.elim)
    have SB := U12.out
    replace BW := hide (BW.out.trans (TB.out.below (by omega) BW.out.size))
    have RC := hide RB.out
    have z0 := RC.out.cell 0 _ rfl
    have z1 := RC.out.cell 1 _ rfl
    have z2 := RC.out.cell 2 _ rfl
    have z3 := RC.out.cell 3 _ rfl
    have z4 := RC.out.cell 4 _ rfl
    have z5 := RC.out.cell 5 _ rfl
    have z6 := RC.out.cell 6 _ rfl
    have z7 := RC.out.cell 7 _ rfl
    have z8 := RC.out.cell 8 _ rfl
    have z9 := RC.out.cell 9 _ rfl
    have z10 := RC.out.cell 10 _ rfl
    have z11 := RC.out.cell 11 _ rfl
    clear RB TB RZ F1 F2 F3 F4 TI KT IN H1 H2 H3 H4 HX SV SB U12 U23
    refine hide ?_
    go_wp2
    exact bodyPost_ret (v := .agg #[.slice (some ⟨b1, o1, none⟩) regs.length k1, .int .i64 pc, .slice (some ⟨b2, o2, none⟩) mem.length k2, .int .i64 save, .bool lets, .bool waits, .int .i64 halt, .slice (some ⟨b3, o3, none⟩) ins.length k3, .slice (some ⟨b4, 0, none⟩) outs.length k4, .int .i64 count, .slice none 0 0, .slice none 0 0]) (by simp [results, Try.results8, go_sem, z0, z1, z2, z3, z4, z5, z6, z7, z8, z9, z10, z11]) rfl ⟨_, rfl, FIN.out, BW.out⟩
end Go.Proofs.Ytlgpnogeoaoidaa.En
