/-
  Which pieces of code are ok: the specification's l6End, IrOk.
-/
import Derived.Test.YtkeelacobknfbaaDoorIrKk
namespace Go.Proofs.YtkeelacobknfbaaDoor.Ir
set_option linter.unusedVariables false
set_option linter.unusedSimpArgs false
open Go.ChangeShapes Go.WideShapes Go.ChangeAt Go.RowKit IntS Mch
set_option maxRecDepth 8000 in
set_option maxHeartbeats 8000000 in
theorem specIrOk (b : Bk) (c : List Value) (w : World) (h : RBk w c b) :
    Calls Tryd.prog 11 #[.agg c.toArray] w fun e w' => e = .returned (.bool (okB b)) ∧ Below w.heap.size w w' := by
  obtain ⟨a, cap, B, rfl, hr⟩ := h
  obtain ⟨pc, ln, ops, en, x, y, k⟩ := b
  simp only [bv] at *
  have bV : Below w.heap.size w (w.alloc (.cells #[.int .i64 pc, .int .i64 ln, .slice a ops.length cap, .int .i64 en, .int .i64 x, .int .i64 y, .int .i64 k] 25)) := (Below.refl _ _).alloc (Nat.le_refl _) _
  have R := hide (Rec.new w [.int .i64 pc, .int .i64 ln, .slice a ops.length cap, .int .i64 en, .int .i64 x, .int .i64 y, .int .i64 k] 25)
  have H := hide (hr.below bV)
  have BW := hide bV
  obtain ⟨_, _, _, e, h2, h3, _⟩ := hr
  unfold maxLen at h3
  simp only [Value.slice.injEq] at e
  obtain ⟨-, -, rfl⟩ := e
  clear bV
  have EQ : okB ⟨pc, ln, ops, en, x, y, k⟩ = (inI ln 1 8 && inI pc 0 (64 - ln) && decide (ops.length ≤ 48) && opsB ops ln ops.length && endB ops en x y k) := rfl
  have HE := hide EQ
  clear EQ
  go_enter Tryd.func11, Tryd.ntmps11
  go_wp2_with fail
  refine (l1In ln 1 8 _).mono ?_
  rintro e u1 ⟨rfl, rfl⟩
  by_cases e1 : inI ln 1 8 = true
  case neg =>
    rw [Bool.not_eq_true] at e1
    rw [e1]
    have HD : Hid (okB ⟨pc, ln, ops, en, x, y, k⟩ = false) := show _ = _ by rw [HE.out, e1]; rfl
    clear HE
    go_wp2
    go_ret
    exact ret_boolw HD.out.symm BW.out
  have l1 : 1 ≤ ln := by unfold inI at e1; exact (of_decide_eq_true e1).1
  have l8 : ln ≤ 8 := by unfold inI at e1; exact (of_decide_eq_true e1).2
  rw [e1]
  go_wp2_with fail
  refine (l1In pc 0 (64 - ln) _).mono ?_
  rintro e u2 ⟨rfl, rfl⟩
  by_cases e2 : inI pc 0 (64 - ln) = true
  case neg =>
    rw [Bool.not_eq_true] at e2
    rw [e2]
    have HD : Hid (okB ⟨pc, ln, ops, en, x, y, k⟩ = false) := show _ = _ by rw [HE.out, e1, e2]; rfl
    clear HE
    go_wp2
    go_ret
    exact ret_boolw HD.out.symm BW.out
  rw [e2]
  by_cases e3 : ops.length ≤ 48
  case neg =>
    have HD : Hid (okB ⟨pc, ln, ops, en, x, y, k⟩ = false) := show _ = _ by rw [HE.out, decide_eq_false e3, e1, e2]; rfl
    have e4 : (48 : Int) < ops.length := by omega
    clear HE e3
    go_wp2
    go_ret
    exact ret_boolw HD.out.symm BW.out
  have HQ : Hid (okB ⟨pc, ln, ops, en, x, y, k⟩ = (opsB ops ln ops.length && endB ops en x y k)) := show _ = _ by rw [HE.out, decide_eq_true e3, e1, e2]; rfl
  have e4 : ¬ (48 : Int) < ops.length := by omega
  clear HE e1 e2 e3
  go_wp2
  generalize w.alloc _ = u0 at BW R H ⊢
  go_loopw [3] (fun i wr => ∃ k : Nat, k ≤ ops.length ∧ i = .int .i64 k ∧ Hid (opsB ops ln k = true) ∧ Hid (Below u0.heap.size u0 wr)) (fun i _ => ops.length - (intOf i).toNat)
  case atStart => exact ⟨0, by omega, rfl, rfl, Below.refl _ _⟩
  case round =>
    obtain ⟨j, hj, rfl, HO, HB⟩ := hrel
    have R1 := R.out.below HB.out
    have r2 := R1.cell 2 _ rfl
    have r1 := R1.cell 1 _ rfl
    by_cases hlt : j < ops.length
    · obtain ⟨o, et⟩ : ∃ o, ops[j]? = some o := ⟨_, List.getElem?_eq_getElem (by omega)⟩
      have ET := hide et
      have lk : ((j : Nat) : Int) < (ops.length : Nat) := by omega
      clear R1 et
      go_wp2_with fail
      refine (l6Op ops B _ j o ln _ (H.out.below HB.out) ET.out l1 l8).mono ?_
      rintro e u3 ⟨rfl, hb⟩
      have HB2 := hide (HB.out.trans (hb.mono HB.out.size))
      clear hb HB
      by_cases eb : opB (ops.take j) o ln = true
      · have HO2 : Hid (opsB ops ln (j + 1) = true) := show _ = _ by rw [ops_next ET.out, HO.out, eb]; rfl
        rw [eb]
        clear eb
        go_wp2
        exact ⟨⟨j + 1, by omega, by go_num, HO2, HB2⟩, by simp [intOf]; omega⟩
      · rw [Bool.not_eq_true] at eb
        have HD : Hid (okB ⟨pc, ln, ops, en, x, y, k⟩ = false) := show _ = _ by rw [HQ.out, ops_stop (by omega) ET.out eb]; rfl
        have BZ := hide (BW.out.trans (HB2.out.mono BW.out.size))
        rw [eb]
        clear eb
        go_wp2
        go_ret
        exact ret_boolw HD.out.symm BZ.out
    · have HD : Hid (okB ⟨pc, ln, ops, en, x, y, k⟩ = endB ops en x y k) := show _ = _ by
        have := HO.out
        rw [show j = ops.length by omega] at this
        rw [HQ.out, this]
        rfl
      have lk : ¬ ((j : Nat) : Int) < (ops.length : Nat) := by omega
      have BZ := hide (BW.out.trans (HB.out.mono BW.out.size))
      have r0 := R1.cell 0 _ rfl
      have r3 := R1.cell 3 _ rfl
      have r4 := R1.cell 4 _ rfl
      have r5 := R1.cell 5 _ rfl
      have r6 := R1.cell 6 _ rfl
      clear R1
      go_wp2_with fail
      refine (l6End ops B a cap pc ln en x y k _ (H.out.below HB.out)).mono ?_
      rintro e u4 ⟨rfl, hb⟩
      have BY := hide (BZ.out.trans (hb.mono BZ.out.size))
      clear hb
      go_wp2
      go_ret
      exact ret_boolw HD.out.symm BY.out
end Go.Proofs.YtkeelacobknfbaaDoor.Ir
