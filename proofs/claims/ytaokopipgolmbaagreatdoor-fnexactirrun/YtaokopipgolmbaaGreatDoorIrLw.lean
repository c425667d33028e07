/-
  What the law of IrRun needs: the machine that it tells, how great that is, the variable that errors.As reads.
-/
import Derived.Test.YtaokopipgolmbaaGreatDoorRows
import Derived.Test.YtaokopipgolmbaaGreatDoorIrPj
import Derived.Test.YtaokopipgolmbaaGreatDoorIrMk
import Derived.Test.YtaokopipgolmbaaGreatDoorMchH
import Derived.Test.YtaokopipgolmbaaGreatDoorMchM3
import Derived.LaidHandle
import Derived.LaidLaws
namespace Go.Proofs.YtaokopipgolmbaaGreatDoor.Ir
set_option linter.unusedVariables false
set_option linter.unusedSimpArgs false
open Go.ChangeShapes Go.WideShapes Go.ChangeAt Go.RowKit IntS Mch
/-- The machine that IrRun tells. -/
def irF (b : Bk) (m : M) : M := if (okB b && okM m) = true then irM b m else emptyM
theorem cmach_w {w : World} {lo : Nat} {c : List Value} {m : M} (h : CMach w lo c m) : WMach w lo c m := by
  obtain ⟨b1, b2, b3, b4, o1, o2, o3, k1, k2, k3, k4, hc, h1, h2, h3, h4, ⟨e1, e2, e3, e4⟩, ⟨d1, d2, d3, d4, d5, d6⟩, t⟩ := h
  obtain ⟨g, cp, ev, _, _, VW⟩ := h4.form (by simp)
  have eg : g = b4 := by
    simp only [Value.slice.injEq, Option.some.injEq, Addr.mk.injEq] at ev
    exact ev.1.1.symm
  subst eg
  exact ⟨_, _, _, _, b1, b2, b3, g, hc, h1, h2, h3, VW, e1, e2, e3, e4, d1, d2, d3, d4, d5, d6⟩
theorem ir_bound {lo : Nat} {b : Bk} {m : M} {e : Ending} {w : World} (h : IrR lo b m e w) : ∃ c', e = .returned (.tuple #[.agg c'.toArray, .bool (okB b && okM m && standB b m)]) ∧ BMach w lo w.heap.size c' (irF b m) := by
  obtain ⟨c', he, h1, h2⟩ := h
  refine ⟨c', he, ?_⟩
  unfold irF
  cases hb : (okB b && okM m) with
  | true =>
    rw [if_pos rfl]
    exact (cmach_w (h2 hb)).bound
  | false =>
    rw [if_neg (by decide), h1 hb]
    exact (empty_mach w lo).bound
/-- How long a machine's lists become. -/
structure Len (m m' : M) (k : Nat) : Prop where
  r : m'.regs.length = m.regs.length
  e : m'.mem.length = m.mem.length
  i : m'.ins.length ≤ m.ins.length
  o : m'.outs.length ≤ m.outs.length + k
theorem step_len (b : Bk) (m : M) (vs : List Int) (o : Opn) : Len m (stepM b m vs o).1 1 := by
  unfold stepM
  split
  · exact ⟨by simp, rfl, Nat.le_refl _, by simp⟩
  split
  · unfold evM
    split
    · exact ⟨rfl, rfl, Nat.le_refl _, by simp⟩
    split
    · cases e : m.ins with
      | nil => exact ⟨rfl, rfl, by simp [e], by simp⟩
      | cons x r => exact ⟨rfl, rfl, by simp [e], by simp⟩
    split
    · exact ⟨rfl, rfl, Nat.le_refl _, by simp [leaveM]⟩
    split
    · exact ⟨rfl, rfl, Nat.le_refl _, by simp⟩
    split
    · exact ⟨rfl, by simp [leaveM], Nat.le_refl _, by simp [leaveM]⟩
    · exact ⟨rfl, by simp, Nat.le_refl _, by simp⟩
  · exact ⟨rfl, rfl, Nat.le_refl _, by simp⟩
theorem run_len (b : Bk) : ∀ (os : List Opn) (m : M) (vs : List Int), Len m (runM b os m vs) os.length
  | [], m, vs => ⟨rfl, rfl, Nat.le_refl _, Nat.le_refl _⟩
  | o :: r, m, vs => by
    have h1 := step_len b m vs o
    unfold runM
    split
    · exact ⟨h1.r, h1.e, h1.i, Nat.le_trans h1.o (by simp)⟩
    · have h2 := run_len b r (stepM b m vs o).1 (vs ++ [(stepM b m vs o).2.1])
      exact ⟨h2.r.trans h1.r, h2.e.trans h1.e, Nat.le_trans h2.i h1.i, by have := h1.o; have := h2.o; simp only [List.length_cons]; omega⟩
theorem small_wideI {m : M} (h : Small m) : Wide m := ⟨Nat.le_trans h.1 (by omega), Nat.le_trans h.2.1 (by omega), Nat.le_trans h.2.2.1 (by omega), Nat.le_trans h.2.2.2 (by omega)⟩
theorem ir_wide {b : Bk} {m : M} (h : Small m) : Wide (irF b m) := by
  unfold irF
  split
  · rename_i ok
    unfold irM
    split
    · have ho : okB b = true := by
        simp only [Bool.and_eq_true] at ok
        exact ok.1
      have h48 := (head_ok ho).2.2.2.2.1
      have hl := run_len b b.ops m []
      obtain ⟨s1, s2, s3, s4⟩ := h
      exact ⟨by rw [hl.r]; omega, by rw [hl.e]; omega, Nat.le_trans hl.i (by omega), Nat.le_trans hl.o (by omega)⟩
    · exact small_wideI h
  · unfold Wide emptyM
    simp
theorem named_et : Tryz.prog.globalNamed "errors.errorType" = some 2 := by kernel_rfl
theorem named_rt : (Tryz.prog.cutTypes.find? (·.1 == "internal/reflectlite.rtype")).map (·.2) = some 118 := by kernel_rfl
theorem one_row : ((List.range 166).filter fun t => Tryz.prog.rowNamed t [101, 114, 114, 111, 114]) = [61] := by kernel_rfl
theorem types_size : Tryz.prog.types.size = 166 := by kernel_rfl
theorem handle_at {W : World} {l : List (String × DataW Unit)} (h : handlesMet Tryz.prog l W) {d : DataW Unit} (hd : d = .iface "internal/reflectlite.rtype" (.agg [.ptr (.lit (.string [101, 114, 114, 111, 114]))])) (hm : ("errors.errorType", d) ∈ l) : W.cell? ⟨2, 0, none⟩ = some (.iface 118 (.agg #[.pointer (some ⟨3, 61, none⟩)])) := by
  subst hd
  obtain ⟨name, u, ty, e1, e2, e3, e4, e5⟩ := h _ hm
  have en : name = [101, 114, 114, 111, 114] := (Option.some.inj e1).symm
  subst en
  obtain rfl := Option.some.inj (named_rt.symm.trans e2)
  have hm : ty ∈ (List.range 166).filter fun t => Tryz.prog.rowNamed t [101, 114, 114, 111, 114] := List.mem_filter.2 ⟨List.mem_range.2 (by rw [← types_size]; exact e3), e4⟩
  rw [one_row] at hm
  obtain rfl := List.mem_singleton.1 hm
  have hh : typeHandle Tryz.prog 61 = .pointer (some ⟨3, 61, none⟩) := by kernel_rfl
  rw [hh] at e5
  simpa using World.var?_cell named_et e5 0
end Go.Proofs.YtaokopipgolmbaaGreatDoor.Ir
