/-
  Lists that are held against each other one by one: what is common.
-/
import Derived.Test.YthlpndligadnjaaPolR
import Derived.Test.YthlpndligadnjaaPhaseIn
import Derived.Test.YthlpndligadnjaaRng
import Derived.Test.YthlpndligadnjaaAllB
namespace Go.Proofs.Ythlpndligadnjaa.Side
set_option linter.unusedVariables false
open Go.ChangeShapes Go.WideShapes Go.ChangeAt Go.RowKit Go.Shelf IntS Pol Rng
theorem cell_lt {w : World} {B p : Nat} {v : Value} (h : w.cell? ⟨B, p, none⟩ = some v) : B < w.heap.size := by
  unfold World.cell? at h
  cases ho : w.heap[B]? with
  | none => simp [ho] at h
  | some o => exact lt_of_some ho
theorem frozen_mild {B : Nat} {A A' : World} (h : Mild B A A') {a : Addr} {v : Value} {b : Addr} (hb : b.block = a.block) (hc : A.cell? a = some v) (hf : A.frozen? b = false) : A'.frozen? b = false := by
  unfold World.cell? at hc
  unfold World.frozen? at hf ⊢
  rw [hb] at hf ⊢
  cases ho : A.heap[a.block]? with
  | none => simp [ho] at hc
  | some o =>
    cases o with
    | cells cs t z => rw [h.cells _ _ _ _ ho]; simpa [ho] using hf
    | _ => simp [ho] at hc
theorem rec_mild {B Z : Nat} {c : Value} {cs : List Value} {A A' : World} (h : Rec Z (c :: cs) A) (hm : Mild B A A') : Rec Z (c :: cs) A' :=
  ⟨Nat.lt_of_lt_of_le h.lt hm.size, fun i v hv => hm.cell (h.cell i v hv), fun i => frozen_mild hm (a := ⟨Z, 0, none⟩) rfl (h.cell 0 c rfl) (h.soft i)⟩
theorem turn_high {C D : Nat} {w v V : World} (h : Turn C w v) (h2 : Turn D v V) (hD : w.heap.size ≤ D) : Turn C w V :=
  ⟨h2.os.trans h.os, h2.tape.trans h.tape, h2.output.trans h.output, Nat.le_trans h.size h2.size, fun k hk hne => (h2.block k (Nat.lt_of_lt_of_le hk h.size) (by omega)).trans (h.block k hk hne)⟩
theorem keeps_turn {C B : Nat} {A A' : World} (h : Turn C A A') (hC : C < B) : KeepsFrom B A A' := ⟨h.size, fun k o hk ho _ => (h.block k (lt_of_some ho) (by omega)).trans ho⟩
theorem keeps_below {B : Nat} {A A' : World} (h : Below A.heap.size A A') : KeepsFrom B A A' := ⟨h.size, fun k o _ ho _ => (h.block k (lt_of_some ho)).trans ho⟩
theorem drop_cons {α : Type} {bs r : List α} {y : α} {n : Nat} (h : bs.drop n = y :: r) : bs[n]? = some y ∧ bs.drop (n + 1) = r ∧ n < bs.length := by
  have h0 : (bs.drop n)[0]? = some y := by rw [h]; rfl
  rw [List.getElem?_drop, Nat.add_zero] at h0
  refine ⟨h0, ?_, (List.getElem?_eq_some_iff.1 h0).1⟩
  rw [← List.drop_drop, h]
  rfl
theorem pre_at {α : Type} {pre xs : List α} {x : α} (h : pre ++ [x] <+: xs) : xs[pre.length]? = some x ∧ pre.length < xs.length := by
  obtain ⟨r, hr⟩ := h
  have : xs[pre.length]? = some x := by rw [← hr, List.append_assoc, List.getElem?_append_right (Nat.le_refl _), Nat.sub_self]; rfl
  exact ⟨this, (List.getElem?_eq_some_iff.1 this).1⟩
end Go.Proofs.Ythlpndligadnjaa.Side
