/-
  Draws: an instruction behind which code goes on, and the instructions of a piece of code.
-/
import Derived.Test.YtmmlhmhlfmafgaaDrawI
import Derived.Test.YtmmlhmhlfmafgaaDrawB
import Derived.Test.YtmmlhmhlfmafgaaInsC
import Derived.Test.YtmmlhmhlfmafgaaInsC2
import Derived.Test.YtmmlhmhlfmafgaaInsS
import Derived.Test.YtmmlhmhlfmafgaaMchM2
import Derived.Test.YtmmlhmhlfmafgaaPhaseIn
namespace Go.Proofs.Ytmmlhmhlfmafgaa.Draw
set_option linter.unusedVariables false
set_option linter.unusedSimpArgs false
open Go.ChangeShapes Go.WideShapes Go.ChangeAt Go.RowKit Flat
open IntS (Turn hide cell_below)
open Mch (Rec)
open InsS (In4 OwnI run_pushI)
theorem Keep.turn {R : Nat} {w w' : World} (h : Keep R w w') : Turn R w w' := ⟨h.os, h.tape, h.output, h.size, h.block⟩
theorem keep_of {R : Nat} {w w' : World} (h : Turn R w w') : Keep R w w' := ⟨h.os, h.tape, h.output, h.size, h.block⟩
theorem rd_turn {R q T : Nat} {w w' : World} (h : Rd R q w) (ht : Turn T w w') (hT : R < T) (hw : R < w.heap.size) : Rd R q w' := h.below (by
  rcases Nat.lt_or_ge R w.heap.size with h1 | h1
  · exact ht.below hT h1
  · omega)
/-- Only the reader turned, and what was not there. -/
theorem keep_up {R T : Nat} {w v V : World} (h : Keep R w v) (h2 : Turn T v V) (hT : w.heap.size ≤ T) : Keep R w V :=
  ⟨h2.os.trans h.os, h2.tape.trans h.tape, h2.output.trans h.output, Nat.le_trans h.size h2.size, fun k hk hne => (h2.block k (Nat.lt_of_lt_of_le hk h.size) (by omega)).trans (h.block k hk hne)⟩
theorem lay4i {w : World} {ops : Array Oper} {rest : List Oper} {o : Oper} {a : Act} {Q : Exit → Act → World → Prop} (hgd : o.guard = none) (hds : o.dst = none) (x y : Operand) (ho : o.op = .store 33 x y)
    (Z : Nat) (x0 x1 x2 x3 : Value) (hB : Rec Z [x0, x1, x2, x3] w) (hx : a.eval x = .pointer (some ⟨Z, 0, none⟩)) (op d aa k : Int) (hy : a.eval y = .agg #[.int .i64 op, .int .i64 d, .int .i64 aa, .int .i64 k])
    (h : ∀ w' : World, Hid (Rec Z [.int .i64 op, .int .i64 d, .int .i64 aa, .int .i64 k] w') → Hid (Turn Z w w') → wpList Try.prog ops Q rest a w') :
    wpList Try.prog ops Q (o :: rest) a w := by
  refine wpList_plain hgd fun K hK => ?_
  have z0 := hB.cell 0 _ rfl
  have y0 := hB.soft 0
  have z1 := hB.cell 1 _ rfl
  have y1 := hB.soft 1
  have z2 := hB.cell 2 _ rfl
  have y2 := hB.soft 2
  have z3 := hB.cell 3 _ rfl
  have y3 := hB.soft 3
  have key := hK _ _ (h _ ((((hB.set 0 (.int .i64 op) (by simp) (show _ = ([.int .i64 op, x1, x2, x3] : List Value) from rfl)).set 1 (.int .i64 d) (by simp) (show _ = ([.int .i64 op, .int .i64 d, x2, x3] : List Value) from rfl)).set 2 (.int .i64 aa) (by simp) (show _ = ([.int .i64 op, .int .i64 d, .int .i64 aa, x3] : List Value) from rfl)).set 3 (.int .i64 k) (by simp) (show _ = ([.int .i64 op, .int .i64 d, .int .i64 aa, .int .i64 k] : List Value) from rfl)) (((((Turn.refl Z w).setCell (p := ⟨Z, 0, none⟩) rfl (.int .i64 op)).setCell (p := ⟨Z, 1, none⟩) rfl (.int .i64 d)).setCell (p := ⟨Z, 2, none⟩) rfl (.int .i64 aa)).setCell (p := ⟨Z, 3, none⟩) rfl (.int .i64 k)))
  obtain ⟨dst, op_, ty, pos, aft, gd⟩ := o
  simp only [] at hgd hds ho
  subst hgd hds ho
  clear h hK
  unfold Oper.wp
  simp only [execOp, hx, hy]
  go_simp
  exact key
set_option maxRecDepth 8000 in
theorem plain (op d a k : Int) (w : World) : Calls Try.prog 33 #[.agg #[.int .i64 op, .int .i64 d, .int .i64 a, .int .i64 k]] w fun e w' => (∃ b : Bool, e = .returned (.bool b)) ∧ Below w.heap.size w w' := by
  have b1 : Below w.heap.size w (w.alloc (.cells #[.int .i64 op, .int .i64 d, .int .i64 a, .int .i64 k] 33)) := (Below.refl _ _).alloc (Nat.le_refl _) _
  have RI := hide (Rec.new w [.int .i64 op, .int .i64 d, .int .i64 a, .int .i64 k] 33)
  have BW := hide b1
  have c0 := RI.out.cell 0 _ rfl
  have c1 := RI.out.cell 1 _ rfl
  have c2 := RI.out.cell 2 _ rfl
  have c3 := RI.out.cell 3 _ rfl
  clear b1
  go_enter Try.func33, Try.ntmps33
  go_wp2_with fail
  refine (Ins.insOk op d a k _).mono ?_
  rintro e u ⟨rfl, hb⟩
  replace BW := hide (BW.out.trans (hb.mono BW.out.size))
  have e0 := (RI.out.below hb).cell 0 _ rfl
  clear hb RI c0 c1 c2 c3
  cases okB : Ins.okB op d a k with
  | false =>
    clear okB
    go_wp2
    go_ret
    exact ⟨⟨_, rfl⟩, BW.out⟩
  | true =>
    clear okB
    by_cases h0 : op = 0
    · subst h0
      go_wp2
      go_ret
      exact ⟨⟨_, rfl⟩, BW.out⟩
    · have n0 : (op != 0) = true := bne_iff_ne.2 h0
      go_wp2_with fail
      refine (Ins.insEnds op _).mono ?_
      rintro e u2 ⟨rfl, rfl⟩
      go_wp2
      go_ret
      exact ⟨⟨_, rfl⟩, BW.out⟩
end Go.Proofs.Ytmmlhmhlfmafgaa.Draw
