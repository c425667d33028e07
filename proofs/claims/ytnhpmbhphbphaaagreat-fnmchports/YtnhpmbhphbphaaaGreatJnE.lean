/-
  Draws: an instruction behind which code goes on, and the instructions of a piece of code.
-/
import Derived.Test.YtnhpmbhphbphaaaGreatJnA
import Derived.Test.YtnhpmbhphbphaaaGreatJnB
import Derived.Test.YtnhpmbhphbphaaaGreatInsS
import Derived.Test.YtnhpmbhphbphaaaGreatJnD
import Derived.Test.YtnhpmbhphbphaaaGreatPhaseIn
namespace Go.Proofs.YtnhpmbhphbphaaaGreat.Draw
set_option linter.unusedVariables false
set_option linter.unusedSimpArgs false
open Go.ChangeShapes Go.WideShapes Go.ChangeAt Go.RowKit Flat
open IntS (Turn hide cell_below)
open Mch (Rec)
open InsS (In4 OwnI run_pushI)
theorem Keep.turn {R : Nat} {w w' : World} (h : Keep R w w') : Turn R w w' := ⟨h.os, h.tape, h.output, h.size, h.block⟩
theorem keep_of {R : Nat} {w w' : World} (h : Turn R w w') : Keep R w w' := ⟨h.os, h.tape, h.output, h.size, h.block⟩
theorem rd_turn {R q T : Nat} {w w' : World} (h : Rd R q w) (ht : Turn T w w') (hT : R < T) (hw : R < w.heap.size) : Rd R q w' := h.below (by
  rcases Nat.lt_or_ge R w.heap.size with h1 | h1
  · exact ht.below hT h1
  · omega)
/-- Only the reader turned, and what was not there. -/
theorem keep_up {R T : Nat} {w v V : World} (h : Keep R w v) (h2 : Turn T v V) (hT : w.heap.size ≤ T) : Keep R w V :=
  ⟨h2.os.trans h.os, h2.tape.trans h.tape, h2.output.trans h.output, Nat.le_trans h.size h2.size, fun k hk hne => (h2.block k (Nat.lt_of_lt_of_le hk h.size) (by omega)).trans (h.block k hk hne)⟩
theorem lay4i {w : World} {ops : Array Oper} {rest : List Oper} {o : Oper} {a : Act} {Q : Exit → Act → World → Prop} (hgd : o.guard = none) (hds : o.dst = none) (x y : Operand) (ho : o.op = .store 38 x y)
    (Z : Nat) (x0 x1 x2 x3 : Value) (hB : Rec Z [x0, x1, x2, x3] w) (hx : a.eval x = .pointer (some ⟨Z, 0, none⟩)) (op d aa k : Int) (hy : a.eval y = .agg #[.int .i64 op, .int .i64 d, .int .i64 aa, .int .i64 k])
    (h : ∀ w' : World, Hid (Rec Z [.int .i64 op, .int .i64 d, .int .i64 aa, .int .i64 k] w') → Hid (Turn Z w w') → wpList Tryz.prog ops Q rest a w') :
    wpList Tryz.prog ops Q (o :: rest) a w := by
  refine wpList_plain hgd fun K hK => ?_
  have z0 := hB.cell 0 _ rfl
  have y0 := hB.soft 0
  have z1 := hB.cell 1 _ rfl
  have y1 := hB.soft 1
  have z2 := hB.cell 2 _ rfl
  have y2 := hB.soft 2
  have z3 := hB.cell 3 _ rfl
  have y3 := hB.soft 3
  have key := hK _ _ (h _ ((((hB.set 0 (.int .i64 op) (by simp) (show _ = ([.int .i64 op, x1, x2, x3] : List Value) from rfl)).set 1 (.int .i64 d) (by simp) (show _ = ([.int .i64 op, .int .i64 d, x2, x3] : List Value) from rfl)).set 2 (.int .i64 aa) (by simp) (show _ = ([.int .i64 op, .int .i64 d, .int .i64 aa, x3] : List Value) from rfl)).set 3 (.int .i64 k) (by simp) (show _ = ([.int .i64 op, .int .i64 d, .int .i64 aa, .int .i64 k] : List Value) from rfl)) (((((Turn.refl Z w).setCell (p := ⟨Z, 0, none⟩) rfl (.int .i64 op)).setCell (p := ⟨Z, 1, none⟩) rfl (.int .i64 d)).setCell (p := ⟨Z, 2, none⟩) rfl (.int .i64 aa)).setCell (p := ⟨Z, 3, none⟩) rfl (.int .i64 k)))
  obtain ⟨dst, op_, ty, pos, aft, gd⟩ := o
  simp only [] at hgd hds ho
  subst hgd hds ho
  clear h hK
  unfold Oper.wp
  simp only [execOp, hx, hy]
  go_simp
  exact key
set_option maxRecDepth 8000 in
theorem plain (op d a k : Int) (w : World) : Calls Tryz.prog 106 #[.agg #[.int .i64 op, .int .i64 d, .int .i64 a, .int .i64 k]] w fun e w' => (∃ b : Bool, e = .returned (.bool b)) ∧ Below w.heap.size w w' := by
  have b1 : Below w.heap.size w (w.alloc (.cells #[.int .i64 op, .int .i64 d, .int .i64 a, .int .i64 k] 38)) := (Below.refl _ _).alloc (Nat.le_refl _) _
  have RI := hide (Rec.new w [.int .i64 op, .int .i64 d, .int .i64 a, .int .i64 k] 38)
  have BW := hide b1
  have c0 := RI.out.cell 0 _ rfl
  have c1 := RI.out.cell 1 _ rfl
  have c2 := RI.out.cell 2 _ rfl
  have c3 := RI.out.cell 3 _ rfl
  clear b1
  go_enter Tryz.func106, Tryz.ntmps106
  go_wp2_with fail
  refine (Ins.insOk op d a k _).mono ?_
  rintro e u ⟨rfl, hb⟩
  replace BW := hide (BW.out.trans (hb.mono BW.out.size))
  have e0 := (RI.out.below hb).cell 0 _ rfl
  clear hb RI c0 c1 c2 c3
  cases okB : Ins.okB op d a k with
  | false =>
    clear okB
    go_wp2
    go_ret
    exact ⟨⟨_, rfl⟩, BW.out⟩
  | true =>
    clear okB
    by_cases h0 : op = 0
    · subst h0
      go_wp2
      go_ret
      exact ⟨⟨_, rfl⟩, BW.out⟩
    · have n0 : (op != 0) = true := bne_iff_ne.2 h0
      go_wp2_with fail
      refine (Ins.insEnds op _).mono ?_
      rintro e u2 ⟨rfl, rfl⟩
      go_wp2
      go_ret
      exact ⟨⟨_, rfl⟩, BW.out⟩
end Go.Proofs.YtnhpmbhphbphaaaGreat.Draw
namespace Go.Proofs.YtnhpmbhphbphaaaGreat.Draw
set_option linter.unusedVariables false
set_option linter.unusedSimpArgs false
open Go.ChangeShapes Go.WideShapes Go.ChangeAt Go.RowKit Flat
open IntS (Turn hide cell_below)
open Mch (Rec)
open InsS (In4 OwnI run_pushI)
set_option maxRecDepth 8000 in
set_option maxHeartbeats 8000000 in
theorem flat (R q : Nat) (w : World) (h : Rd R q w) (hq : q ≤ 800000) :
    Calls Tryz.prog 102 #[.pointer (some ⟨R, 0, none⟩)] w fun e w' => ∃ op d a k, e = .returned (.agg #[.int .i64 op, .int .i64 d, .int .i64 a, .int .i64 k]) ∧ Rd R (q + 8) w' ∧ Keep R w w' := by
  have hR := h.lt
  have k0 : Hid (Keep R w (w.alloc (.cells #[.int .i64 0, .int .i64 0, .int .i64 0, .int .i64 0] 38))) := (Keep.refl R w).alloc _
  have RZ := hide (Rec.new w [.int .i64 0, .int .i64 0, .int .i64 0, .int .i64 0] 38)
  have H0 := hide (h.alloc (.cells #[.int .i64 0, .int .i64 0, .int .i64 0, .int .i64 0] 38))
  clear h
  go_enter Tryz.func102, Tryz.ntmps102
  go_wp2_with fail
  generalize (w.alloc (.cells #[.int .i64 0, .int .i64 0, .int .i64 0, .int .i64 0] 38)) = u0 at k0 RZ H0 ⊢
  refine (ins R q u0 H0.out (by omega)).mono ?_
  rintro e u1 ⟨op, d, a, k, rfl, h1, k1⟩
  replace RZ := hide (RZ.out.turn k1.turn (by omega))
  replace k0 := hide (k0.out.trans k1)
  have S1 : Hid (w.heap.size < u1.heap.size) := RZ.out.lt
  have bI : Below u1.heap.size u1 (u1.alloc (.cells #[.int .i64 op, .int .i64 d, .int .i64 a, .int .i64 k] 38)) := (Below.refl _ _).alloc (Nat.le_refl _) _
  have RI := hide (Rec.new u1 [.int .i64 op, .int .i64 d, .int .i64 a, .int .i64 k] 38)
  replace RZ := hide (RZ.out.below bI)
  replace k0 := hide (k0.out.trans (Keep.of_below bI))
  have H1 := hide (h1.alloc (.cells #[.int .i64 op, .int .i64 d, .int .i64 a, .int .i64 k] 38))
  have c0 := RI.out.cell 0 _ rfl
  have c1 := RI.out.cell 1 _ rfl
  have c2 := RI.out.cell 2 _ rfl
  have c3 := RI.out.cell 3 _ rfl
  clear h1 k1 bI H0
  go_wp2_with fail
  generalize u1.alloc (.cells #[.int .i64 op, .int .i64 d, .int .i64 a, .int .i64 k] 38) = u2 at RI RZ k0 H1 c0 c1 c2 c3 ⊢
  obtain ⟨Xb, eX⟩ : ∃ z, u1.heap.size = z := ⟨_, rfl⟩
  rw [eX] at RI S1 c0 c1 c2 c3 ⊢
  clear eX
  refine (plain op d a k u2).mono ?_
  rintro e u3 ⟨⟨pb, rfl⟩, hb⟩
  replace RI := hide (RI.out.below hb)
  replace RZ := hide (RZ.out.below hb)
  replace k0 := hide (k0.out.trans (Keep.of_below hb))
  replace H1 := hide (H1.out.below (hb.mono (by have := H1.out.lt; omega)))
  clear hb c0 c1 c2 c3
  cases pb with
  | true =>
    have c0 := RI.out.cell 0 _ rfl
    have c1 := RI.out.cell 1 _ rfl
    have c2 := RI.out.cell 2 _ rfl
    have c3 := RI.out.cell 3 _ rfl
    go_wp2_with (refine lay4i rfl rfl _ _ rfl w.heap.size _ _ _ _ RZ.out rfl _ _ _ _ rfl ?_; intro p1 RX TX; refine Hid.out ?_)
    have FIN : Hid (Rd R (q + 8) p1 ∧ Keep R w p1) := ⟨(rd_turn H1.out TX.out hR H1.out.lt).mono (by omega), keep_up k0.out TX.out (Nat.le_refl _)⟩
    clear TX RZ RI c0 c1 c2 c3 H1 k0
    refine hide ?_
    have y0 := RX.out.cell 0 _ rfl
    have y1 := RX.out.cell 1 _ rfl
    have y2 := RX.out.cell 2 _ rfl
    have y3 := RX.out.cell 3 _ rfl
    go_wp2
    exact bodyPost_ret (v := .agg #[.int .i64 op, .int .i64 d, .int .i64 a, .int .i64 k]) (by simp [results, Tryz.results102, go_sem, y0, y1, y2, y3]) rfl ⟨_, _, _, _, rfl, FIN.out⟩
  | false =>
    go_wp2_with fail
    refine (wpIn_wide (n := 0)).1 ?_
    have bA : Below u3.heap.size u3 u3.drew := (Below.refl _ _).drew
    replace RI := hide (RI.out.below bA)
    replace RZ := hide (RZ.out.below bA)
    replace k0 := hide (k0.out.trans (Keep.of_below bA))
    replace H1 := hide (H1.out.below (bA.mono (by have := H1.out.lt; omega)))
    clear bA
    refine PhaseIn.region (S := fun v => Rec Xb [.int .i64 op, .int .i64 d, .int .i64 a, .int .i64 k] v) 6 (by kernel_rfl) ?_
    generalize u3.drew = d1 at RI RZ k0 H1 ⊢
    have hHeld : Rec Xb [.int .i64 op, .int .i64 d, .int .i64 a, .int .i64 k] d1 := RI.out
    clear RI
    refine PhaseIn.takeD (i := 0) (v := ?_) [0, 1, 6, 7] 9 rfl (by rfl) (by kernel_rfl) (by kernel_rfl) (by kernel_rfl) (by kernel_rfl) (by kernel_rfl) (fun _ _ _ h => h) (Or.inl ⟨by kernel_rfl, ?_⟩) hHeld ?_
    rotate_left
    · intro w' hSw
      (try dsimp only at hSw)
      go_simp
      first | done | with_reducible rfl
    try simp only [Act.put, List.setIfInBounds_toArray, List.set]
    refine PhaseIn.takeD (i := 1) (v := ?_) [1, 6, 7] 10 rfl (by rfl) (by kernel_rfl) (by kernel_rfl) (by kernel_rfl) (by kernel_rfl) (by kernel_rfl) (fun _ _ _ h => h) (Or.inl ⟨by kernel_rfl, ?_⟩) hHeld ?_
    rotate_left
    · intro w' hSw
      (try dsimp only at hSw)
      have z := hSw.cell 1 _ rfl
      go_simp
      first | done | with_reducible rfl
    try simp only [Act.put, List.setIfInBounds_toArray, List.set]
    refine PhaseIn.takeD (i := 2) (v := ?_) [2, 3, 6, 7] 11 rfl (by rfl) (by kernel_rfl) (by kernel_rfl) (by kernel_rfl) (by kernel_rfl) (by kernel_rfl) (fun _ _ _ h => h) (Or.inl ⟨by kernel_rfl, ?_⟩) hHeld ?_
    rotate_left
    · intro w' hSw
      (try dsimp only at hSw)
      go_simp
      first | done | with_reducible rfl
    try simp only [Act.put, List.setIfInBounds_toArray, List.set]
    refine PhaseIn.takeD (i := 3) (v := ?_) [3, 6, 7] 12 rfl (by rfl) (by kernel_rfl) (by kernel_rfl) (by kernel_rfl) (by kernel_rfl) (by kernel_rfl) (fun _ _ _ h => h) (Or.inl ⟨by kernel_rfl, ?_⟩) hHeld ?_
    rotate_left
    · intro w' hSw
      (try dsimp only at hSw)
      have z := hSw.cell 2 _ rfl
      go_simp
      first | done | with_reducible rfl
    try simp only [Act.put, List.setIfInBounds_toArray, List.set]
    refine PhaseIn.takeD (i := 4) (v := ?_) [4, 5, 6, 7] 13 rfl (by rfl) (by kernel_rfl) (by kernel_rfl) (by kernel_rfl) (by kernel_rfl) (by kernel_rfl) (fun _ _ _ h => h) (Or.inl ⟨by kernel_rfl, ?_⟩) hHeld ?_
    rotate_left
    · intro w' hSw
      (try dsimp only at hSw)
      go_simp
      first | done | with_reducible rfl
    try simp only [Act.put, List.setIfInBounds_toArray, List.set]
    refine PhaseIn.one (i := 5) (by kernel_rfl) rfl (by kernel_rfl) (fun K hK => ?_)
    unfold Oper.wpIn
    refine ⟨fun _ _ => trivial, ?_⟩
    go_simp
    refine ⟨rfl, (callsIn_wide.2 (pick R (q + 7) 4 d1 H1.out (by omega))).mono ?_⟩
    rintro e d2 ⟨x, rfl, x0, x1, -, h2, k2⟩
    replace hHeld := hHeld.turn k2.turn (by have := S1.out; omega)
    replace RZ := hide (RZ.out.turn k2.turn (by omega))
    replace k0 := hide (k0.out.trans k2)
    have H2 := hide h2
    refine hK _ _ (fun _ => hHeld) ?_
    clear hK K k2 h2 H1
    try simp only [Act.put, List.setIfInBounds_toArray, List.set]
    refine PhaseIn.late (i := 6) (v := ?_) (by kernel_rfl) rfl 15 (by rfl) (by omega) (Or.inl ⟨by kernel_rfl, ?_⟩) ?_
    rotate_left
    · intro w' hSw
      go_simp
      first | done | with_reducible rfl
    try simp only [Act.put, List.setIfInBounds_toArray, List.set]
    have z0 := RZ.out.cell 0 _ rfl
    have s0 := RZ.out.soft 0
    have z1 := RZ.out.cell 1 _ rfl
    have s1 := RZ.out.soft 1
    have z2 := RZ.out.cell 2 _ rfl
    have s2 := RZ.out.soft 2
    have z3 := RZ.out.cell 3 _ rfl
    have s3 := RZ.out.soft 3
    refine PhaseIn.one (i := 7) (by kernel_rfl) rfl (by kernel_rfl) (fun K hK => ?_)
    unfold Oper.wpIn
    refine ⟨fun _ _ => trivial, ?_⟩
    go_simp
    have TX : Turn w.heap.size d2 ((((d2.setCell ⟨w.heap.size, 0, none⟩ (.int .i64 3)).setCell ⟨w.heap.size, 1, none⟩ (.int .i64 d)).setCell ⟨w.heap.size, 2, none⟩ (.int .i64 a)).setCell ⟨w.heap.size, 3, none⟩ (.int .i64 x)) := ((((Turn.refl w.heap.size d2).setCell (p := ⟨w.heap.size, 0, none⟩) rfl (.int .i64 3)).setCell (p := ⟨w.heap.size, 1, none⟩) rfl (.int .i64 d)).setCell (p := ⟨w.heap.size, 2, none⟩) rfl (.int .i64 a)).setCell (p := ⟨w.heap.size, 3, none⟩) rfl (.int .i64 x)
    have RX := hide ((((RZ.out.set 0 (.int .i64 3) (by simp) (show _ = ([.int .i64 3, .int .i64 0, .int .i64 0, .int .i64 0] : List Value) from rfl)).set 1 (.int .i64 d) (by simp) (show _ = ([.int .i64 3, .int .i64 d, .int .i64 0, .int .i64 0] : List Value) from rfl)).set 2 (.int .i64 a) (by simp) (show _ = ([.int .i64 3, .int .i64 d, .int .i64 a, .int .i64 0] : List Value) from rfl)).set 3 (.int .i64 x) (by simp) (show _ = ([.int .i64 3, .int .i64 d, .int .i64 a, .int .i64 x] : List Value) from rfl))
    have FIN : Hid (Rd R (q + 8) ((((d2.setCell ⟨w.heap.size, 0, none⟩ (.int .i64 3)).setCell ⟨w.heap.size, 1, none⟩ (.int .i64 d)).setCell ⟨w.heap.size, 2, none⟩ (.int .i64 a)).setCell ⟨w.heap.size, 3, none⟩ (.int .i64 x)) ∧ Keep R w ((((d2.setCell ⟨w.heap.size, 0, none⟩ (.int .i64 3)).setCell ⟨w.heap.size, 1, none⟩ (.int .i64 d)).setCell ⟨w.heap.size, 2, none⟩ (.int .i64 a)).setCell ⟨w.heap.size, 3, none⟩ (.int .i64 x))) := ⟨rd_turn H2.out TX hR H2.out.lt, keep_up k0.out TX (Nat.le_refl _)⟩
    refine hK _ _ (fun h => absurd h (by decide)) ?_
    clear hK K TX RZ hHeld z0 z1 z2 z3 s0 s1 s2 s3 H2 k0
    try simp only [Act.put, List.setIfInBounds_toArray, List.set]
    generalize ((((d2.setCell ⟨w.heap.size, 0, none⟩ (.int .i64 3)).setCell ⟨w.heap.size, 1, none⟩ (.int .i64 d)).setCell ⟨w.heap.size, 2, none⟩ (.int .i64 a)).setCell ⟨w.heap.size, 3, none⟩ (.int .i64 x)) = p1 at RX FIN ⊢
    refine PhaseIn.done (by kernel_rfl) ?_ _
    have y0 := RX.out.cell 0 _ rfl
    have y1 := RX.out.cell 1 _ rfl
    have y2 := RX.out.cell 2 _ rfl
    have y3 := RX.out.cell 3 _ rfl
    go_wp2
    exact bodyPost_ret (v := .agg #[.int .i64 3, .int .i64 d, .int .i64 a, .int .i64 x]) (by simp [results, Tryz.results102, go_sem, y0, y1, y2, y3]) rfl ⟨_, _, _, _, rfl, FIN.out⟩
end Go.Proofs.YtnhpmbhphbphaaaGreat.Draw
namespace Go.Proofs.YtnhpmbhphbphaaaGreat.Draw
set_option linter.unusedVariables false
set_option linter.unusedSimpArgs false
open Go.ChangeShapes Go.WideShapes Go.ChangeAt Go.RowKit Flat
open IntS (Turn hide cell_below)
open Mch (Rec)
open InsS (In4 OwnI run_pushI)
theorem own_emptyI {w : World} {lo : Nat} (hlo : lo ≤ w.heap.size) : OwnI (w.alloc (.cells #[] 38)) lo (.slice (some ⟨w.heap.size, 0, none⟩) 0 0) [] :=
  ⟨rfl, Or.inr ⟨w.heap.size, 0, #[], rfl, hlo, by show (w.heap.push _)[w.heap.size]? = _; exact Array.getElem?_push_size, Nat.le_refl _, by unfold maxLen; omega, rfl, rfl⟩⟩
theorem push4 {w : World} {ty : TypeId} {lo cap n : Nat} {q : Option Addr} {is : List In4} (hown : OwnI w lo (.slice q n cap) is) (hl : is.length = n) (hn : n ≤ 1000000) (hlo : lo ≤ w.heap.size) (Z : Nat) (i : In4) (hr : Rec Z [.int .i64 i.op, .int .i64 i.d, .int .i64 i.a, .int .i64 i.k] w) :
    ∃ g' cap' w' T, (Builtin.append_ #[107, 107] ty #[.slice q n cap, .slice (some ⟨Z, 0, none⟩) 1 1]).run Tryz.prog w = .ok (.slice (some ⟨g', 0, none⟩) (n + 1) cap') w' ∧ OwnI w' lo (.slice (some ⟨g', 0, none⟩) (n + 1) cap') (is ++ [i]) ∧ Turn T w w' ∧ lo ≤ T := by
  subst hl
  obtain ⟨g', cap', w', h1, h2, h3, h4, h5⟩ := run_pushI (ty := ty) hown (by omega) hlo ⟨Z, 0, none⟩ i (by rw [Addr.add_lit]; exact hr.cell 0 _ rfl) (by rw [Addr.add_lit]; exact hr.cell 1 _ rfl) (by rw [Addr.add_lit]; exact hr.cell 2 _ rfl) (by rw [Addr.add_lit]; exact hr.cell 3 _ rfl)
  obtain ⟨T, t1, t2⟩ := grown_turn h5 (hown.q_form.imp (fun e => e.1) id)
  refine ⟨g', cap', w', T, h1, h2, t1, ?_⟩
  rcases t2 with t2 | t2
  · exact (hown.q_lt t2).1
  · omega
end Go.Proofs.YtnhpmbhphbphaaaGreat.Draw
