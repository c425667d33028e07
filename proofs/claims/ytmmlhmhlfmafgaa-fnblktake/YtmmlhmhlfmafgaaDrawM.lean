/-
  Draws: an instruction behind which code goes on (l20Flat); the instructions of a piece of code (l21List).
-/
import Derived.Test.YtmmlhmhlfmafgaaDrawL
namespace Go.Proofs.Ytmmlhmhlfmafgaa.Draw
set_option linter.unusedVariables false
set_option linter.unusedSimpArgs false
open Go.ChangeShapes Go.WideShapes Go.ChangeAt Go.RowKit Flat
open IntS (Turn hide cell_below)
open Mch (Rec)
open InsS (In4 OwnI run_pushI)
set_option maxRecDepth 8000 in
set_option maxHeartbeats 8000000 in
theorem flat (R q : Nat) (w : World) (h : Rd R q w) (hq : q ≤ 800000) :
    Calls Try.prog 36 #[.pointer (some ⟨R, 0, none⟩)] w fun e w' => ∃ op d a k, e = .returned (.agg #[.int .i64 op, .int .i64 d, .int .i64 a, .int .i64 k]) ∧ Rd R (q + 8) w' ∧ Keep R w w' := by
  have hR := h.lt
  have k0 : Hid (Keep R w (w.alloc (.cells #[.int .i64 0, .int .i64 0, .int .i64 0, .int .i64 0] 33))) := (Keep.refl R w).alloc _
  have RZ := hide (Rec.new w [.int .i64 0, .int .i64 0, .int .i64 0, .int .i64 0] 33)
  have H0 := hide (h.alloc (.cells #[.int .i64 0, .int .i64 0, .int .i64 0, .int .i64 0] 33))
  clear h
  go_enter Try.func36, Try.ntmps36
  go_wp2_with fail
  generalize (w.alloc (.cells #[.int .i64 0, .int .i64 0, .int .i64 0, .int .i64 0] 33)) = u0 at k0 RZ H0 ⊢
  refine (ins R q u0 H0.out (by omega)).mono ?_
  rintro e u1 ⟨op, d, a, k, rfl, h1, k1⟩
  replace RZ := hide (RZ.out.turn k1.turn (by omega))
  replace k0 := hide (k0.out.trans k1)
  have S1 : Hid (w.heap.size < u1.heap.size) := RZ.out.lt
  have bI : Below u1.heap.size u1 (u1.alloc (.cells #[.int .i64 op, .int .i64 d, .int .i64 a, .int .i64 k] 33)) := (Below.refl _ _).alloc (Nat.le_refl _) _
  have RI := hide (Rec.new u1 [.int .i64 op, .int .i64 d, .int .i64 a, .int .i64 k] 33)
  replace RZ := hide (RZ.out.below bI)
  replace k0 := hide (k0.out.trans (Keep.of_below bI))
  have H1 := hide (h1.alloc (.cells #[.int .i64 op, .int .i64 d, .int .i64 a, .int .i64 k] 33))
  have c0 := RI.out.cell 0 _ rfl
  have c1 := RI.out.cell 1 _ rfl
  have c2 := RI.out.cell 2 _ rfl
  have c3 := RI.out.cell 3 _ rfl
  clear h1 k1 bI H0
  go_wp2_with fail
  generalize u1.alloc (.cells #[.int .i64 op, .int .i64 d, .int .i64 a, .int .i64 k] 33) = u2 at RI RZ k0 H1 c0 c1 c2 c3 ⊢
  obtain ⟨Xb, eX⟩ : ∃ z, u1.heap.size = z := ⟨_, rfl⟩
  rw [eX] at RI S1 c0 c1 c2 c3 ⊢
  clear eX
  refine (plain op d a k u2).mono ?_
  rintro e u3 ⟨⟨pb, rfl⟩, hb⟩
  replace RI := hide (RI.out.below hb)
  replace RZ := hide (RZ.out.below hb)
  replace k0 := hide (k0.out.trans (Keep.of_below hb))
  replace H1 := hide (H1.out.below (hb.mono (by have := H1.out.lt; omega)))
  clear hb c0 c1 c2 c3
  cases pb with
  | true =>
    have c0 := RI.out.cell 0 _ rfl
    have c1 := RI.out.cell 1 _ rfl
    have c2 := RI.out.cell 2 _ rfl
    have c3 := RI.out.cell 3 _ rfl
    go_wp2_with (refine lay4i rfl rfl _ _ rfl w.heap.size _ _ _ _ RZ.out rfl _ _ _ _ rfl ?_; intro p1 RX TX; refine Hid.out ?_)
    have FIN : Hid (Rd R (q + 8) p1 ∧ Keep R w p1) := ⟨(rd_turn H1.out TX.out hR H1.out.lt).mono (by omega), keep_up k0.out TX.out (Nat.le_refl _)⟩
    clear TX RZ RI c0 c1 c2 c3 H1 k0
    refine hide ?_
    have y0 := RX.out.cell 0 _ rfl
    have y1 := RX.out.cell 1 _ rfl
    have y2 := RX.out.cell 2 _ rfl
    have y3 := RX.out.cell 3 _ rfl
    go_wp2
    exact bodyPost_ret (v := .agg #[.int .i64 op, .int .i64 d, .int .i64 a, .int .i64 k]) (by simp [results, Try.results36, go_sem, y0, y1, y2, y3]) rfl ⟨_, _, _, _, rfl, FIN.out⟩
  | false =>
    go_wp2_with fail
    refine (wpIn_wide (n := 0)).1 ?_
    have bA : Below u3.heap.size u3 u3.drew := (Below.refl _ _).drew
    replace RI := hide (RI.out.below bA)
    replace RZ := hide (RZ.out.below bA)
    replace k0 := hide (k0.out.trans (Keep.of_below bA))
    replace H1 := hide (H1.out.below (bA.mono (by have := H1.out.lt; omega)))
    clear bA
    refine PhaseIn.region (S := fun v => Rec Xb [.int .i64 op, .int .i64 d, .int .i64 a, .int .i64 k] v) 6 (by kernel_rfl) ?_
    generalize u3.drew = d1 at RI RZ k0 H1 ⊢
    have hHeld : Rec Xb [.int .i64 op, .int .i64 d, .int .i64 a, .int .i64 k] d1 := RI.out
    clear RI
    refine PhaseIn.takeD (i := 0) (v := ?_) [0, 1, 6, 7] 9 rfl (by rfl) (by kernel_rfl) (by kernel_rfl) (by kernel_rfl) (by kernel_rfl) (by kernel_rfl) (fun _ _ _ h => h) (Or.inl ⟨by kernel_rfl, ?_⟩) hHeld ?_
    rotate_left
    · intro w' hSw
      (try dsimp only at hSw)
      go_simp
      first | done | with_reducible rfl
    try simp only [Act.put, List.setIfInBounds_toArray, List.set]
    refine PhaseIn.takeD (i := 1) (v := ?_) [1, 6, 7] 10 rfl (by rfl) (by kernel_rfl) (by kernel_rfl) (by kernel_rfl) (by kernel_rfl) (by kernel_rfl) (fun _ _ _ h => h) (Or.inl ⟨by kernel_rfl, ?_⟩) hHeld ?_
    rotate_left
    · intro w' hSw
      (try dsimp only at hSw)
      have z := hSw.cell 1 _ rfl
      go_simp
      first | done | with_reducible rfl
    try simp only [Act.put, List.setIfInBounds_toArray, List.set]
    refine PhaseIn.takeD (i := 2) (v := ?_) [2, 3, 6, 7] 11 rfl (by rfl) (by kernel_rfl) (by kernel_rfl) (by kernel_rfl) (by kernel_rfl) (by kernel_rfl) (fun _ _ _ h => h) (Or.inl ⟨by kernel_rfl, ?_⟩) hHeld ?_
    rotate_left
    · intro w' hSw
      (try dsimp only at hSw)
      go_simp
      first | done | with_reducible rfl
    try simp only [Act.put, List.setIfInBounds_toArray, List.set]
    refine PhaseIn.takeD (i := 3) (v := ?_) [3, 6, 7] 12 rfl (by rfl) (by kernel_rfl) (by kernel_rfl) (by kernel_rfl) (by kernel_rfl) (by kernel_rfl) (fun _ _ _ h => h) (Or.inl ⟨by kernel_rfl, ?_⟩) hHeld ?_
    rotate_left
    · intro w' hSw
      (try dsimp only at hSw)
      have z := hSw.cell 2 _ rfl
      go_simp
      first | done | with_reducible rfl
    try simp only [Act.put, List.setIfInBounds_toArray, List.set]
    refine PhaseIn.takeD (i := 4) (v := ?_) [4, 5, 6, 7] 13 rfl (by rfl) (by kernel_rfl) (by kernel_rfl) (by kernel_rfl) (by kernel_rfl) (by kernel_rfl) (fun _ _ _ h => h) (Or.inl ⟨by kernel_rfl, ?_⟩) hHeld ?_
    rotate_left
    · intro w' hSw
      (try dsimp only at hSw)
      go_simp
      first | done | with_reducible rfl
    try simp only [Act.put, List.setIfInBounds_toArray, List.set]
    refine PhaseIn.one (i := 5) (by kernel_rfl) rfl (by kernel_rfl) (fun K hK => ?_)
    unfold Oper.wpIn
    refine ⟨fun _ _ => trivial, ?_⟩
    go_simp
    refine ⟨rfl, (callsIn_wide.2 (pick R (q + 7) 4 d1 H1.out (by omega))).mono ?_⟩
    rintro e d2 ⟨x, rfl, x0, x1, -, h2, k2⟩
    replace hHeld := hHeld.turn k2.turn (by have := S1.out; omega)
    replace RZ := hide (RZ.out.turn k2.turn (by omega))
    replace k0 := hide (k0.out.trans k2)
    have H2 := hide h2
    refine hK _ _ (fun _ => hHeld) ?_
    clear hK K k2 h2 H1
    try simp only [Act.put, List.setIfInBounds_toArray, List.set]
    refine PhaseIn.late (i := 6) (v := ?_) (by kernel_rfl) rfl 15 (by rfl) (by omega) (Or.inl ⟨by kernel_rfl, ?_⟩) ?_
    rotate_left
    · intro w' hSw
      go_simp
      first | done | with_reducible rfl
    try simp only [Act.put, List.setIfInBounds_toArray, List.set]
    have z0 := RZ.out.cell 0 _ rfl
    have s0 := RZ.out.soft 0
    have z1 := RZ.out.cell 1 _ rfl
    have s1 := RZ.out.soft 1
    have z2 := RZ.out.cell 2 _ rfl
    have s2 := RZ.out.soft 2
    have z3 := RZ.out.cell 3 _ rfl
    have s3 := RZ.out.soft 3
    refine PhaseIn.one (i := 7) (by kernel_rfl) rfl (by kernel_rfl) (fun K hK => ?_)
    unfold Oper.wpIn
    refine ⟨fun _ _ => trivial, ?_⟩
    go_simp
    have TX : Turn w.heap.size d2 ((((d2.setCell ⟨w.heap.size, 0, none⟩ (.int .i64 3)).setCell ⟨w.heap.size, 1, none⟩ (.int .i64 d)).setCell ⟨w.heap.size, 2, none⟩ (.int .i64 a)).setCell ⟨w.heap.size, 3, none⟩ (.int .i64 x)) := ((((Turn.refl w.heap.size d2).setCell (p := ⟨w.heap.size, 0, none⟩) rfl (.int .i64 3)).setCell (p := ⟨w.heap.size, 1, none⟩) rfl (.int .i64 d)).setCell (p := ⟨w.heap.size, 2, none⟩) rfl (.int .i64 a)).setCell (p := ⟨w.heap.size, 3, none⟩) rfl (.int .i64 x)
    have RX := hide ((((RZ.out.set 0 (.int .i64 3) (by simp) (show _ = ([.int .i64 3, .int .i64 0, .int .i64 0, .int .i64 0] : List Value) from rfl)).set 1 (.int .i64 d) (by simp) (show _ = ([.int .i64 3, .int .i64 d, .int .i64 0, .int .i64 0] : List Value) from rfl)).set 2 (.int .i64 a) (by simp) (show _ = ([.int .i64 3, .int .i64 d, .int .i64 a, .int .i64 0] : List Value) from rfl)).set 3 (.int .i64 x) (by simp) (show _ = ([.int .i64 3, .int .i64 d, .int .i64 a, .int .i64 x] : List Value) from rfl))
    have FIN : Hid (Rd R (q + 8) ((((d2.setCell ⟨w.heap.size, 0, none⟩ (.int .i64 3)).setCell ⟨w.heap.size, 1, none⟩ (.int .i64 d)).setCell ⟨w.heap.size, 2, none⟩ (.int .i64 a)).setCell ⟨w.heap.size, 3, none⟩ (.int .i64 x)) ∧ Keep R w ((((d2.setCell ⟨w.heap.size, 0, none⟩ (.int .i64 3)).setCell ⟨w.heap.size, 1, none⟩ (.int .i64 d)).setCell ⟨w.heap.size, 2, none⟩ (.int .i64 a)).setCell ⟨w.heap.size, 3, none⟩ (.int .i64 x))) := ⟨rd_turn H2.out TX hR H2.out.lt, keep_up k0.out TX (Nat.le_refl _)⟩
    refine hK _ _ (fun h => absurd h (by decide)) ?_
    clear hK K TX RZ hHeld z0 z1 z2 z3 s0 s1 s2 s3 H2 k0
    try simp only [Act.put, List.setIfInBounds_toArray, List.set]
    generalize ((((d2.setCell ⟨w.heap.size, 0, none⟩ (.int .i64 3)).setCell ⟨w.heap.size, 1, none⟩ (.int .i64 d)).setCell ⟨w.heap.size, 2, none⟩ (.int .i64 a)).setCell ⟨w.heap.size, 3, none⟩ (.int .i64 x)) = p1 at RX FIN ⊢
    refine PhaseIn.done (by kernel_rfl) ?_ _
    have y0 := RX.out.cell 0 _ rfl
    have y1 := RX.out.cell 1 _ rfl
    have y2 := RX.out.cell 2 _ rfl
    have y3 := RX.out.cell 3 _ rfl
    go_wp2
    exact bodyPost_ret (v := .agg #[.int .i64 3, .int .i64 d, .int .i64 a, .int .i64 x]) (by simp [results, Try.results36, go_sem, y0, y1, y2, y3]) rfl ⟨_, _, _, _, rfl, FIN.out⟩
end Go.Proofs.Ytmmlhmhlfmafgaa.Draw
