/-
  The program's builder of a piece of code: its methods constant, get, reckon, load, store, in, out, set, ask, goTo.
-/
import Derived.Test.YtfjlnocikldhjaaLwE
namespace Go.Proofs.Ytfjlnocikldhjaa.Lw
set_option linter.unusedVariables false
set_option linter.unusedSimpArgs false
open Go.ChangeShapes Go.WideShapes Go.ChangeAt Go.RowKit IntS Flat
open InsS (In4)
open Blk (OwnN run_pushN)
open Ir (Opn Bk)
open Mch (Rec)
set_option maxRecDepth 8000 in
theorem constantB (b : Bk) (t : Int) (k9 : Int) (un : List Int) (q1 : Option Addr) (c1 : Nat) (q2 : Option Addr) (c2 lo p : Nat) (w : World) (H : Bd w lo p q1 c1 q2 c2 b t un) (hlo : lo ≤ w.heap.size) (hl : b.ops.length ≤ 900) (hu : un.length ≤ 900) :
    Calls Try.prog 70 #[.pointer (some ⟨p, 0, none⟩), .int .i64 k9] w fun e w' => Bo w lo p q1 q2 e w' ⟨b.pc, b.ln, b.ops ++ [opC k9], b.en, b.x, b.y, b.k⟩ t (un ++ [(b.ops.length : Int)]) := by
  go_enter Try.func70, Try.ntmps70
  go_wp2_with fail
  refine (makes b t un (opC k9) q1 c1 q2 c2 lo p _ H hlo (by omega) (by omega)).mono ?_
  rintro e u9 BO
  obtain ⟨rfl, r1, k1, r2, k2, hB, hM⟩ := BO
  have HB9 := hide hB
  have HM9 := hide (hM)
  clear hB hM
  go_wp2
  go_ret
  exact ⟨rfl, _, _, _, _, HB9.out, HM9.out⟩
set_option maxRecDepth 8000 in
theorem getB (b : Bk) (t : Int) (k9 : Int) (un : List Int) (q1 : Option Addr) (c1 : Nat) (q2 : Option Addr) (c2 lo p : Nat) (w : World) (H : Bd w lo p q1 c1 q2 c2 b t un) (hlo : lo ≤ w.heap.size) (hl : b.ops.length ≤ 900) (hu : un.length ≤ 900) :
    Calls Try.prog 72 #[.pointer (some ⟨p, 0, none⟩), .int .i64 k9] w fun e w' => Bo w lo p q1 q2 e w' ⟨b.pc, b.ln, b.ops ++ [opG k9], b.en, b.x, b.y, b.k⟩ t (un ++ [(b.ops.length : Int)]) := by
  go_enter Try.func72, Try.ntmps72
  go_wp2_with fail
  refine (makes b t un (opG k9) q1 c1 q2 c2 lo p _ H hlo (by omega) (by omega)).mono ?_
  rintro e u9 BO
  obtain ⟨rfl, r1, k1, r2, k2, hB, hM⟩ := BO
  have HB9 := hide hB
  have HM9 := hide (hM)
  clear hB hM
  go_wp2
  go_ret
  exact ⟨rfl, _, _, _, _, HB9.out, HM9.out⟩
set_option maxRecDepth 8000 in
theorem inB (b : Bk) (t : Int) (un : List Int) (q1 : Option Addr) (c1 : Nat) (q2 : Option Addr) (c2 lo p : Nat) (w : World) (H : Bd w lo p q1 c1 q2 c2 b t un) (hlo : lo ≤ w.heap.size) (hl : b.ops.length ≤ 900) (hu : un.length ≤ 900) :
    Calls Try.prog 79 #[.pointer (some ⟨p, 0, none⟩)] w fun e w' => Bo w lo p q1 q2 e w' ⟨b.pc, b.ln, b.ops ++ [opI t], b.en, b.x, b.y, b.k⟩ t (un ++ [(b.ops.length : Int)]) := by
  have z7 := H.r.cell 7 _ rfl
  go_enter Try.func79, Try.ntmps79
  go_wp2_with fail
  refine (makes b t un (opI t) q1 c1 q2 c2 lo p _ H hlo (by omega) (by omega)).mono ?_
  rintro e u9 BO
  obtain ⟨rfl, r1, k1, r2, k2, hB, hM⟩ := BO
  have HB9 := hide hB
  have HM9 := hide (hM)
  clear hB hM
  go_wp2
  go_ret
  exact ⟨rfl, _, _, _, _, HB9.out, HM9.out⟩
set_option maxRecDepth 8000 in
theorem reckonB (b : Bk) (t : Int) (op : Int) (us : List Int) (u v : Int) (q1 : Option Addr) (c1 : Nat) (q2 : Option Addr) (c2 lo p : Nat) (w : World) (H : Bd w lo p q1 c1 q2 c2 b t (us ++ [u, v])) (hlo : lo ≤ w.heap.size) (hl : b.ops.length ≤ 900) (hu : us.length ≤ 800) :
    Calls Try.prog 73 #[.pointer (some ⟨p, 0, none⟩), .int .i64 op] w fun e w' => Bo w lo p q1 q2 e w' ⟨b.pc, b.ln, b.ops ++ [opD op u v], b.en, b.x, b.y, b.k⟩ t (us ++ [(b.ops.length : Int)]) := by
  go_enter Try.func73, Try.ntmps73
  go_wp2_with fail
  refine (useTwo b t us u v q1 c1 q2 c2 lo p _ H (by omega)).mono ?_
  rintro e u1 ⟨rfl, B1, M1⟩
  have HB1 := hide B1
  have HM1 := hide M1
  clear B1 M1 H
  go_wp2_with fail
  refine (makes b t us (opD op u v) q1 c1 q2 c2 lo p _ HB1.out (Nat.le_trans hlo HM1.out.size) (by omega) (by omega)).mono ?_
  rintro e u9 BO
  obtain ⟨rfl, r1, k1, r2, k2, hB, hM⟩ := BO
  have HB9 := hide hB
  have HM9 := hide (HM1.out.trans hM)
  clear hB hM
  go_wp2
  go_ret
  exact ⟨rfl, _, _, _, _, HB9.out, HM9.out⟩
set_option maxRecDepth 8000 in
theorem storeB (b : Bk) (t : Int) (us : List Int) (u v : Int) (q1 : Option Addr) (c1 : Nat) (q2 : Option Addr) (c2 lo p : Nat) (w : World) (H : Bd w lo p q1 c1 q2 c2 b t (us ++ [u, v])) (hlo : lo ≤ w.heap.size) (hl : b.ops.length ≤ 900) (hu : us.length ≤ 800) :
    Calls Try.prog 75 #[.pointer (some ⟨p, 0, none⟩)] w fun e w' => Bo w lo p q1 q2 e w' ⟨b.pc, b.ln, b.ops ++ [opT u v t], b.en, b.x, b.y, b.k⟩ t us := by
  go_enter Try.func75, Try.ntmps75
  go_wp2_with fail
  refine (useTwo b t us u v q1 c1 q2 c2 lo p _ H (by omega)).mono ?_
  rintro e u1 ⟨rfl, B1, M1⟩
  have HB1 := hide B1
  have HM1 := hide M1
  clear B1 M1 H
  have z7 := HB1.out.r.cell 7 _ rfl
  go_wp2_with fail
  refine (put b t us (opT u v t) q1 c1 q2 c2 lo p _ HB1.out (Nat.le_trans hlo HM1.out.size) (by omega) (by omega)).mono ?_
  rintro e u9 BO
  obtain ⟨rfl, r1, k1, r2, k2, hB, hM⟩ := BO
  have HB9 := hide hB
  have HM9 := hide (HM1.out.trans hM)
  clear hB hM
  go_wp2
  go_ret
  exact ⟨rfl, _, _, _, _, HB9.out, HM9.out⟩
set_option maxRecDepth 8000 in
theorem setB (b : Bk) (t : Int) (r9 : Int) (us : List Int) (u : Int) (q1 : Option Addr) (c1 : Nat) (q2 : Option Addr) (c2 lo p : Nat) (w : World) (H : Bd w lo p q1 c1 q2 c2 b t (us ++ [u])) (hlo : lo ≤ w.heap.size) (hl : b.ops.length ≤ 900) (hu : us.length ≤ 800) :
    Calls Try.prog 71 #[.pointer (some ⟨p, 0, none⟩), .int .i64 r9] w fun e w' => Bo w lo p q1 q2 e w' ⟨b.pc, b.ln, b.ops ++ [opS u r9], b.en, b.x, b.y, b.k⟩ t us := by
  go_enter Try.func71, Try.ntmps71
  go_wp2_with fail
  refine (use b t us u q1 c1 q2 c2 lo p _ H (by omega)).mono ?_
  rintro e u1 ⟨rfl, B1, M1⟩
  have HB1 := hide B1
  have HM1 := hide M1
  clear B1 M1 H
  go_wp2_with fail
  refine (put b t us (opS u r9) q1 c1 q2 c2 lo p _ HB1.out (Nat.le_trans hlo HM1.out.size) (by omega) (by omega)).mono ?_
  rintro e u9 BO
  obtain ⟨rfl, r1, k1, r2, k2, hB, hM⟩ := BO
  have HB9 := hide hB
  have HM9 := hide (HM1.out.trans hM)
  clear hB hM
  go_wp2
  go_ret
  exact ⟨rfl, _, _, _, _, HB9.out, HM9.out⟩
set_option maxRecDepth 8000 in
theorem askB (b : Bk) (t : Int) (e9 k9 : Int) (us : List Int) (u v : Int) (q1 : Option Addr) (c1 : Nat) (q2 : Option Addr) (c2 lo p : Nat) (w : World) (H : Bd w lo p q1 c1 q2 c2 b t (us ++ [u, v])) (hlo : lo ≤ w.heap.size) (hl : b.ops.length ≤ 900) (hu : us.length ≤ 800) :
    Calls Try.prog 76 #[.pointer (some ⟨p, 0, none⟩), .int .i64 e9, .int .i64 k9] w fun e w' => Bo w lo p q1 q2 e w' ⟨b.pc, b.ln, b.ops, e9, u, v, k9⟩ t us := by
  go_enter Try.func76, Try.ntmps76
  go_wp2_with fail
  refine (useTwo b t us u v q1 c1 q2 c2 lo p _ H (by omega)).mono ?_
  rintro e u1 ⟨rfl, B1, M1⟩
  have HB1 := hide B1
  have HM1 := hide M1
  clear B1 M1 H
  go_wp2_with fail
  refine (endB b t us e9 u v k9 q1 c1 q2 c2 lo p _ HB1.out).mono ?_
  rintro e u9 BO
  obtain ⟨rfl, r1, k1, r2, k2, hB, hM⟩ := BO
  have HB9 := hide hB
  have HM9 := hide (HM1.out.trans hM)
  clear hB hM
  go_wp2
  go_ret
  exact ⟨rfl, _, _, _, _, HB9.out, HM9.out⟩
set_option maxRecDepth 8000 in
theorem goToB (b : Bk) (t : Int) (us : List Int) (u : Int) (q1 : Option Addr) (c1 : Nat) (q2 : Option Addr) (c2 lo p : Nat) (w : World) (H : Bd w lo p q1 c1 q2 c2 b t (us ++ [u])) (hlo : lo ≤ w.heap.size) (hl : b.ops.length ≤ 900) (hu : us.length ≤ 800) :
    Calls Try.prog 77 #[.pointer (some ⟨p, 0, none⟩)] w fun e w' => Bo w lo p q1 q2 e w' ⟨b.pc, b.ln, b.ops, 2, u, 0, 0⟩ t us := by
  go_enter Try.func77, Try.ntmps77
  go_wp2_with fail
  refine (use b t us u q1 c1 q2 c2 lo p _ H (by omega)).mono ?_
  rintro e u1 ⟨rfl, B1, M1⟩
  have HB1 := hide B1
  have HM1 := hide M1
  clear B1 M1 H
  go_wp2_with fail
  refine (endB b t us 2 u 0 0 q1 c1 q2 c2 lo p _ HB1.out).mono ?_
  rintro e u9 BO
  obtain ⟨rfl, r1, k1, r2, k2, hB, hM⟩ := BO
  have HB9 := hide hB
  have HM9 := hide (HM1.out.trans hM)
  clear hB hM
  go_wp2
  go_ret
  exact ⟨rfl, _, _, _, _, HB9.out, HM9.out⟩
set_option maxRecDepth 8000 in
theorem loadB (b : Bk) (t : Int) (us : List Int) (u : Int) (q1 : Option Addr) (c1 : Nat) (q2 : Option Addr) (c2 lo p : Nat) (w : World) (H : Bd w lo p q1 c1 q2 c2 b t (us ++ [u])) (hlo : lo ≤ w.heap.size) (hl : b.ops.length ≤ 900) (hu : us.length ≤ 800) :
    Calls Try.prog 74 #[.pointer (some ⟨p, 0, none⟩)] w fun e w' => Bo w lo p q1 q2 e w' ⟨b.pc, b.ln, b.ops ++ [opL u t], b.en, b.x, b.y, b.k⟩ t (us ++ [(b.ops.length : Int)]) := by
  have hHeld : w.drew.cell? ⟨p, 7, none⟩ = some (.int .i64 t) ∧ True := ⟨(H.r.below (Below.refl _ _).drew).cell 7 _ rfl, trivial⟩
  have bA : Below w.heap.size w w.drew := (Below.refl _ _).drew
  have HB0 := hide (H.below bA)
  have HM0 := hide (Mb.of_below p q1 q2 bA)
  clear bA
  go_enter Try.func74, Try.ntmps74
  go_wp2_with fail
  refine (wpIn_wide (n := 0)).1 ?_
  refine PhaseIn.region (S := fun w' => w'.cell? ⟨p, 7, none⟩ = some (.int .i64 t) ∧ True) 8 (by kernel_rfl) ?_
  generalize w.drew = d1 at HB0 HM0 hHeld ⊢
  refine PhaseIn.takeD (i := 0) (v := ?_) [0, 8, 9] 3 rfl (by rfl) (by kernel_rfl) (by kernel_rfl) (by kernel_rfl) (by kernel_rfl) (by kernel_rfl) (fun _ _ _ h => h) (Or.inl ⟨by kernel_rfl, ?_⟩) hHeld ?_
  rotate_left
  · intro w' hSw
    (try dsimp only at hSw)
    go_simp
    first | done | with_reducible rfl
  try simp only [Act.put, List.setIfInBounds_toArray, List.set]
  refine PhaseIn.takeD (i := 1) (v := ?_) [1, 2, 7, 8, 9] 4 rfl (by rfl) (by kernel_rfl) (by kernel_rfl) (by kernel_rfl) (by kernel_rfl) (by kernel_rfl) (fun _ _ _ h => h) (Or.inl ⟨by kernel_rfl, ?_⟩) hHeld ?_
  rotate_left
  · intro w' hSw
    (try dsimp only at hSw)
    go_simp
    first | done | with_reducible rfl
  try simp only [Act.put, List.setIfInBounds_toArray, List.set]
  refine PhaseIn.takeD (i := 3) (v := ?_) [3, 4, 5, 6, 7, 8, 9] 6 rfl (by rfl) (by kernel_rfl) (by kernel_rfl) (by kernel_rfl) (by kernel_rfl) (by kernel_rfl) (fun _ _ _ h => h) (Or.inl ⟨by kernel_rfl, ?_⟩) hHeld ?_
  rotate_left
  · intro w' hSw
    (try dsimp only at hSw)
    go_simp
    first | done | with_reducible rfl
  try simp only [Act.put, List.setIfInBounds_toArray, List.set]
  refine PhaseIn.takeD (i := 4) (v := ?_) [4, 5, 6, 7, 8, 9] 7 rfl (by rfl) (by kernel_rfl) (by kernel_rfl) (by kernel_rfl) (by kernel_rfl) (by kernel_rfl) (fun _ _ _ h => h) (Or.inl ⟨by kernel_rfl, ?_⟩) hHeld ?_
  rotate_left
  · intro w' hSw
    (try dsimp only at hSw)
    go_simp
    first | done | with_reducible rfl
  try simp only [Act.put, List.setIfInBounds_toArray, List.set]
  refine PhaseIn.takeD (i := 5) (v := ?_) [5, 6, 7, 8, 9] 8 rfl (by rfl) (by kernel_rfl) (by kernel_rfl) (by kernel_rfl) (by kernel_rfl) (by kernel_rfl) (fun _ _ _ h => h) (Or.inl ⟨by kernel_rfl, ?_⟩) hHeld ?_
  rotate_left
  · intro w' hSw
    (try dsimp only at hSw)
    go_simp
    first | done | with_reducible rfl
  try simp only [Act.put, List.setIfInBounds_toArray, List.set]
  refine PhaseIn.takeD (i := 6) (v := ?_) [6, 7, 8, 9] 9 rfl (by rfl) (by kernel_rfl) (by kernel_rfl) (by kernel_rfl) (by kernel_rfl) (by kernel_rfl) (fun _ _ _ h => h) (Or.inl ⟨by kernel_rfl, ?_⟩) hHeld ?_
  rotate_left
  · intro w' hSw
    (try dsimp only at hSw)
    have z0 := hSw.1
    go_simp
    first | done | with_reducible rfl
  try simp only [Act.put, List.setIfInBounds_toArray, List.set]
  refine PhaseIn.one (i := 2) (by kernel_rfl) rfl (by kernel_rfl) (fun K hK => ?_)
  unfold Oper.wpIn
  refine ⟨fun _ _ => trivial, ?_⟩
  go_simp
  refine ⟨rfl, (callsIn_wide.2 (use b t us u q1 c1 q2 c2 lo p _ HB0.out (by omega))).mono ?_⟩
  rintro e u1 ⟨rfl, B1, M1⟩
  have hHeld2 : u1.cell? ⟨p, 7, none⟩ = some (.int .i64 t) ∧ True := ⟨B1.r.cell 7 _ rfl, trivial⟩
  refine hK _ _ (fun _ => hHeld2) ?_
  have HB1 := hide B1
  have HM1 := hide (HM0.out.trans M1)
  clear hK K B1 M1 HB0 HM0 hHeld
  try simp only [Act.put, List.setIfInBounds_toArray, List.set]
  refine PhaseIn.takeD (i := 7) (v := ?_) [7, 8, 9] 10 rfl (by rfl) (by kernel_rfl) (by kernel_rfl) (by kernel_rfl) (by kernel_rfl) (by kernel_rfl) (fun _ _ _ h => h) (Or.inl ⟨by kernel_rfl, ?_⟩) hHeld2 ?_
  rotate_left
  · intro w' hSw
    (try dsimp only at hSw)
    go_simp
    first | done | with_reducible rfl
  try simp only [Act.put, List.setIfInBounds_toArray, List.set]
  refine PhaseIn.one (i := 8) (by kernel_rfl) rfl (by kernel_rfl) (fun K hK => ?_)
  unfold Oper.wpIn
  refine ⟨fun _ _ => trivial, ?_⟩
  go_simp
  refine ⟨rfl, (callsIn_wide.2 (makes b t us (opL u t) q1 c1 q2 c2 lo p _ HB1.out (Nat.le_trans hlo HM1.out.size) (by omega) (by omega))).mono ?_⟩
  rintro e u9 ⟨rfl, r1, k1, r2, k2, hB, hM⟩
  refine hK _ _ (fun h => absurd h (by omega)) ?_
  have HB9 := hide hB
  have HM9 := hide (HM1.out.trans hM)
  clear hK K hB hM HB1 HM1 hHeld2
  try simp only [Act.put, List.setIfInBounds_toArray, List.set]
  refine PhaseIn.late (i := 9) (v := ?_) (by kernel_rfl) rfl 2 (by rfl) (by omega) (Or.inl ⟨by kernel_rfl, ?_⟩) ?_
  rotate_left
  · intro w' hSw
    go_simp
    first | done | with_reducible rfl
  try simp only [Act.put, List.setIfInBounds_toArray, List.set]
  refine PhaseIn.done (by kernel_rfl) ?_ _
  go_wp2
  go_ret
  exact ⟨rfl, _, _, _, _, HB9.out, HM9.out⟩
set_option maxRecDepth 8000 in
theorem outB (b : Bk) (t : Int) (us : List Int) (u : Int) (q1 : Option Addr) (c1 : Nat) (q2 : Option Addr) (c2 lo p : Nat) (w : World) (H : Bd w lo p q1 c1 q2 c2 b t (us ++ [u])) (hlo : lo ≤ w.heap.size) (hl : b.ops.length ≤ 900) (hu : us.length ≤ 800) :
    Calls Try.prog 78 #[.pointer (some ⟨p, 0, none⟩)] w fun e w' => Bo w lo p q1 q2 e w' ⟨b.pc, b.ln, b.ops ++ [opU u t], b.en, b.x, b.y, b.k⟩ t us := by
  have hHeld : w.drew.cell? ⟨p, 7, none⟩ = some (.int .i64 t) ∧ True := ⟨(H.r.below (Below.refl _ _).drew).cell 7 _ rfl, trivial⟩
  have bA : Below w.heap.size w w.drew := (Below.refl _ _).drew
  have HB0 := hide (H.below bA)
  have HM0 := hide (Mb.of_below p q1 q2 bA)
  clear bA
  go_enter Try.func78, Try.ntmps78
  go_wp2_with fail
  refine (wpIn_wide (n := 0)).1 ?_
  refine PhaseIn.region (S := fun w' => w'.cell? ⟨p, 7, none⟩ = some (.int .i64 t) ∧ True) 8 (by kernel_rfl) ?_
  generalize w.drew = d1 at HB0 HM0 hHeld ⊢
  refine PhaseIn.takeD (i := 0) (v := ?_) [0, 8, 9] 3 rfl (by rfl) (by kernel_rfl) (by kernel_rfl) (by kernel_rfl) (by kernel_rfl) (by kernel_rfl) (fun _ _ _ h => h) (Or.inl ⟨by kernel_rfl, ?_⟩) hHeld ?_
  rotate_left
  · intro w' hSw
    (try dsimp only at hSw)
    go_simp
    first | done | with_reducible rfl
  try simp only [Act.put, List.setIfInBounds_toArray, List.set]
  refine PhaseIn.takeD (i := 1) (v := ?_) [1, 2, 7, 8, 9] 4 rfl (by rfl) (by kernel_rfl) (by kernel_rfl) (by kernel_rfl) (by kernel_rfl) (by kernel_rfl) (fun _ _ _ h => h) (Or.inl ⟨by kernel_rfl, ?_⟩) hHeld ?_
  rotate_left
  · intro w' hSw
    (try dsimp only at hSw)
    go_simp
    first | done | with_reducible rfl
  try simp only [Act.put, List.setIfInBounds_toArray, List.set]
  refine PhaseIn.takeD (i := 3) (v := ?_) [3, 4, 5, 6, 7, 8, 9] 6 rfl (by rfl) (by kernel_rfl) (by kernel_rfl) (by kernel_rfl) (by kernel_rfl) (by kernel_rfl) (fun _ _ _ h => h) (Or.inl ⟨by kernel_rfl, ?_⟩) hHeld ?_
  rotate_left
  · intro w' hSw
    (try dsimp only at hSw)
    go_simp
    first | done | with_reducible rfl
  try simp only [Act.put, List.setIfInBounds_toArray, List.set]
  refine PhaseIn.takeD (i := 4) (v := ?_) [4, 5, 6, 7, 8, 9] 7 rfl (by rfl) (by kernel_rfl) (by kernel_rfl) (by kernel_rfl) (by kernel_rfl) (by kernel_rfl) (fun _ _ _ h => h) (Or.inl ⟨by kernel_rfl, ?_⟩) hHeld ?_
  rotate_left
  · intro w' hSw
    (try dsimp only at hSw)
    go_simp
    first | done | with_reducible rfl
  try simp only [Act.put, List.setIfInBounds_toArray, List.set]
  refine PhaseIn.takeD (i := 5) (v := ?_) [5, 6, 7, 8, 9] 8 rfl (by rfl) (by kernel_rfl) (by kernel_rfl) (by kernel_rfl) (by kernel_rfl) (by kernel_rfl) (fun _ _ _ h => h) (Or.inl ⟨by kernel_rfl, ?_⟩) hHeld ?_
  rotate_left
  · intro w' hSw
    (try dsimp only at hSw)
    go_simp
    first | done | with_reducible rfl
  try simp only [Act.put, List.setIfInBounds_toArray, List.set]
  refine PhaseIn.takeD (i := 6) (v := ?_) [6, 7, 8, 9] 9 rfl (by rfl) (by kernel_rfl) (by kernel_rfl) (by kernel_rfl) (by kernel_rfl) (by kernel_rfl) (fun _ _ _ h => h) (Or.inl ⟨by kernel_rfl, ?_⟩) hHeld ?_
  rotate_left
  · intro w' hSw
    (try dsimp only at hSw)
    have z0 := hSw.1
    go_simp
    first | done | with_reducible rfl
  try simp only [Act.put, List.setIfInBounds_toArray, List.set]
  refine PhaseIn.one (i := 2) (by kernel_rfl) rfl (by kernel_rfl) (fun K hK => ?_)
  unfold Oper.wpIn
  refine ⟨fun _ _ => trivial, ?_⟩
  go_simp
  refine ⟨rfl, (callsIn_wide.2 (use b t us u q1 c1 q2 c2 lo p _ HB0.out (by omega))).mono ?_⟩
  rintro e u1 ⟨rfl, B1, M1⟩
  have hHeld2 : u1.cell? ⟨p, 7, none⟩ = some (.int .i64 t) ∧ True := ⟨B1.r.cell 7 _ rfl, trivial⟩
  refine hK _ _ (fun _ => hHeld2) ?_
  have HB1 := hide B1
  have HM1 := hide (HM0.out.trans M1)
  clear hK K B1 M1 HB0 HM0 hHeld
  try simp only [Act.put, List.setIfInBounds_toArray, List.set]
  refine PhaseIn.takeD (i := 7) (v := ?_) [7, 8, 9] 10 rfl (by rfl) (by kernel_rfl) (by kernel_rfl) (by kernel_rfl) (by kernel_rfl) (by kernel_rfl) (fun _ _ _ h => h) (Or.inl ⟨by kernel_rfl, ?_⟩) hHeld2 ?_
  rotate_left
  · intro w' hSw
    (try dsimp only at hSw)
    go_simp
    first | done | with_reducible rfl
  try simp only [Act.put, List.setIfInBounds_toArray, List.set]
  refine PhaseIn.one (i := 8) (by kernel_rfl) rfl (by kernel_rfl) (fun K hK => ?_)
  unfold Oper.wpIn
  refine ⟨fun _ _ => trivial, ?_⟩
  go_simp
  refine ⟨rfl, (callsIn_wide.2 (put b t us (opU u t) q1 c1 q2 c2 lo p _ HB1.out (Nat.le_trans hlo HM1.out.size) (by omega) (by omega))).mono ?_⟩
  rintro e u9 ⟨rfl, r1, k1, r2, k2, hB, hM⟩
  refine hK _ _ (fun h => absurd h (by omega)) ?_
  have HB9 := hide hB
  have HM9 := hide (HM1.out.trans hM)
  clear hK K hB hM HB1 HM1 hHeld2
  try simp only [Act.put, List.setIfInBounds_toArray, List.set]
  refine PhaseIn.late (i := 9) (v := ?_) (by kernel_rfl) rfl 2 (by rfl) (by omega) (Or.inl ⟨by kernel_rfl, ?_⟩) ?_
  rotate_left
  · intro w' hSw
    go_simp
    first | done | with_reducible rfl
  try simp only [Act.put, List.setIfInBounds_toArray, List.set]
  refine PhaseIn.done (by kernel_rfl) ?_ _
  go_wp2
  go_ret
  exact ⟨rfl, _, _, _, _, HB9.out, HM9.out⟩
end Go.Proofs.Ytfjlnocikldhjaa.Lw
