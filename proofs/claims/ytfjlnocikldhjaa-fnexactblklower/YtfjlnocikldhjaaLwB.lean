/-
  Operations put behind a piece of code: the specification's l7Put, l7Get, l7Set, l7Reckon.
-/
import Derived.Test.YtfjlnocikldhjaaLwA
import Derived.Test.YtfjlnocikldhjaaPhaseIn
namespace Go.Proofs.Ytfjlnocikldhjaa.Lw
set_option linter.unusedVariables false
set_option linter.unusedSimpArgs false
open Go.ChangeShapes Go.WideShapes Go.ChangeAt Go.RowKit IntS Flat
open InsS (In4)
open Ir (Opn Bk bv ORow RBk OpAt lay7)
open Mch (Rec Three Two One)
/-- A struct of a piece of code, its operations in slice q. -/
def bx (b : Bk) (q : Option Addr) (c : Nat) : Value := .agg #[.int .i64 b.pc, .int .i64 b.ln, .slice q b.ops.length c, .int .i64 b.en, .int .i64 b.x, .int .i64 b.y, .int .i64 b.k]
/-- A piece of code, told by value. -/
structure Ret (w : World) (lo : Nat) (q : Option Addr) (w' : World) (b : Bk) (q' : Option Addr) (c' : Nat) : Prop where
  own : OwnO w' lo (.slice q' b.ops.length c') b.ops
  mv : Mv w q w' q'
theorem q_far {w : World} {lo c : Nat} {q : Option Addr} {os : List Opn} (H : OwnO w lo (.slice q os.length c) os) (Z : Nat) (hZ : w.heap.size ≤ Z) : q ≠ some ⟨Z, 0, none⟩ := fun e => by have := (H.q_lt e).2; omega
theorem own_mv {w w' : World} {lo c : Nat} {q q' : Option Addr} {os : List Opn} (H : OwnO w lo (.slice q os.length c) os) (Z : Nat) {w'' : World} (ht : Turn Z w w'') (hq : q ≠ some ⟨Z, 0, none⟩) : OwnO w'' lo (.slice q os.length c) os := H.apart ht (fun G e h => hq (by rw [e, h]))

set_option maxRecDepth 8000 in
set_option maxHeartbeats 8000000 in
theorem l7Put (b : Bk) (o : Opn) (q : Option Addr) (c lo : Nat) (w : World) (H : OwnO w lo (.slice q b.ops.length c) b.ops) (hlo : lo ≤ w.heap.size) (hl : b.ops.length ≤ 1000000) :
    Calls Try.prog 62 #[bx b q c, .agg #[.int .i64 o.kd, .int .i64 o.x, .int .i64 o.y, .int .i64 o.k, .int .i64 o.t]] w fun e w' => ∃ q' c', e = .returned (.tuple #[bx ⟨b.pc, b.ln, b.ops ++ [o], b.en, b.x, b.y, b.k⟩ q' c', .int .i64 b.ops.length]) ∧ Ret w lo q w' ⟨b.pc, b.ln, b.ops ++ [o], b.en, b.x, b.y, b.k⟩ q' c' := by
  obtain ⟨pc, ln, ops, en, x, y, k⟩ := b
  obtain ⟨kd, ox, oy, ok, ot⟩ := o
  unfold bx
  simp only [] at H hl ⊢
  have T := Three.new w [.int .i64 pc, .int .i64 ln, .slice q ops.length c, .int .i64 en, .int .i64 x, .int .i64 y, .int .i64 k] [.int .i64 kd, .int .i64 ox, .int .i64 oy, .int .i64 ok, .int .i64 ot] [.int .i64 0, .int .i64 0, .slice none 0 0, .int .i64 0, .int .i64 0, .int .i64 0, .int .i64 0] 42 82 42
  have sz : (((w.alloc (.cells #[.int .i64 pc, .int .i64 ln, .slice q ops.length c, .int .i64 en, .int .i64 x, .int .i64 y, .int .i64 k] 42)).alloc (.cells #[.int .i64 kd, .int .i64 ox, .int .i64 oy, .int .i64 ok, .int .i64 ot] 82)).alloc (.cells #[.int .i64 0, .int .i64 0, .slice none 0 0, .int .i64 0, .int .i64 0, .int .i64 0, .int .i64 0] 42)).heap.size = w.heap.size + 1 + 1 + 1 := by simp
  have FQ := q_far H
  have N0 := Rec.new (((w.alloc (.cells #[.int .i64 pc, .int .i64 ln, .slice q ops.length c, .int .i64 en, .int .i64 x, .int .i64 y, .int .i64 k] 42)).alloc (.cells #[.int .i64 kd, .int .i64 ox, .int .i64 oy, .int .i64 ok, .int .i64 ot] 82)).alloc (.cells #[.int .i64 0, .int .i64 0, .slice none 0 0, .int .i64 0, .int .i64 0, .int .i64 0, .int .i64 0] 42)) [.int .i64 kd, .int .i64 ox, .int .i64 oy, .int .i64 ok, .int .i64 ot] 82
  rw [sz] at N0
  have b3 : Below (((w.alloc (.cells #[.int .i64 pc, .int .i64 ln, .slice q ops.length c, .int .i64 en, .int .i64 x, .int .i64 y, .int .i64 k] 42)).alloc (.cells #[.int .i64 kd, .int .i64 ox, .int .i64 oy, .int .i64 ok, .int .i64 ot] 82)).alloc (.cells #[.int .i64 0, .int .i64 0, .slice none 0 0, .int .i64 0, .int .i64 0, .int .i64 0, .int .i64 0] 42)).heap.size (((w.alloc (.cells #[.int .i64 pc, .int .i64 ln, .slice q ops.length c, .int .i64 en, .int .i64 x, .int .i64 y, .int .i64 k] 42)).alloc (.cells #[.int .i64 kd, .int .i64 ox, .int .i64 oy, .int .i64 ok, .int .i64 ot] 82)).alloc (.cells #[.int .i64 0, .int .i64 0, .slice none 0 0, .int .i64 0, .int .i64 0, .int .i64 0, .int .i64 0] 42)) ((((w.alloc (.cells #[.int .i64 pc, .int .i64 ln, .slice q ops.length c, .int .i64 en, .int .i64 x, .int .i64 y, .int .i64 k] 42)).alloc (.cells #[.int .i64 kd, .int .i64 ox, .int .i64 oy, .int .i64 ok, .int .i64 ot] 82)).alloc (.cells #[.int .i64 0, .int .i64 0, .slice none 0 0, .int .i64 0, .int .i64 0, .int .i64 0, .int .i64 0] 42)).alloc (.cells #[.int .i64 kd, .int .i64 ox, .int .i64 oy, .int .i64 ok, .int .i64 ot] 82)) := (Below.refl _ _).alloc (Nat.le_refl _) _
  have BA := T.bw.trans (b3.mono T.bw.size)
  have OA := H.below BA
  have T1 := T.below b3
  obtain ⟨g', c', u3, hrun, ho, hg, hgl, gr⟩ := run_pushO (ty := 40) (w := (((w.alloc (.cells #[.int .i64 pc, .int .i64 ln, .slice q ops.length c, .int .i64 en, .int .i64 x, .int .i64 y, .int .i64 k] 42)).alloc (.cells #[.int .i64 kd, .int .i64 ox, .int .i64 oy, .int .i64 ok, .int .i64 ot] 82)).alloc (.cells #[.int .i64 0, .int .i64 0, .slice none 0 0, .int .i64 0, .int .i64 0, .int .i64 0, .int .i64 0] 42)).alloc (.cells #[.int .i64 kd, .int .i64 ox, .int .i64 oy, .int .i64 ok, .int .i64 ot] 82)) OA (by omega) (Nat.le_trans hlo BA.size) (w.heap.size + 1 + 1 + 1) ⟨kd, ox, oy, ok, ot⟩ N0
  have M3 := Mv.push gr (OA.q_form.imp (fun e => e.1) id) hg
  obtain ⟨RB, nb⟩ := M3.box T1.a (FQ _ (by omega))
  obtain ⟨RZ0, nz⟩ := M3.box T1.o (FQ _ (by omega))
  have MW := hide ((Mv.of_below q BA).trans M3)
  have OO : Hid (OwnF 82 5 u3 lo (.slice (some ⟨g', 0, none⟩) (ops.length + 1) c') (ops.length + 1) (flatO (ops ++ [⟨kd, ox, oy, ok, ot⟩]))) := by have h9 := ho; unfold OwnO at h9; rw [List.length_append] at h9; exact h9
  have RA := hide RB
  have RZ := hide RZ0
  have NN := hide (And.intro nb nz)
  clear T sz N0 b3 BA OA T1 ho hg hgl gr M3 RB RZ0 nb nz FQ H
  go_enter Try.func62, Try.ntmps62
  have a2 := RA.out.cell 2 _ rfl
  have s2 := RA.out.soft 2
  go_wp2_with (at_builtin; refine push_list rfl _ _ rfl rfl rfl hrun ?_; refine Hid.out ?_)
  clear hrun
  have t1 : Turn (w.heap.size) u3 (u3.setCell ⟨w.heap.size, 2, none⟩ (.slice (some ⟨g', 0, none⟩) (ops.length + 1) c')) := (Turn.refl _ u3).setCell (p := ⟨w.heap.size, 2, none⟩) rfl _
  have RA1 := hide (RA.out.set 2 (.slice (some ⟨g', 0, none⟩) (ops.length + 1) c') (by simp) rfl)
  replace RZ := hide (RZ.out.turn t1 (by omega))
  replace MW := hide (MW.out.turn t1 (Nat.le_refl _))
  replace OO := hide (OO.out.apart t1 (fun G e h => NN.out.1 (by rw [e, h])))
  clear RA t1
  refine hide ?_
  go_wp2_with fail
  generalize (u3.setCell ⟨w.heap.size, 2, none⟩ (.slice (some ⟨g', 0, none⟩) (ops.length + 1) c')) = u4 at RA1 RZ MW OO ⊢
  refine (wpIn_wide (n := 0)).1 ?_
  have bA : Below u4.heap.size u4 u4.drew := (Below.refl _ _).drew
  replace RA1 := hide (RA1.out.below bA)
  replace RZ := hide (RZ.out.below bA)
  replace MW := hide (MW.out.trans (Mv.of_below _ bA))
  replace OO := hide (OO.out.below bA)
  clear a2 s2
  refine PhaseIn.region (S := fun w' => Rec (w.heap.size) [.int .i64 pc, .int .i64 ln, (.slice (some ⟨g', 0, none⟩) (ops.length + 1) c'), .int .i64 en, .int .i64 x, .int .i64 y, .int .i64 k] w' ∧ True) 7 (by kernel_rfl) ?_
  generalize u4.drew = d1 at RA1 RZ MW OO ⊢
  have hHeld : Rec (w.heap.size) [.int .i64 pc, .int .i64 ln, (.slice (some ⟨g', 0, none⟩) (ops.length + 1) c'), .int .i64 en, .int .i64 x, .int .i64 y, .int .i64 k] d1 ∧ True := ⟨RA1.out, trivial⟩
  clear bA
  refine PhaseIn.takeD (i := 0) (v := ?_) [0, 5, 6] 12 rfl (by rfl) (by kernel_rfl) (by kernel_rfl) (by kernel_rfl) (by kernel_rfl) (by kernel_rfl) (fun _ _ _ h => h) (Or.inl ⟨by kernel_rfl, ?_⟩) hHeld ?_
  rotate_left
  · intro w' hSw
    (try dsimp only at hSw)
    have z0 := hSw.1.cell 0 _ rfl; have z1 := hSw.1.cell 1 _ rfl; have z2 := hSw.1.cell 2 _ rfl; have z3 := hSw.1.cell 3 _ rfl; have z4 := hSw.1.cell 4 _ rfl; have z5 := hSw.1.cell 5 _ rfl; have z6 := hSw.1.cell 6 _ rfl
    go_simp
    first | done | with_reducible rfl
  try simp only [Act.put, List.setIfInBounds_toArray, List.set]
  refine PhaseIn.takeD (i := 1) (v := ?_) [1, 2, 3, 4, 6] 13 rfl (by rfl) (by kernel_rfl) (by kernel_rfl) (by kernel_rfl) (by kernel_rfl) (by kernel_rfl) (fun _ _ _ h => h) (Or.inl ⟨by kernel_rfl, ?_⟩) hHeld ?_
  rotate_left
  · intro w' hSw
    (try dsimp only at hSw)
    go_simp
    first | done | with_reducible rfl
  try simp only [Act.put, List.setIfInBounds_toArray, List.set]
  refine PhaseIn.takeD (i := 2) (v := ?_) [2, 3, 4, 6] 14 rfl (by rfl) (by kernel_rfl) (by kernel_rfl) (by kernel_rfl) (by kernel_rfl) (by kernel_rfl) (fun _ _ _ h => h) (Or.inl ⟨by kernel_rfl, ?_⟩) hHeld ?_
  rotate_left
  · intro w' hSw
    (try dsimp only at hSw)
    have z2 := hSw.1.cell 2 _ rfl
    go_simp
    first | done | with_reducible rfl
  try simp only [Act.put, List.setIfInBounds_toArray, List.set]
  refine PhaseIn.takeD (i := 3) (v := ?_) [3, 4, 6] 15 rfl (by rfl) (by kernel_rfl) (by kernel_rfl) (by kernel_rfl) (by kernel_rfl) (by kernel_rfl) (fun _ _ _ h => h) (Or.inl ⟨by kernel_rfl, ?_⟩) hHeld ?_
  rotate_left
  · intro w' hSw
    (try dsimp only at hSw)
    go_simp
    first | done | with_reducible rfl
  try simp only [Act.put, List.setIfInBounds_toArray, List.set]
  refine PhaseIn.takeD (i := 4) (v := ?_) [4, 6] 16 rfl (by rfl) (by kernel_rfl) (by kernel_rfl) (by kernel_rfl) (by kernel_rfl) (by kernel_rfl) (fun _ _ _ h => h) (Or.inl ⟨by kernel_rfl, ?_⟩) hHeld ?_
  rotate_left
  · intro w' hSw
    (try dsimp only at hSw)
    go_simp
    first | done | with_reducible rfl
  try simp only [Act.put, List.setIfInBounds_toArray, List.set]
  have z0 := RZ.out.cell 0 _ rfl
  have s0 := RZ.out.soft 0
  have z1 := RZ.out.cell 1 _ rfl
  have s1 := RZ.out.soft 1
  have z2 := RZ.out.cell 2 _ rfl
  have s2 := RZ.out.soft 2
  have z3 := RZ.out.cell 3 _ rfl
  have s3 := RZ.out.soft 3
  have z4 := RZ.out.cell 4 _ rfl
  have s4 := RZ.out.soft 4
  have z5 := RZ.out.cell 5 _ rfl
  have s5 := RZ.out.soft 5
  have z6 := RZ.out.cell 6 _ rfl
  have s6 := RZ.out.soft 6
  refine PhaseIn.one (i := 5) (by kernel_rfl) rfl (by kernel_rfl) (fun K hK => ?_)
  unfold Oper.wpIn
  refine ⟨fun _ _ => trivial, ?_⟩
  go_simp
  have t7 : Turn (w.heap.size + 1 + 1) d1 (((((((d1.setCell ⟨w.heap.size + 1 + 1, 0, none⟩ (.int .i64 pc)).setCell ⟨w.heap.size + 1 + 1, 1, none⟩ (.int .i64 ln)).setCell ⟨w.heap.size + 1 + 1, 2, none⟩ ((.slice (some ⟨g', 0, none⟩) (ops.length + 1) c'))).setCell ⟨w.heap.size + 1 + 1, 3, none⟩ (.int .i64 en)).setCell ⟨w.heap.size + 1 + 1, 4, none⟩ (.int .i64 x)).setCell ⟨w.heap.size + 1 + 1, 5, none⟩ (.int .i64 y)).setCell ⟨w.heap.size + 1 + 1, 6, none⟩ (.int .i64 k)) := ((((((((Turn.refl (w.heap.size + 1 + 1) d1).setCell (p := ⟨w.heap.size + 1 + 1, 0, none⟩) rfl (.int .i64 pc)).setCell (p := ⟨w.heap.size + 1 + 1, 1, none⟩) rfl (.int .i64 ln)).setCell (p := ⟨w.heap.size + 1 + 1, 2, none⟩) rfl ((.slice (some ⟨g', 0, none⟩) (ops.length + 1) c'))).setCell (p := ⟨w.heap.size + 1 + 1, 3, none⟩) rfl (.int .i64 en)).setCell (p := ⟨w.heap.size + 1 + 1, 4, none⟩) rfl (.int .i64 x)).setCell (p := ⟨w.heap.size + 1 + 1, 5, none⟩) rfl (.int .i64 y)).setCell (p := ⟨w.heap.size + 1 + 1, 6, none⟩) rfl (.int .i64 k))
  have hHeld2 : Rec (w.heap.size) [.int .i64 pc, .int .i64 ln, (.slice (some ⟨g', 0, none⟩) (ops.length + 1) c'), .int .i64 en, .int .i64 x, .int .i64 y, .int .i64 k] (((((((d1.setCell ⟨w.heap.size + 1 + 1, 0, none⟩ (.int .i64 pc)).setCell ⟨w.heap.size + 1 + 1, 1, none⟩ (.int .i64 ln)).setCell ⟨w.heap.size + 1 + 1, 2, none⟩ ((.slice (some ⟨g', 0, none⟩) (ops.length + 1) c'))).setCell ⟨w.heap.size + 1 + 1, 3, none⟩ (.int .i64 en)).setCell ⟨w.heap.size + 1 + 1, 4, none⟩ (.int .i64 x)).setCell ⟨w.heap.size + 1 + 1, 5, none⟩ (.int .i64 y)).setCell ⟨w.heap.size + 1 + 1, 6, none⟩ (.int .i64 k)) ∧ True := ⟨RA1.out.turn t7 (by omega), trivial⟩
  refine hK _ _ (fun _ => hHeld2) ?_
  replace RZ := hide (((((((RZ.out.set 0 (.int .i64 pc) (by simp) (show _ = ([.int .i64 pc, .int .i64 0, .slice none 0 0, .int .i64 0, .int .i64 0, .int .i64 0, .int .i64 0] : List Value) from rfl)).set 1 (.int .i64 ln) (by simp) (show _ = ([.int .i64 pc, .int .i64 ln, .slice none 0 0, .int .i64 0, .int .i64 0, .int .i64 0, .int .i64 0] : List Value) from rfl)).set 2 ((.slice (some ⟨g', 0, none⟩) (ops.length + 1) c')) (by simp) (show _ = ([.int .i64 pc, .int .i64 ln, (.slice (some ⟨g', 0, none⟩) (ops.length + 1) c'), .int .i64 0, .int .i64 0, .int .i64 0, .int .i64 0] : List Value) from rfl)).set 3 (.int .i64 en) (by simp) (show _ = ([.int .i64 pc, .int .i64 ln, (.slice (some ⟨g', 0, none⟩) (ops.length + 1) c'), .int .i64 en, .int .i64 0, .int .i64 0, .int .i64 0] : List Value) from rfl)).set 4 (.int .i64 x) (by simp) (show _ = ([.int .i64 pc, .int .i64 ln, (.slice (some ⟨g', 0, none⟩) (ops.length + 1) c'), .int .i64 en, .int .i64 x, .int .i64 0, .int .i64 0] : List Value) from rfl)).set 5 (.int .i64 y) (by simp) (show _ = ([.int .i64 pc, .int .i64 ln, (.slice (some ⟨g', 0, none⟩) (ops.length + 1) c'), .int .i64 en, .int .i64 x, .int .i64 y, .int .i64 0] : List Value) from rfl)).set 6 (.int .i64 k) (by simp) (show _ = ([.int .i64 pc, .int .i64 ln, (.slice (some ⟨g', 0, none⟩) (ops.length + 1) c'), .int .i64 en, .int .i64 x, .int .i64 y, .int .i64 k] : List Value) from rfl))
  replace MW := hide (MW.out.turn t7 (by omega))
  replace OO := hide (OO.out.apart t7 (fun G e h => NN.out.2 (by rw [e, h])))
  clear hK K hHeld t7 RA1 z0 s0 z1 s1 z2 s2 z3 s3 z4 s4 z5 s5 z6 s6
  try simp only [Act.put, List.setIfInBounds_toArray, List.set]
  generalize (((((((d1.setCell ⟨w.heap.size + 1 + 1, 0, none⟩ (.int .i64 pc)).setCell ⟨w.heap.size + 1 + 1, 1, none⟩ (.int .i64 ln)).setCell ⟨w.heap.size + 1 + 1, 2, none⟩ ((.slice (some ⟨g', 0, none⟩) (ops.length + 1) c'))).setCell ⟨w.heap.size + 1 + 1, 3, none⟩ (.int .i64 en)).setCell ⟨w.heap.size + 1 + 1, 4, none⟩ (.int .i64 x)).setCell ⟨w.heap.size + 1 + 1, 5, none⟩ (.int .i64 y)).setCell ⟨w.heap.size + 1 + 1, 6, none⟩ (.int .i64 k)) = d2 at RZ MW OO hHeld2 ⊢
  refine PhaseIn.takeD (i := 6) (v := ?_) [6] 5 rfl (by rfl) (by kernel_rfl) (by kernel_rfl) (by kernel_rfl) (by kernel_rfl) (by kernel_rfl) (fun _ _ _ h => h) (Or.inl ⟨by kernel_rfl, ?_⟩) hHeld2 ?_
  rotate_left
  · intro w' hSw
    (try dsimp only at hSw)
    go_simp
    first | done | with_reducible rfl
  try simp only [Act.put, List.setIfInBounds_toArray, List.set]
  refine PhaseIn.done (by kernel_rfl) ?_ _
  clear hHeld2
  have z0 := RZ.out.cell 0 _ rfl
  have z1 := RZ.out.cell 1 _ rfl
  have z2 := RZ.out.cell 2 _ rfl
  have z3 := RZ.out.cell 3 _ rfl
  have z4 := RZ.out.cell 4 _ rfl
  have z5 := RZ.out.cell 5 _ rfl
  have z6 := RZ.out.cell 6 _ rfl
  go_wp2
  have wr := IntWalk.i64_in (ops.length : Int) ⟨by omega, by omega⟩
  refine bodyPost_ret (v := .tuple #[.agg #[.int .i64 pc, .int .i64 ln, (.slice (some ⟨g', 0, none⟩) (ops.length + 1) c'), .int .i64 en, .int .i64 x, .int .i64 y, .int .i64 k], .int .i64 ops.length]) (by simp [results, Try.results62, go_sem, z0, z1, z2, z3, z4, z5, z6, wr]) rfl ⟨some ⟨g', 0, none⟩, c', by simp, ⟨by unfold OwnO; rw [List.length_append]; exact OO.out, MW.out⟩⟩
set_option maxRecDepth 8000 in
set_option maxHeartbeats 8000000 in
theorem l7Get (b : Bk) (r : Int) (q : Option Addr) (c lo : Nat) (w : World) (H : OwnO w lo (.slice q b.ops.length c) b.ops) (hlo : lo ≤ w.heap.size) (hl : b.ops.length ≤ 10000) :
    Calls Try.prog 64 #[bx b q c, .int .i64 r] w fun e w' => ∃ q' c', e = .returned ((.tuple #[bx ⟨b.pc, b.ln, b.ops ++ [opG r], b.en, b.x, b.y, b.k⟩ q' c', .int .i64 b.ops.length])) ∧ Ret w lo q w' (⟨b.pc, b.ln, b.ops ++ [opG r], b.en, b.x, b.y, b.k⟩) q' c' := by
  obtain ⟨pc, ln, ops, en, x, y, k⟩ := b
  unfold bx
  simp only [] at H hl ⊢
  have Rb := Rec.new w [.int .i64 pc, .int .i64 ln, .slice q ops.length c, .int .i64 en, .int .i64 x, .int .i64 y, .int .i64 k] 42
  replace Rb := Rb.alloc (.cells #[.int .i64 0, .int .i64 0, .slice none 0 0, .int .i64 0, .int .i64 0, .int .i64 0, .int .i64 0] 42)
  have Rz := Rec.new (w.alloc (.cells #[.int .i64 pc, .int .i64 ln, .slice q ops.length c, .int .i64 en, .int .i64 x, .int .i64 y, .int .i64 k] 42)) [.int .i64 0, .int .i64 0, .slice none 0 0, .int .i64 0, .int .i64 0, .int .i64 0, .int .i64 0] 42
  rw [show (w.alloc (.cells #[.int .i64 pc, .int .i64 ln, .slice q ops.length c, .int .i64 en, .int .i64 x, .int .i64 y, .int .i64 k] 42)).heap.size = w.heap.size + 1 by simp] at Rz
  have BA : Below w.heap.size w ((w.alloc (.cells #[.int .i64 pc, .int .i64 ln, .slice q ops.length c, .int .i64 en, .int .i64 x, .int .i64 y, .int .i64 k] 42)).alloc (.cells #[.int .i64 0, .int .i64 0, .slice none 0 0, .int .i64 0, .int .i64 0, .int .i64 0, .int .i64 0] 42)) := (((Below.refl w.heap.size w).alloc (Nat.le_refl _) _).alloc (by simp; try omega) _)
  have Ab := hide (And.intro Rb (q_far H (w.heap.size) (by omega)))
  have Az := hide (And.intro Rz (q_far H (w.heap.size + 1) (by omega)))
  have MW := hide (Mv.of_below q BA)
  have OO := hide (H.below BA)
  have LO : Hid (lo ≤ ((w.alloc (.cells #[.int .i64 pc, .int .i64 ln, .slice q ops.length c, .int .i64 en, .int .i64 x, .int .i64 y, .int .i64 k] 42)).alloc (.cells #[.int .i64 0, .int .i64 0, .slice none 0 0, .int .i64 0, .int .i64 0, .int .i64 0, .int .i64 0] 42)).heap.size) := Nat.le_trans hlo BA.size
  have LB : Hid (w.heap.size < ((w.alloc (.cells #[.int .i64 pc, .int .i64 ln, .slice q ops.length c, .int .i64 en, .int .i64 x, .int .i64 y, .int .i64 k] 42)).alloc (.cells #[.int .i64 0, .int .i64 0, .slice none 0 0, .int .i64 0, .int .i64 0, .int .i64 0, .int .i64 0] 42)).heap.size) := show _ < _ by simp; try omega
  clear BA H Rb Rz
  go_enter Try.func64, Try.ntmps64
  have cb0 := Ab.out.1.cell 0 _ rfl
  have cb1 := Ab.out.1.cell 1 _ rfl
  have cb2 := Ab.out.1.cell 2 _ rfl
  have cb3 := Ab.out.1.cell 3 _ rfl
  have cb4 := Ab.out.1.cell 4 _ rfl
  have cb5 := Ab.out.1.cell 5 _ rfl
  have cb6 := Ab.out.1.cell 6 _ rfl
  go_wp2_with fail
  refine (l7Put ⟨pc, ln, ops, en, x, y, k⟩ (opG r) q c lo _ OO.out LO.out (by first | omega | (simp only []; omega) | (have := LL.out; first | omega | (simp only []; omega)))).mono ?_
  rintro e u1 ⟨q1, c1, rfl, RT⟩
  clear cb0 cb1 cb2 cb3 cb4 cb5 cb6
  replace Ab := hide (RT.mv.box Ab.out.1 Ab.out.2)
  replace Az := hide (RT.mv.box Az.out.1 Az.out.2)
  replace MW := hide (MW.out.trans RT.mv)
  replace LO := hide (Nat.le_trans LO.out RT.mv.size)
  replace LB := hide (Nat.lt_of_lt_of_le LB.out RT.mv.size)
  obtain ⟨os1, eo1⟩ : ∃ os1, ops ++ [opG r] = os1 := ⟨_, rfl⟩
  have EO1 := hide eo1
  unfold bx
  simp only [] at RT ⊢
  rw [show ops ++ [opG r] = os1 from eo1] at RT ⊢
  replace OO := hide RT.own
  have LL : Hid (os1.length = ops.length + 1) := show _ = _ by rw [← eo1]; simp
  clear RT eo1
  go_wp2_with (refine lay7 rfl rfl _ _ rfl (w.heap.size + 1) _ _ _ _ _ _ _ Az.out.1 rfl _ _ _ _ _ _ _ _ _ rfl ?_; intro v9 RB TB; refine Hid.out ?_)
  replace OO := hide (OO.out.apart TB.out (fun G e h => Az.out.2 (by rw [e, h])))
  replace MW := hide (MW.out.turn TB.out (by omega))
  have z0 := RB.out.cell 0 _ rfl
  have z1 := RB.out.cell 1 _ rfl
  have z2 := RB.out.cell 2 _ rfl
  have z3 := RB.out.cell 3 _ rfl
  have z4 := RB.out.cell 4 _ rfl
  have z5 := RB.out.cell 5 _ rfl
  have z6 := RB.out.cell 6 _ rfl
  clear RB TB Ab Az 
  refine hide ?_
  go_wp2
  refine bodyPost_ret (v := .tuple #[.agg #[.int .i64 pc, .int .i64 ln, .slice q1 os1.length c1, .int .i64 en, .int .i64 x, .int .i64 y, .int .i64 k], .int .i64 ops.length]) (by simp [results, Try.results64, go_sem, z0, z1, z2, z3, z4, z5, z6]) rfl ?_
  have EQ : os1 = ops ++ [opG r] := by
    first
      | (rw [← EO1.out]; done)
      | (rw [← EO1.out]; simp)
  refine ⟨q1, c1, ?_, ?_⟩
  · first
      | (rw [← EQ]; done)
      | (rw [← EQ]; rfl)
      | (rw [← EQ]; simp)
  · rw [← EQ]; exact ⟨OO.out, MW.out⟩
set_option maxRecDepth 8000 in
set_option maxHeartbeats 8000000 in
theorem l7Set (b : Bk) (d x9 : Int) (q : Option Addr) (c lo : Nat) (w : World) (H : OwnO w lo (.slice q b.ops.length c) b.ops) (hlo : lo ≤ w.heap.size) (hl : b.ops.length ≤ 10000) :
    Calls Try.prog 63 #[bx b q c, .int .i64 d, .int .i64 x9] w fun e w' => ∃ q' c', e = .returned ((bx ⟨b.pc, b.ln, b.ops ++ [opS x9 d], b.en, b.x, b.y, b.k⟩ q' c')) ∧ Ret w lo q w' (⟨b.pc, b.ln, b.ops ++ [opS x9 d], b.en, b.x, b.y, b.k⟩) q' c' := by
  obtain ⟨pc, ln, ops, en, x, y, k⟩ := b
  unfold bx
  simp only [] at H hl ⊢
  have Rb := Rec.new w [.int .i64 pc, .int .i64 ln, .slice q ops.length c, .int .i64 en, .int .i64 x, .int .i64 y, .int .i64 k] 42
  replace Rb := Rb.alloc (.cells #[.int .i64 0, .int .i64 0, .slice none 0 0, .int .i64 0, .int .i64 0, .int .i64 0, .int .i64 0] 42)
  have Rz := Rec.new (w.alloc (.cells #[.int .i64 pc, .int .i64 ln, .slice q ops.length c, .int .i64 en, .int .i64 x, .int .i64 y, .int .i64 k] 42)) [.int .i64 0, .int .i64 0, .slice none 0 0, .int .i64 0, .int .i64 0, .int .i64 0, .int .i64 0] 42
  rw [show (w.alloc (.cells #[.int .i64 pc, .int .i64 ln, .slice q ops.length c, .int .i64 en, .int .i64 x, .int .i64 y, .int .i64 k] 42)).heap.size = w.heap.size + 1 by simp] at Rz
  have BA : Below w.heap.size w ((w.alloc (.cells #[.int .i64 pc, .int .i64 ln, .slice q ops.length c, .int .i64 en, .int .i64 x, .int .i64 y, .int .i64 k] 42)).alloc (.cells #[.int .i64 0, .int .i64 0, .slice none 0 0, .int .i64 0, .int .i64 0, .int .i64 0, .int .i64 0] 42)) := (((Below.refl w.heap.size w).alloc (Nat.le_refl _) _).alloc (by simp; try omega) _)
  have Ab := hide (And.intro Rb (q_far H (w.heap.size) (by omega)))
  have Az := hide (And.intro Rz (q_far H (w.heap.size + 1) (by omega)))
  have MW := hide (Mv.of_below q BA)
  have OO := hide (H.below BA)
  have LO : Hid (lo ≤ ((w.alloc (.cells #[.int .i64 pc, .int .i64 ln, .slice q ops.length c, .int .i64 en, .int .i64 x, .int .i64 y, .int .i64 k] 42)).alloc (.cells #[.int .i64 0, .int .i64 0, .slice none 0 0, .int .i64 0, .int .i64 0, .int .i64 0, .int .i64 0] 42)).heap.size) := Nat.le_trans hlo BA.size
  have LB : Hid (w.heap.size < ((w.alloc (.cells #[.int .i64 pc, .int .i64 ln, .slice q ops.length c, .int .i64 en, .int .i64 x, .int .i64 y, .int .i64 k] 42)).alloc (.cells #[.int .i64 0, .int .i64 0, .slice none 0 0, .int .i64 0, .int .i64 0, .int .i64 0, .int .i64 0] 42)).heap.size) := show _ < _ by simp; try omega
  clear BA H Rb Rz
  go_enter Try.func63, Try.ntmps63
  have cb0 := Ab.out.1.cell 0 _ rfl
  have cb1 := Ab.out.1.cell 1 _ rfl
  have cb2 := Ab.out.1.cell 2 _ rfl
  have cb3 := Ab.out.1.cell 3 _ rfl
  have cb4 := Ab.out.1.cell 4 _ rfl
  have cb5 := Ab.out.1.cell 5 _ rfl
  have cb6 := Ab.out.1.cell 6 _ rfl
  go_wp2_with fail
  refine (l7Put ⟨pc, ln, ops, en, x, y, k⟩ (opS x9 d) q c lo _ OO.out LO.out (by first | omega | (simp only []; omega) | (have := LL.out; first | omega | (simp only []; omega)))).mono ?_
  rintro e u1 ⟨q1, c1, rfl, RT⟩
  clear cb0 cb1 cb2 cb3 cb4 cb5 cb6
  replace Ab := hide (RT.mv.box Ab.out.1 Ab.out.2)
  replace Az := hide (RT.mv.box Az.out.1 Az.out.2)
  replace MW := hide (MW.out.trans RT.mv)
  replace LO := hide (Nat.le_trans LO.out RT.mv.size)
  replace LB := hide (Nat.lt_of_lt_of_le LB.out RT.mv.size)
  obtain ⟨os1, eo1⟩ : ∃ os1, ops ++ [opS x9 d] = os1 := ⟨_, rfl⟩
  have EO1 := hide eo1
  unfold bx
  simp only [] at RT ⊢
  rw [show ops ++ [opS x9 d] = os1 from eo1] at RT ⊢
  replace OO := hide RT.own
  have LL : Hid (os1.length = ops.length + 1) := show _ = _ by rw [← eo1]; simp
  clear RT eo1
  have bo : Below u1.heap.size u1 (u1.alloc (.cells #[.int .i64 pc, .int .i64 ln, .slice q1 os1.length c1, .int .i64 en, .int .i64 x, .int .i64 y, .int .i64 k] 42)) := (Below.refl _ _).alloc (Nat.le_refl _) _
  have Ry := Rec.new u1 [.int .i64 pc, .int .i64 ln, .slice q1 os1.length c1, .int .i64 en, .int .i64 x, .int .i64 y, .int .i64 k] 42
  have ZBy : Hid (w.heap.size < u1.heap.size) := LB.out
  have Ay := hide (And.intro Ry (q_far OO.out u1.heap.size (Nat.le_refl _)))
  replace Ab := hide (And.intro (Ab.out.1.below bo) Ab.out.2)
  replace Az := hide (And.intro (Az.out.1.below bo) Az.out.2)
  replace MW := hide (MW.out.trans (Mv.of_below _ bo))
  replace OO := hide (OO.out.below bo)
  replace LO := hide (Nat.le_trans LO.out bo.size)
  replace LB := hide (Nat.lt_of_lt_of_le LB.out bo.size)
  clear bo Ry
  have cy0 := Ay.out.1.cell 0 _ rfl
  have cy1 := Ay.out.1.cell 1 _ rfl
  have cy2 := Ay.out.1.cell 2 _ rfl
  have cy3 := Ay.out.1.cell 3 _ rfl
  have cy4 := Ay.out.1.cell 4 _ rfl
  have cy5 := Ay.out.1.cell 5 _ rfl
  have cy6 := Ay.out.1.cell 6 _ rfl
  go_wp2_with (refine lay7 rfl rfl _ _ rfl (w.heap.size + 1) _ _ _ _ _ _ _ Az.out.1 rfl _ _ _ _ _ _ _ _ _ rfl ?_; intro v9 RB TB; refine Hid.out ?_)
  replace OO := hide (OO.out.apart TB.out (fun G e h => Az.out.2 (by rw [e, h])))
  replace MW := hide (MW.out.turn TB.out (by omega))
  have z0 := RB.out.cell 0 _ rfl
  have z1 := RB.out.cell 1 _ rfl
  have z2 := RB.out.cell 2 _ rfl
  have z3 := RB.out.cell 3 _ rfl
  have z4 := RB.out.cell 4 _ rfl
  have z5 := RB.out.cell 5 _ rfl
  have z6 := RB.out.cell 6 _ rfl
  clear RB TB Ab Az Ay cy0 cy1 cy2 cy3 cy4 cy5 cy6
  refine hide ?_
  go_wp2
  refine bodyPost_ret (v := .agg #[.int .i64 pc, .int .i64 ln, .slice q1 os1.length c1, .int .i64 en, .int .i64 x, .int .i64 y, .int .i64 k]) (by simp [results, Try.results63, go_sem, z0, z1, z2, z3, z4, z5, z6]) rfl ?_
  have EQ : os1 = ops ++ [opS x9 d] := by
    first
      | (rw [← EO1.out]; done)
      | (rw [← EO1.out]; simp)
  refine ⟨q1, c1, ?_, ?_⟩
  · first
      | (rw [← EQ]; done)
      | (rw [← EQ]; rfl)
      | (rw [← EQ]; simp)
  · rw [← EQ]; exact ⟨OO.out, MW.out⟩
set_option maxRecDepth 8000 in
set_option maxHeartbeats 8000000 in
theorem l7Reckon (b : Bk) (op a : Int) (o : Opn) (q : Option Addr) (c lo : Nat) (w : World) (H : OwnO w lo (.slice q b.ops.length c) b.ops) (hlo : lo ≤ w.heap.size) (hl : b.ops.length ≤ 5000) :
    Calls Try.prog 65 #[bx b q c, .int .i64 op, .int .i64 a, .agg #[.int .i64 o.kd, .int .i64 o.x, .int .i64 o.y, .int .i64 o.k, .int .i64 o.t]] w fun e w' => ∃ q' c', e = .returned ((.tuple #[bx ⟨b.pc, b.ln, b.ops ++ [opG a, o, opD op b.ops.length (b.ops.length + 1)], b.en, b.x, b.y, b.k⟩ q' c', .int .i64 (b.ops.length + 2)])) ∧ Ret w lo q w' (⟨b.pc, b.ln, b.ops ++ [opG a, o, opD op b.ops.length (b.ops.length + 1)], b.en, b.x, b.y, b.k⟩) q' c' := by
  obtain ⟨pc, ln, ops, en, x, y, k⟩ := b
  unfold bx
  simp only [] at H hl ⊢
  have Rb := Rec.new w [.int .i64 pc, .int .i64 ln, .slice q ops.length c, .int .i64 en, .int .i64 x, .int .i64 y, .int .i64 k] 42
  replace Rb := Rb.alloc (.cells #[.int .i64 o.kd, .int .i64 o.x, .int .i64 o.y, .int .i64 o.k, .int .i64 o.t] 82)
  replace Rb := Rb.alloc (.cells #[.int .i64 0, .int .i64 0, .slice none 0 0, .int .i64 0, .int .i64 0, .int .i64 0, .int .i64 0] 42)
  have Ro := Rec.new (w.alloc (.cells #[.int .i64 pc, .int .i64 ln, .slice q ops.length c, .int .i64 en, .int .i64 x, .int .i64 y, .int .i64 k] 42)) [.int .i64 o.kd, .int .i64 o.x, .int .i64 o.y, .int .i64 o.k, .int .i64 o.t] 82
  rw [show (w.alloc (.cells #[.int .i64 pc, .int .i64 ln, .slice q ops.length c, .int .i64 en, .int .i64 x, .int .i64 y, .int .i64 k] 42)).heap.size = w.heap.size + 1 by simp] at Ro
  replace Ro := Ro.alloc (.cells #[.int .i64 0, .int .i64 0, .slice none 0 0, .int .i64 0, .int .i64 0, .int .i64 0, .int .i64 0] 42)
  have Rz := Rec.new ((w.alloc (.cells #[.int .i64 pc, .int .i64 ln, .slice q ops.length c, .int .i64 en, .int .i64 x, .int .i64 y, .int .i64 k] 42)).alloc (.cells #[.int .i64 o.kd, .int .i64 o.x, .int .i64 o.y, .int .i64 o.k, .int .i64 o.t] 82)) [.int .i64 0, .int .i64 0, .slice none 0 0, .int .i64 0, .int .i64 0, .int .i64 0, .int .i64 0] 42
  rw [show ((w.alloc (.cells #[.int .i64 pc, .int .i64 ln, .slice q ops.length c, .int .i64 en, .int .i64 x, .int .i64 y, .int .i64 k] 42)).alloc (.cells #[.int .i64 o.kd, .int .i64 o.x, .int .i64 o.y, .int .i64 o.k, .int .i64 o.t] 82)).heap.size = w.heap.size + 1 + 1 by simp] at Rz
  have BA : Below w.heap.size w (((w.alloc (.cells #[.int .i64 pc, .int .i64 ln, .slice q ops.length c, .int .i64 en, .int .i64 x, .int .i64 y, .int .i64 k] 42)).alloc (.cells #[.int .i64 o.kd, .int .i64 o.x, .int .i64 o.y, .int .i64 o.k, .int .i64 o.t] 82)).alloc (.cells #[.int .i64 0, .int .i64 0, .slice none 0 0, .int .i64 0, .int .i64 0, .int .i64 0, .int .i64 0] 42)) := ((((Below.refl w.heap.size w).alloc (Nat.le_refl _) _).alloc (by simp; try omega) _).alloc (by simp; try omega) _)
  have Ab := hide (And.intro Rb (q_far H (w.heap.size) (by omega)))
  have Ao := hide (And.intro Ro (q_far H (w.heap.size + 1) (by omega)))
  have Az := hide (And.intro Rz (q_far H (w.heap.size + 1 + 1) (by omega)))
  have MW := hide (Mv.of_below q BA)
  have OO := hide (H.below BA)
  have LO : Hid (lo ≤ (((w.alloc (.cells #[.int .i64 pc, .int .i64 ln, .slice q ops.length c, .int .i64 en, .int .i64 x, .int .i64 y, .int .i64 k] 42)).alloc (.cells #[.int .i64 o.kd, .int .i64 o.x, .int .i64 o.y, .int .i64 o.k, .int .i64 o.t] 82)).alloc (.cells #[.int .i64 0, .int .i64 0, .slice none 0 0, .int .i64 0, .int .i64 0, .int .i64 0, .int .i64 0] 42)).heap.size) := Nat.le_trans hlo BA.size
  have LB : Hid (w.heap.size < (((w.alloc (.cells #[.int .i64 pc, .int .i64 ln, .slice q ops.length c, .int .i64 en, .int .i64 x, .int .i64 y, .int .i64 k] 42)).alloc (.cells #[.int .i64 o.kd, .int .i64 o.x, .int .i64 o.y, .int .i64 o.k, .int .i64 o.t] 82)).alloc (.cells #[.int .i64 0, .int .i64 0, .slice none 0 0, .int .i64 0, .int .i64 0, .int .i64 0, .int .i64 0] 42)).heap.size) := show _ < _ by simp; try omega
  clear BA H Rb Ro Rz
  go_enter Try.func65, Try.ntmps65
  have cb0 := Ab.out.1.cell 0 _ rfl
  have cb1 := Ab.out.1.cell 1 _ rfl
  have cb2 := Ab.out.1.cell 2 _ rfl
  have cb3 := Ab.out.1.cell 3 _ rfl
  have cb4 := Ab.out.1.cell 4 _ rfl
  have cb5 := Ab.out.1.cell 5 _ rfl
  have cb6 := Ab.out.1.cell 6 _ rfl
  go_wp2_with fail
  refine (l7Get ⟨pc, ln, ops, en, x, y, k⟩ a q c lo _ OO.out LO.out (by first | omega | (simp only []; omega) | (have := LL.out; first | omega | (simp only []; omega)))).mono ?_
  rintro e u1 ⟨q1, c1, rfl, RT⟩
  clear cb0 cb1 cb2 cb3 cb4 cb5 cb6
  replace Ab := hide (RT.mv.box Ab.out.1 Ab.out.2)
  replace Ao := hide (RT.mv.box Ao.out.1 Ao.out.2)
  replace Az := hide (RT.mv.box Az.out.1 Az.out.2)
  replace MW := hide (MW.out.trans RT.mv)
  replace LO := hide (Nat.le_trans LO.out RT.mv.size)
  replace LB := hide (Nat.lt_of_lt_of_le LB.out RT.mv.size)
  obtain ⟨os1, eo1⟩ : ∃ os1, ops ++ [opG a] = os1 := ⟨_, rfl⟩
  have EO1 := hide eo1
  unfold bx
  simp only [] at RT ⊢
  rw [show ops ++ [opG a] = os1 from eo1] at RT ⊢
  replace OO := hide RT.own
  have LL : Hid (os1.length = ops.length + 1) := show _ = _ by rw [← eo1]; simp
  clear RT eo1
  have bo : Below u1.heap.size u1 (u1.alloc (.cells #[.int .i64 pc, .int .i64 ln, .slice q1 os1.length c1, .int .i64 en, .int .i64 x, .int .i64 y, .int .i64 k] 42)) := (Below.refl _ _).alloc (Nat.le_refl _) _
  have Rp := Rec.new u1 [.int .i64 pc, .int .i64 ln, .slice q1 os1.length c1, .int .i64 en, .int .i64 x, .int .i64 y, .int .i64 k] 42
  have ZBp : Hid (w.heap.size < u1.heap.size) := LB.out
  have Ap := hide (And.intro Rp (q_far OO.out u1.heap.size (Nat.le_refl _)))
  replace Ab := hide (And.intro (Ab.out.1.below bo) Ab.out.2)
  replace Ao := hide (And.intro (Ao.out.1.below bo) Ao.out.2)
  replace Az := hide (And.intro (Az.out.1.below bo) Az.out.2)
  replace MW := hide (MW.out.trans (Mv.of_below _ bo))
  replace OO := hide (OO.out.below bo)
  replace LO := hide (Nat.le_trans LO.out bo.size)
  replace LB := hide (Nat.lt_of_lt_of_le LB.out bo.size)
  clear bo Rp
  have cp0 := Ap.out.1.cell 0 _ rfl
  have cp1 := Ap.out.1.cell 1 _ rfl
  have cp2 := Ap.out.1.cell 2 _ rfl
  have cp3 := Ap.out.1.cell 3 _ rfl
  have cp4 := Ap.out.1.cell 4 _ rfl
  have cp5 := Ap.out.1.cell 5 _ rfl
  have cp6 := Ap.out.1.cell 6 _ rfl
  have co0 := Ao.out.1.cell 0 _ rfl
  have co1 := Ao.out.1.cell 1 _ rfl
  have co2 := Ao.out.1.cell 2 _ rfl
  have co3 := Ao.out.1.cell 3 _ rfl
  have co4 := Ao.out.1.cell 4 _ rfl
  go_wp2_with fail
  refine (l7Put ⟨pc, ln, os1, en, x, y, k⟩ o q1 c1 lo _ OO.out LO.out (by first | omega | (simp only []; omega) | (have := LL.out; first | omega | (simp only []; omega)))).mono ?_
  rintro e u2 ⟨q2, c2, rfl, RT⟩
  clear cp0 cp1 cp2 cp3 cp4 cp5 cp6
  clear co0 co1 co2 co3 co4
  replace Ab := hide (RT.mv.box Ab.out.1 Ab.out.2)
  replace Ao := hide (RT.mv.box Ao.out.1 Ao.out.2)
  replace Az := hide (RT.mv.box Az.out.1 Az.out.2)
  replace Ap := hide (RT.mv.box Ap.out.1 Ap.out.2)
  replace MW := hide (MW.out.trans RT.mv)
  replace LO := hide (Nat.le_trans LO.out RT.mv.size)
  replace LB := hide (Nat.lt_of_lt_of_le LB.out RT.mv.size)
  obtain ⟨os2, eo2⟩ : ∃ os2, os1 ++ [o] = os2 := ⟨_, rfl⟩
  have EO2 := hide eo2
  unfold bx
  simp only [] at RT ⊢
  rw [show os1 ++ [o] = os2 from eo2] at RT ⊢
  replace OO := hide RT.own
  replace LL : Hid (os2.length = ops.length + 2) := show _ = _ by rw [← eo2]; simp; have := LL.out; omega
  clear RT eo2
  have bo : Below u2.heap.size u2 (u2.alloc (.cells #[.int .i64 pc, .int .i64 ln, .slice q2 os2.length c2, .int .i64 en, .int .i64 x, .int .i64 y, .int .i64 k] 42)) := (Below.refl _ _).alloc (Nat.le_refl _) _
  have Rr := Rec.new u2 [.int .i64 pc, .int .i64 ln, .slice q2 os2.length c2, .int .i64 en, .int .i64 x, .int .i64 y, .int .i64 k] 42
  have ZBr : Hid (w.heap.size < u2.heap.size) := LB.out
  have Ar := hide (And.intro Rr (q_far OO.out u2.heap.size (Nat.le_refl _)))
  replace Ab := hide (And.intro (Ab.out.1.below bo) Ab.out.2)
  replace Ao := hide (And.intro (Ao.out.1.below bo) Ao.out.2)
  replace Az := hide (And.intro (Az.out.1.below bo) Az.out.2)
  replace Ap := hide (And.intro (Ap.out.1.below bo) Ap.out.2)
  replace MW := hide (MW.out.trans (Mv.of_below _ bo))
  replace OO := hide (OO.out.below bo)
  replace LO := hide (Nat.le_trans LO.out bo.size)
  replace LB := hide (Nat.lt_of_lt_of_le LB.out bo.size)
  clear bo Rr
  have n1 : Hid ((os1.length : Int) = ops.length + 1) := show _ = _ by rw [← EO1.out]; simp
  have cr0 := Ar.out.1.cell 0 _ rfl
  have cr1 := Ar.out.1.cell 1 _ rfl
  have cr2 := Ar.out.1.cell 2 _ rfl
  have cr3 := Ar.out.1.cell 3 _ rfl
  have cr4 := Ar.out.1.cell 4 _ rfl
  have cr5 := Ar.out.1.cell 5 _ rfl
  have cr6 := Ar.out.1.cell 6 _ rfl
  go_wp2_with fail
  refine (l7Put ⟨pc, ln, os2, en, x, y, k⟩ (opD op ops.length os1.length) q2 c2 lo _ OO.out LO.out (by first | omega | (simp only []; omega) | (have := LL.out; first | omega | (simp only []; omega)))).mono ?_
  rintro e u3 ⟨q3, c3, rfl, RT⟩
  clear cr0 cr1 cr2 cr3 cr4 cr5 cr6
  replace Ab := hide (RT.mv.box Ab.out.1 Ab.out.2)
  replace Ao := hide (RT.mv.box Ao.out.1 Ao.out.2)
  replace Az := hide (RT.mv.box Az.out.1 Az.out.2)
  replace Ap := hide (RT.mv.box Ap.out.1 Ap.out.2)
  replace Ar := hide (RT.mv.box Ar.out.1 Ar.out.2)
  replace MW := hide (MW.out.trans RT.mv)
  replace LO := hide (Nat.le_trans LO.out RT.mv.size)
  replace LB := hide (Nat.lt_of_lt_of_le LB.out RT.mv.size)
  obtain ⟨os3, eo3⟩ : ∃ os3, os2 ++ [opD op ops.length os1.length] = os3 := ⟨_, rfl⟩
  have EO3 := hide eo3
  unfold bx
  simp only [] at RT ⊢
  rw [show os2 ++ [opD op ops.length os1.length] = os3 from eo3] at RT ⊢
  replace OO := hide RT.own
  replace LL : Hid (os3.length = ops.length + 3) := show _ = _ by rw [← eo3]; simp; have := LL.out; omega
  clear RT eo3
  have n2 : Hid ((os2.length : Int) = ops.length + 2) := show _ = _ by rw [← EO2.out, ← EO1.out]; simp
  go_wp2_with (refine lay7 rfl rfl _ _ rfl (w.heap.size + 1 + 1) _ _ _ _ _ _ _ Az.out.1 rfl _ _ _ _ _ _ _ _ _ rfl ?_; intro v9 RB TB; refine Hid.out ?_)
  replace OO := hide (OO.out.apart TB.out (fun G e h => Az.out.2 (by rw [e, h])))
  replace MW := hide (MW.out.turn TB.out (by omega))
  have z0 := RB.out.cell 0 _ rfl
  have z1 := RB.out.cell 1 _ rfl
  have z2 := RB.out.cell 2 _ rfl
  have z3 := RB.out.cell 3 _ rfl
  have z4 := RB.out.cell 4 _ rfl
  have z5 := RB.out.cell 5 _ rfl
  have z6 := RB.out.cell 6 _ rfl
  clear RB TB Ab Ao Az Ap Ar 
  refine hide ?_
  go_wp2
  refine bodyPost_ret (v := .tuple #[.agg #[.int .i64 pc, .int .i64 ln, .slice q3 os3.length c3, .int .i64 en, .int .i64 x, .int .i64 y, .int .i64 k], .int .i64 os2.length]) (by simp [results, Try.results65, go_sem, z0, z1, z2, z3, z4, z5, z6]) rfl ?_
  have EQ : os3 = ops ++ [opG a, o, opD op ops.length (ops.length + 1)] := by
    first
      | (rw [← EO3.out, ← EO2.out, ← EO1.out]; done)
      | (rw [← EO3.out, ← EO2.out, ← EO1.out]; rw [List.append_assoc, List.append_assoc]; simp [n1.out])
  refine ⟨q3, c3, ?_, ?_⟩
  · first
      | (rw [← EQ]; done)
      | (rw [← EQ]; rfl)
      | (rw [← EQ]; rw [n2.out])
  · rw [← EQ]; exact ⟨OO.out, MW.out⟩
end Go.Proofs.Ytfjlnocikldhjaa.Lw
