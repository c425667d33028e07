/-
  Our own hand, the program's: slices.Clone, handOn, words.
-/
import Derived.Test.YtflhehofgplcoaaDoorOsC
import Derived.Test.YtflhehofgplcoaaDoorPhaseTw
import Derived.Test.YtflhehofgplcoaaDoorIrIo
namespace Go.Proofs.YtflhehofgplcoaaDoor.Op
set_option linter.unusedVariables false
set_option linter.unusedSimpArgs false
open Go.ChangeShapes Go.WideShapes Go.ChangeAt Go.RowKit IntS Flat Irk
open Ir Dt
open Mch (Rec)
open Pol (Keep)
theorem rec_keep {S : Nat → Prop} {Z : Nat} {cs : List Value} {w w' : World} (h : Rec Z cs w) (hk : Keep S w w') (hZ : ¬ S Z) : Rec Z cs w' := by
  have eb : w'.heap[Z]? = w.heap[Z]? := hk.block Z h.lt hZ
  exact ⟨Nat.lt_of_lt_of_le h.lt hk.size, fun i v hv => (World.cell?_of_block (w := w) (a := ⟨Z, i, none⟩) eb).trans (h.cell i v hv), fun i => (World.frozen?_of_block (w := w) (a := ⟨Z, i, none⟩) eb).trans (h.soft i)⟩
/-- Operations in a slice that the call made, or in none. -/
def Ob (w : World) (q : Option Addr) (n c : Nat) (os : List Opn) : Prop := (q = none ∧ n = 0 ∧ c = 0 ∧ os = []) ∨ ∃ g, q = some ⟨g, 0, none⟩ ∧ Ow w g n c os
theorem Ob.turn {w w' : World} {q : Option Addr} {n c B : Nat} {os : List Opn} (h : Ob w q n c os) (ht : Turn B w w') (hB : ∀ g, q = some ⟨g, 0, none⟩ → g ≠ B) : Ob w' q n c os :=
  h.imp id fun ⟨g, e, k⟩ => ⟨g, e, k.turn ht (hB g e)⟩
theorem Ob.below {w w' : World} {q : Option Addr} {n c : Nat} {os : List Opn} (h : Ob w q n c os) (hb : Below w.heap.size w w') : Ob w' q n c os :=
  h.imp id fun ⟨g, e, k⟩ => ⟨g, e, k.below hb⟩
theorem Ob.len {w : World} {q : Option Addr} {n c : Nat} {os : List Opn} (h : Ob w q n c os) : os.length = n := by
  rcases h with ⟨_, rfl, _, rfl⟩ | ⟨g, _, k⟩
  · rfl
  · exact k.len
theorem Ob.lt {w : World} {q : Option Addr} {n c : Nat} {os : List Opn} (h : Ob w q n c os) {g : Nat} (e : q = some ⟨g, 0, none⟩) : g < w.heap.size := by
  rcases h with ⟨e', _⟩ | ⟨g', e', k⟩
  · rw [e'] at e; cases e
  · rw [e'] at e; cases e; exact k.lt
theorem Ob.row {w : World} {q : Option Addr} {n c : Nat} {os : List Opn} (h : Ob w q n c os) : ∃ B, ORow w B (.slice q n c) os := by
  rcases h with ⟨rfl, rfl, rfl, rfl⟩ | ⟨g, rfl, k⟩
  · exact ⟨0, none, 0, 0, rfl, Nat.le_refl _, by unfold maxLen; omega, fun _ => rfl, Or.inl rfl⟩
  · exact ⟨g, k.row⟩
theorem Ob.some {w : World} {q : Option Addr} {n c : Nat} {os : List Opn} (h : Ob w q n c os) {j : Nat} (hj : j < n) : ∃ g, q = some ⟨g, 0, none⟩ ∧ Ow w g n c os := by
  rcases h with ⟨_, e, _, _⟩ | h
  · omega
  · exact h
/-- Our own hand, on a piece of code, behind its pointer. -/
structure Hd (w : World) (Z : Nat) (q : Option Addr) (n c : Nat) (b : Bk) : Prop where
  box : Rec Z [.int .i64 b.pc, .int .i64 b.ln, .slice q n c, .int .i64 b.en, .int .i64 b.x, .int .i64 b.y, .int .i64 b.k] w
  ops : Ob w q n c b.ops
  far : ∀ g, q = some ⟨g, 0, none⟩ → g ≠ Z
theorem Hd.below {w w' : World} {Z : Nat} {q : Option Addr} {n c : Nat} {b : Bk} (h : Hd w Z q n c b) (hb : Below w.heap.size w w') : Hd w' Z q n c b := ⟨h.box.below hb, h.ops.below hb, h.far⟩
theorem Hd.turn {w w' : World} {Z B : Nat} {q : Option Addr} {n c : Nat} {b : Bk} (h : Hd w Z q n c b) (ht : Turn B w w') (hZ : Z ≠ B) (hB : ∀ g, q = some ⟨g, 0, none⟩ → g ≠ B) : Hd w' Z q n c b := ⟨h.box.turn ht hZ, h.ops.turn ht hB, h.far⟩
/-- What a way of the hand may turn: its struct and its operations. -/
def Its (Z : Nat) (q : Option Addr) (k : Nat) : Prop := k = Z ∨ q = some ⟨k, 0, none⟩
set_option maxRecDepth 8000 in
set_option maxHeartbeats 4000000 in
theorem clone (os : List Opn) (B : Nat) (v : Value) (w : World) (h : ORow w B v os) (hl : os.length ≤ 1048576) :
    Calls Tryd.prog 47 #[v] w fun e w' => ∃ q c, e = .returned (.slice q os.length c) ∧ Ob w' q os.length c os ∧ (∀ g, q = some ⟨g, 0, none⟩ → w.heap.size ≤ g) ∧ Below w.heap.size w w' := by
  have HR := hide h
  obtain ⟨a, cap, off, rfl, h2, h3, hz, h4⟩ := h
  have EQ := fun (v : World) (a : Option Addr) (l c : Nat) => Lib.run_eql_slice_nil (P := Tryd.prog) v 26 41 a l c 0 0 Tryd.underlying26
  cases a with
  | none =>
    have hc0 := hz rfl
    subst hc0
    obtain rfl : os = [] := List.length_eq_zero_iff.1 (by omega)
    clear hz h4 h3 h2 HR
    go_enter Tryd.func47, Tryd.ntmps47
    go_wp2
    exact bodyPost_ret (v := .slice none 0 0) (by simp [results, Tryd.results47, go_sem]) rfl ⟨none, 0, rfl, Or.inl ⟨rfl, rfl, rfl, rfl⟩, (fun g e => by cases e), Below.refl _ _⟩
  | some ad =>
    clear hz h4 h3 h2
    have b1 : Below w.heap.size w (w.alloc (.cells #[] 41)) := (Below.refl _ _).alloc (Nat.le_refl _) _
    have HG := hide (heap_last (v := w) (o := .cells #[] 41) rfl)
    replace HR := hide (HR.out.below b1)
    have BW := hide b1
    clear b1
    go_enter Tryd.func47, Tryd.ntmps47
    go_wp2_with (at_builtin; refine wpList_copyO rfl _ _ rfl w.heap.size HG.out rfl _ B os rfl HR.out (by omega) ?_; intro g c' u WO G1 G2 TU; refine Hid.out ?_)
    replace BW := hide (BW.out.trans (TU.out.below (Nat.le_refl _) BW.out.size))
    clear HG HR TU
    refine hide ?_
    go_wp2
    exact bodyPost_ret (v := .slice (some ⟨g, 0, none⟩) os.length c') (by simp [results, Tryd.results47, go_sem]) rfl ⟨_, _, rfl, Or.inr ⟨g, rfl, Ow.of WO.out G2.out⟩, (fun g' e => by cases e; exact G1.out), BW.out⟩
set_option maxRecDepth 8000 in
set_option maxHeartbeats 8000000 in
theorem handOn (b : Bk) (cs : List Value) (w : World) (h : RBk w cs b) (hl : b.ops.length ≤ 1048576) :
    Calls Tryd.prog 28 #[.agg cs.toArray] w fun e w' => ∃ Z q c, e = .returned (.pointer (some ⟨Z, 0, none⟩)) ∧ Hd w' Z q b.ops.length c b ∧ w.heap.size ≤ Z ∧ (∀ g, q = some ⟨g, 0, none⟩ → w.heap.size ≤ g) ∧ Below w.heap.size w w' := by
  obtain ⟨q, c, B, rfl, hr⟩ := h
  obtain ⟨pc, ln, ops, en, x, y, k⟩ := b
  simp only [bv] at *
  have b0 : Below w.heap.size w (w.alloc (.cells #[.int .i64 pc, .int .i64 ln, .slice q ops.length c, .int .i64 en, .int .i64 x, .int .i64 y, .int .i64 k] 28)) := (Below.refl _ _).alloc (Nat.le_refl _) _
  have RA := hide (Rec.new w [.int .i64 pc, .int .i64 ln, .slice q ops.length c, .int .i64 en, .int .i64 x, .int .i64 y, .int .i64 k] 28)
  have HR := hide (hr.below b0)
  have BW := hide b0
  clear b0 hr
  go_enter Tryd.func28, Tryd.ntmps28
  go_wp2_with fail
  generalize w.alloc (.cells #[.int .i64 pc, .int .i64 ln, .slice q ops.length c, .int .i64 en, .int .i64 x, .int .i64 y, .int .i64 k] 28) = W0 at RA HR BW ⊢
  refine (clone ops B _ _ HR.out hl).mono ?_
  rintro e u1 ⟨q1, c1, rfl, OB, G1, hb⟩
  have l0 := RA.out.lt
  have GE : Hid (∀ g, q1 = some ⟨g, 0, none⟩ → w.heap.size < g) := fun g e => Nat.lt_of_lt_of_le l0 (G1 g e)
  replace RA := hide (RA.out.below hb)
  replace BW := hide (BW.out.trans (hb.mono BW.out.size))
  have OB := hide OB
  clear hb G1 l0 HR
  have f2 := RA.out.soft 2
  have z0 := RA.out.cell 0 _ rfl
  have z1 := RA.out.cell 1 _ rfl
  have z2 := RA.out.cell 2 _ rfl
  have z3 := RA.out.cell 3 _ rfl
  have z4 := RA.out.cell 4 _ rfl
  have z5 := RA.out.cell 5 _ rfl
  have z6 := RA.out.cell 6 _ rfl
  go_wp2_with fail
  have TX := (Turn.refl w.heap.size u1).setCell (p := ⟨w.heap.size, 2, none⟩) rfl (.slice q1 ops.length c1)
  have OB2 := OB.out.turn TX (fun g e => by have := GE.out g e; omega)
  have RZ := Rec.new (u1.setCell ⟨w.heap.size, 2, none⟩ (.slice q1 ops.length c1)) [.int .i64 pc, .int .i64 ln, .slice q1 ops.length c1, .int .i64 en, .int .i64 x, .int .i64 y, .int .i64 k] 63
  have b3 : Below (u1.setCell ⟨w.heap.size, 2, none⟩ (.slice q1 ops.length c1)).heap.size (u1.setCell ⟨w.heap.size, 2, none⟩ (.slice q1 ops.length c1)) ((u1.setCell ⟨w.heap.size, 2, none⟩ (.slice q1 ops.length c1)).alloc (.cells #[.int .i64 pc, .int .i64 ln, .slice q1 ops.length c1, .int .i64 en, .int .i64 x, .int .i64 y, .int .i64 k] 63)) := (Below.refl _ _).alloc (Nat.le_refl _) _
  have OB3 := OB2.below b3
  have BX := (BW.out.trans (TX.below (Nat.le_refl _) BW.out.size))
  have BZ := BX.trans (b3.mono BX.size)
  rw [show (u1.setCell ⟨w.heap.size, 2, none⟩ (.slice q1 ops.length c1)).heap.size = u1.heap.size by simp] at RZ
  exact bodyPost_ret (v := .pointer (some ⟨u1.heap.size, 0, none⟩)) (by simp [results, Tryd.results28, go_sem]) rfl ⟨u1.heap.size, q1, c1, rfl, ⟨RZ, OB3, fun g e => by have := OB.out.lt e; omega⟩, BW.out.size, fun g e => Nat.le_of_lt (GE.out g e), BZ⟩

end Go.Proofs.YtflhehofgplcoaaDoor.Op
