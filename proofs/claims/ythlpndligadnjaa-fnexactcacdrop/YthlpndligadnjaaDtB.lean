/-
  Pieces of code as plain data: what it is to hold one, to own one, its size and its marks; the laws' own functions over them.
-/
import Derived.Test.YthlpndligadnjaaDt
import Derived.Test.YthlpndligadnjaaIrMk
namespace Go.Proofs.Ythlpndligadnjaa.Dt
set_option linter.unusedVariables false
set_option linter.unusedSimpArgs false
open Go.ChangeShapes Go.WideShapes Go.ChangeAt Go.RowKit IntS Pol Flat Irk
open Ir (Opn Bk bv ORow WORow RBk WBk OpAt SoftAt szIrBlock toIrBlock eqIrBlock of_holds)
abbrev T7 := Int × Int × List Opn × Int × Int × Int × Int
def bkOf (t : T7) : Bk := ⟨t.1, t.2.1, t.2.2.1, t.2.2.2.1, t.2.2.2.2.1, t.2.2.2.2.2.1, t.2.2.2.2.2.2⟩
def toT (b : Bk) : T7 := (b.pc, b.ln, b.ops, b.en, b.x, b.y, b.k)
theorem bk_to (b : Bk) : bkOf (toT b) = b := rfl
/-- Operations with marks in the place of their numbers. -/
def mrO (k : Int) : List Opn → List Opn
  | [] => []
  | _ :: t => ⟨k, k + 1, k + 2, k + 3, k + 4⟩ :: mrO (k + 5) t
theorem mrO_len : ∀ (os : List Opn) (k : Int), (mrO k os).length = os.length
  | [], _ => rfl
  | _ :: t, k => by unfold mrO; rw [List.length_cons, List.length_cons, mrO_len t]
theorem marks_five (k : Int) (n : Nat) : marks k ((n + 1) * 5) = [k, k + 1, k + 2, k + 3, k + 4] ++ marks (k + 5) (n * 5) := by
  rw [show (n + 1) * 5 = 5 + n * 5 by omega]
  apply List.ext_getElem?
  intro i
  unfold marks
  by_cases h : i < 5
  · rw [List.getElem?_append_left (by simpa using h), List.getElem?_map, List.getElem?_range (by omega)]
    have : i = 0 ∨ i = 1 ∨ i = 2 ∨ i = 3 ∨ i = 4 := by omega
    rcases this with rfl | rfl | rfl | rfl | rfl <;> simp
  · rw [List.getElem?_append_right (by simpa using h)]
    simp only [List.getElem?_map, List.length_cons, List.length_nil]
    by_cases h2 : i < 5 + n * 5
    · rw [List.getElem?_range h2, List.getElem?_range (by omega)]
      simp
      omega
    · rw [List.getElem?_eq_none (by simpa using h2), List.getElem?_eq_none (by simp; omega)]
      rfl
theorem flat_mr : ∀ (os : List Opn) (k : Int), flatO (mrO k os) = marks k (os.length * 5)
  | [], k => by simp [mrO, flatO, marks]
  | _ :: t, k => by rw [List.length_cons, marks_five]; unfold mrO flatO; rw [flat_mr t]; rfl
theorem wo_of {w : World} {B : Nat} {v : Value} {os : List Opn} (h : WFRow 5 w B v os.length (flatO os)) : WORow w B v os := by
  obtain ⟨a, cap, off, h1, h2, h3, hz, hl, h4⟩ := h
  refine ⟨a, cap, off, h1, h2, h3, hz, h4.imp (fun e => List.length_eq_zero_iff.1 e) (fun ⟨e, hB, q⟩ => ⟨e, hB, fun i o ho => ?_⟩)⟩
  obtain ⟨f0, f1, f2, f3, f4⟩ := flatO_at os i o ho
  have g0 := q _ _ f0
  have g1 := q _ _ f1
  have g2 := q _ _ f2
  have g3 := q _ _ f3
  have g4 := q _ _ f4
  simp only [← Nat.add_assoc] at g0 g1 g2 g3 g4
  exact ⟨⟨g0.1, g1.1, g2.1, g3.1, g4.1⟩, ⟨g0.2, g1.2, g2.2, g3.2, g4.2⟩⟩
theorem wo_keep {S : Nat → Prop} {w w' : World} {B : Nat} {v : Value} {os : List Opn} (h : WORow w B v os) (hk : Keep S w w') (hB : os = [] ∨ ¬ S B) : WORow w' B v os := by
  obtain ⟨a, cap, off, h1, h2, h3, hz, h4⟩ := h
  refine ⟨a, cap, off, h1, h2, h3, hz, ?_⟩
  by_cases e : os = []
  · exact Or.inl e
  · obtain ⟨k1, k2, k3⟩ := h4.resolve_left e
    have ht : Turn (B + 1) w { w with heap := w.heap } := Turn.refl _ _
    have eb : w'.heap[B]? = w.heap[B]? := hk.block B k2 (hB.resolve_left e)
    have C : ∀ p, w'.cell? ⟨B, p, none⟩ = w.cell? ⟨B, p, none⟩ := fun p => World.cell?_of_block (w := w) (a := ⟨B, p, none⟩) eb
    have F : ∀ p, w'.frozen? ⟨B, p, none⟩ = w.frozen? ⟨B, p, none⟩ := fun p => World.frozen?_of_block (w := w) (a := ⟨B, p, none⟩) eb
    refine Or.inr ⟨k1, Nat.lt_of_lt_of_le k2 hk.size, fun i o ho => ?_⟩
    obtain ⟨⟨c0, c1, c2, c3, c4⟩, ⟨s0, s1, s2, s3, s4⟩⟩ := k3 i o ho
    exact ⟨⟨(C _).trans c0, (C _).trans c1, (C _).trans c2, (C _).trans c3, (C _).trans c4⟩, ⟨(F _).trans s0, (F _).trans s1, (F _).trans s2, (F _).trans s3, (F _).trans s4⟩⟩
theorem seven_len {b : Bk} {v : Value} : (bv b v).length = 7 := rfl
def blkR : Rw T7 where
  n := 7
  lf := fun _ => True
  rd := fun w cs x => RBk w cs (bkOf x)
  ow := fun w A cs x => ∃ B, WBk w B cs (bkOf x) ∧ (x.2.2.1 = [] ∨ A B)
  sz := fun x => x.2.2.1.length
  nx := fun x => x.2.2.1.length * 5
  mr := fun k x => (x.1, x.2.1, mrO k x.2.2.1, x.2.2.2)
  ln := fun h => by obtain ⟨a, cap, B, e, _⟩ := h; rw [e]; rfl
  rb := fun h hb => h.below hb
  od := fun ⟨B, h, _⟩ => h.read
  ok := fun ⟨B, h, hA⟩ hk hS => by
    obtain ⟨a, cap, e, q⟩ := h
    exact ⟨B, ⟨a, cap, e, wo_keep q hk (hA.imp id (hS B))⟩, hA⟩
  ov := fun ⟨B, h, hA⟩ h1 => ⟨B, h, hA.imp id (h1 B)⟩
theorem blkR_rd {w : World} {cs : List Value} {a0 a1 : Int} {x2 : List Opn} {a3 a4 a5 a6 : Int} (h : blkR.rd w cs (a0, a1, x2, a3, a4, a5, a6)) : ∃ (q2 : Option Addr) (c2 : Nat), cs = [.int .i64 a0, .int .i64 a1, .slice q2 x2.length c2, .int .i64 a3, .int .i64 a4, .int .i64 a5, .int .i64 a6] ∧ ∃ B, ORow w B (.slice q2 x2.length c2) x2 := by
  obtain ⟨a, cap, B, e, h1⟩ := h
  exact ⟨a, cap, e, B, h1⟩
theorem blkR_own {w : World} {A : Nat → Prop} {cs : List Value} {a0 a1 : Int} {x2 : List Opn} {a3 a4 a5 a6 : Int} (h : blkR.ow w A cs (a0, a1, x2, a3, a4, a5, a6)) : ∃ (q2 : Option Addr) (c2 : Nat) (A2 : Nat → Prop), cs = [.int .i64 a0, .int .i64 a1, .slice q2 x2.length c2, .int .i64 a3, .int .i64 a4, .int .i64 a5, .int .i64 a6] ∧ True := by
  obtain ⟨B, ⟨a, cap, e, h1⟩, hA⟩ := h
  exact ⟨a, cap, A, e, trivial⟩
set_option maxRecDepth 8000 in
theorem blkR_hold {w : World} {n : Nat} {cs : List Value} (h : Shape.Holds Try.prog w (n + 9) 32 cs) (hn : n = 0 := by rfl) : ∃ a0 a1 x2 a3 a4 a5 a6, blkR.rd w cs (a0, a1, x2, a3, a4, a5, a6) := by
  subst hn
  obtain ⟨l, b, e, hb⟩ := of_holds (c := cs.toArray) h
  have : cs = l := by have := congrArg Array.toList e; simpa using this
  subst this
  exact ⟨b.pc, b.ln, b.ops, b.en, b.x, b.y, b.k, hb⟩
theorem szBlk (a0 a1 : Int) (x2 : List Opn) (a3 a4 a5 a6 : Int) (cs : List Value) (left : Int) (w : World) (h : blkR.rd w cs (a0, a1, x2, a3, a4, a5, a6)) (h0 : 0 ≤ left) (h1 : left ≤ 1048576) :
    Calls Try.prog 27 #[.agg cs.toArray, .int .i64 left] w fun e w' => ∃ r : Int, e = .returned (.int .i64 r) ∧ -1 ≤ r ∧ (0 ≤ r → r = left - (blkR.sz (a0, a1, x2, a3, a4, a5, a6) : Nat)) ∧ Below w.heap.size w w' := szIrBlock _ cs left w h h0 h1
theorem toBlk (a0 a1 : Int) (x2 : List Opn) (a3 a4 a5 a6 : Int) (cs : List Value) (w : World) (h : blkR.rd w cs (a0, a1, x2, a3, a4, a5, a6)) (hs : blkR.sz (a0, a1, x2, a3, a4, a5, a6) ≤ 1048576) :
    Calls Try.prog 30 #[.agg cs.toArray] w fun e w' => ∃ g2, e = .returned (.agg #[.int .i64 a0, .int .i64 a1, .slice (some ⟨g2, 0, none⟩) x2.length x2.length, .int .i64 a3, .int .i64 a4, .int .i64 a5, .int .i64 a6]) ∧ blkR.ow w' (New w w') [.int .i64 a0, .int .i64 a1, .slice (some ⟨g2, 0, none⟩) x2.length x2.length, .int .i64 a3, .int .i64 a4, .int .i64 a5, .int .i64 a6] (a0, a1, x2, a3, a4, a5, a6) ∧ Below w.heap.size w w' := by
  refine (toIrBlock _ cs w h hs).mono ?_
  rintro e w' ⟨g, c', rfl, rfl, h1, h2, h3, h4⟩
  exact ⟨g, rfl, ⟨g, h1, Or.inr ⟨h2, h3⟩⟩, h4⟩
theorem eqBlk (a0 a1 : Int) (x2 : List Opn) (a3 a4 a5 a6 : Int) (cs cs' : List Value) (w : World) (h : blkR.rd w cs (a0, a1, x2, a3, a4, a5, a6)) (h' : blkR.rd w cs' (a0, a1, x2, a3, a4, a5, a6)) :
    Calls Try.prog 33 #[.agg cs.toArray, .agg cs'.toArray] w fun e w' => e = .returned (.bool true) ∧ Below w.heap.size w w' := eqIrBlock _ cs cs' w h h'
theorem markBlk (a0 a1 : Int) (x2 : List Opn) (a3 a4 a5 a6 : Int) (k : Int) (A : Nat → Prop) (cs : List Value) (w : World) (h : blkR.ow w A cs (a0, a1, x2, a3, a4, a5, a6)) (hA : ∀ b, A b → b < w.heap.size) (k0 : 0 ≤ k) (k1 : k + (blkR.nx (a0, a1, x2, a3, a4, a5, a6) : Nat) ≤ 1000000000) :
    Calls Try.prog 50 #[.agg cs.toArray, .int .i64 k] w fun e w' => e = .returned (.int .i64 (k + (blkR.nx (a0, a1, x2, a3, a4, a5, a6) : Nat))) ∧ blkR.ow w' A cs (blkR.mr k (a0, a1, x2, a3, a4, a5, a6)) ∧ Keep A w w' := by
  obtain ⟨B, ⟨a, cap, e, h1⟩, hB⟩ := h
  subst e
  have hx : (blkR.nx (a0, a1, x2, a3, a4, a5, a6)) = x2.length * 5 := rfl
  rw [hx] at k1 ⊢
  have fin : ∀ {w' : World} {B' : Nat}, WFRow 5 w' B' (.slice a x2.length cap) x2.length (marks k (x2.length * 5)) → (x2 = [] ∨ A B') → blkR.ow w' A (bv (bkOf (a0, a1, x2, a3, a4, a5, a6)) (.slice a x2.length cap)) (blkR.mr k (a0, a1, x2, a3, a4, a5, a6)) := fun {w' B'} q1 q2 => by
    have q3 : WORow w' B' (.slice a (mrO k x2).length cap) (mrO k x2) := wo_of (by rw [mrO_len, flat_mr]; exact q1)
    refine ⟨B', ⟨a, cap, ?_, q3⟩, q2.imp (fun e => by subst e; rfl) id⟩
    show _ = bv _ (.slice a (mrO k x2).length cap)
    rw [mrO_len]
    rfl
  by_cases en : x2 = []
  · have hw : WFRow 5 w w.heap.size (.slice a x2.length cap) x2.length (flatO x2) := by
      have := wf_of h1
      obtain ⟨a', cap', off, z1, z2, z3, z4, z5, z6⟩ := this
      exact ⟨a', cap', off, z1, z2, z3, z4, z5, Or.inl (by rw [en]; rfl)⟩
    refine (markIrBlock k (bkOf (a0, a1, x2, a3, a4, a5, a6)) (flatO x2) w.heap.size a x2.length cap w hw k0 (by omega) (by omega)).mono ?_
    rintro e w' ⟨rfl, q1, q2⟩
    refine ⟨by simp, fin q1 (Or.inl en), ?_⟩
    exact ⟨q2.os, q2.tape, q2.output, q2.size, fun b hb _ => q2.block b hb (by omega)⟩
  · have hAB := hB.resolve_left en
    refine (markIrBlock k (bkOf (a0, a1, x2, a3, a4, a5, a6)) (flatO x2) B a x2.length cap w (wf_of h1) k0 (by omega) (by omega)).mono ?_
    rintro e w' ⟨rfl, q1, q2⟩
    refine ⟨by simp, fin q1 (Or.inr hAB), ?_⟩
    exact ⟨q2.os, q2.tape, q2.output, q2.size, fun b hb hb2 => q2.block b hb (fun e => hb2 (e ▸ hAB))⟩
end Go.Proofs.Ythlpndligadnjaa.Dt
