/-
  Pieces of code as plain data: what it is to hold one, to own one, its size and its marks; the laws' own functions over them.
-/
import Derived.Test.YtlgpnogeoaoidaaDt
import Derived.Test.YtlgpnogeoaoidaaIrMk
namespace Go.Proofs.Ytlgpnogeoaoidaa.Dt
set_option linter.unusedVariables false
set_option linter.unusedSimpArgs false
open Go.ChangeShapes Go.WideShapes Go.ChangeAt Go.RowKit IntS Pol Flat Irk
open Ir (Opn Bk bv ORow WORow RBk WBk OpAt SoftAt)
abbrev T7 := Int × Int × List Opn × Int × Int × Int × Int
def bkOf (t : T7) : Bk := ⟨t.1, t.2.1, t.2.2.1, t.2.2.2.1, t.2.2.2.2.1, t.2.2.2.2.2.1, t.2.2.2.2.2.2⟩
def toT (b : Bk) : T7 := (b.pc, b.ln, b.ops, b.en, b.x, b.y, b.k)
theorem bk_to (b : Bk) : bkOf (toT b) = b := rfl
/-- Operations with marks in the place of their numbers. -/
def mrO (k : Int) : List Opn → List Opn
  | [] => []
  | _ :: t => ⟨k, k + 1, k + 2, k + 3, k + 4⟩ :: mrO (k + 5) t
theorem mrO_len : ∀ (os : List Opn) (k : Int), (mrO k os).length = os.length
  | [], _ => rfl
  | _ :: t, k => by unfold mrO; rw [List.length_cons, List.length_cons, mrO_len t]
theorem marks_five (k : Int) (n : Nat) : marks k ((n + 1) * 5) = [k, k + 1, k + 2, k + 3, k + 4] ++ marks (k + 5) (n * 5) := by
  rw [show (n + 1) * 5 = 5 + n * 5 by omega]
  apply List.ext_getElem?
  intro i
  unfold marks
  by_cases h : i < 5
  · rw [List.getElem?_append_left (by simpa using h), List.getElem?_map, List.getElem?_range (by omega)]
    have : i = 0 ∨ i = 1 ∨ i = 2 ∨ i = 3 ∨ i = 4 := by omega
    rcases this with rfl | rfl | rfl | rfl | rfl <;> simp
  · rw [List.getElem?_append_right (by simpa using h)]
    simp only [List.getElem?_map, List.length_cons, List.length_nil]
    by_cases h2 : i < 5 + n * 5
    · rw [List.getElem?_range h2, List.getElem?_range (by omega)]
      simp
      omega
    · rw [List.getElem?_eq_none (by simpa using h2), List.getElem?_eq_none (by simp; omega)]
      rfl
theorem flat_mr : ∀ (os : List Opn) (k : Int), flatO (mrO k os) = marks k (os.length * 5)
  | [], k => by simp [mrO, flatO, marks]
  | _ :: t, k => by rw [List.length_cons, marks_five]; unfold mrO flatO; rw [flat_mr t]; rfl
theorem wo_of {w : World} {B : Nat} {v : Value} {os : List Opn} (h : WFRow 5 w B v os.length (flatO os)) : WORow w B v os := by
  obtain ⟨a, cap, off, h1, h2, h3, hz, hl, h4⟩ := h
  refine ⟨a, cap, off, h1, h2, h3, hz, h4.imp (fun e => List.length_eq_zero_iff.1 e) (fun ⟨e, hB, q⟩ => ⟨e, hB, fun i o ho => ?_⟩)⟩
  obtain ⟨f0, f1, f2, f3, f4⟩ := flatO_at os i o ho
  have g0 := q _ _ f0
  have g1 := q _ _ f1
  have g2 := q _ _ f2
  have g3 := q _ _ f3
  have g4 := q _ _ f4
  simp only [← Nat.add_assoc] at g0 g1 g2 g3 g4
  exact ⟨⟨g0.1, g1.1, g2.1, g3.1, g4.1⟩, ⟨g0.2, g1.2, g2.2, g3.2, g4.2⟩⟩
theorem wo_keep {S : Nat → Prop} {w w' : World} {B : Nat} {v : Value} {os : List Opn} (h : WORow w B v os) (hk : Keep S w w') (hB : os = [] ∨ ¬ S B) : WORow w' B v os := by
  obtain ⟨a, cap, off, h1, h2, h3, hz, h4⟩ := h
  refine ⟨a, cap, off, h1, h2, h3, hz, ?_⟩
  by_cases e : os = []
  · exact Or.inl e
  · obtain ⟨k1, k2, k3⟩ := h4.resolve_left e
    have ht : Turn (B + 1) w { w with heap := w.heap } := Turn.refl _ _
    have eb : w'.heap[B]? = w.heap[B]? := hk.block B k2 (hB.resolve_left e)
    have C : ∀ p, w'.cell? ⟨B, p, none⟩ = w.cell? ⟨B, p, none⟩ := fun p => World.cell?_of_block (w := w) (a := ⟨B, p, none⟩) eb
    have F : ∀ p, w'.frozen? ⟨B, p, none⟩ = w.frozen? ⟨B, p, none⟩ := fun p => World.frozen?_of_block (w := w) (a := ⟨B, p, none⟩) eb
    refine Or.inr ⟨k1, Nat.lt_of_lt_of_le k2 hk.size, fun i o ho => ?_⟩
    obtain ⟨⟨c0, c1, c2, c3, c4⟩, ⟨s0, s1, s2, s3, s4⟩⟩ := k3 i o ho
    exact ⟨⟨(C _).trans c0, (C _).trans c1, (C _).trans c2, (C _).trans c3, (C _).trans c4⟩, ⟨(F _).trans s0, (F _).trans s1, (F _).trans s2, (F _).trans s3, (F _).trans s4⟩⟩
theorem seven_len {b : Bk} {v : Value} : (bv b v).length = 7 := rfl
def blkR : Rw T7 where
  n := 7
  lf := fun _ => True
  rd := fun w cs x => RBk w cs (bkOf x)
  ow := fun w A cs x => ∃ B, WBk w B cs (bkOf x) ∧ (x.2.2.1 = [] ∨ A B)
  sz := fun x => x.2.2.1.length
  nx := fun x => x.2.2.1.length * 5
  mr := fun k x => (x.1, x.2.1, mrO k x.2.2.1, x.2.2.2)
  ln := fun h => by obtain ⟨a, cap, B, e, _⟩ := h; rw [e]; rfl
  rb := fun h hb => h.below hb
  od := fun ⟨B, h, _⟩ => h.read
  ok := fun ⟨B, h, hA⟩ hk hS => by
    obtain ⟨a, cap, e, q⟩ := h
    exact ⟨B, ⟨a, cap, e, wo_keep q hk (hA.imp id (hS B))⟩, hA⟩
  ov := fun ⟨B, h, hA⟩ h1 => ⟨B, h, hA.imp id (h1 B)⟩
theorem blkR_rd {w : World} {cs : List Value} {a0 a1 : Int} {x2 : List Opn} {a3 a4 a5 a6 : Int} (h : blkR.rd w cs (a0, a1, x2, a3, a4, a5, a6)) : ∃ (q2 : Option Addr) (c2 : Nat), cs = [.int .i64 a0, .int .i64 a1, .slice q2 x2.length c2, .int .i64 a3, .int .i64 a4, .int .i64 a5, .int .i64 a6] ∧ ∃ B, ORow w B (.slice q2 x2.length c2) x2 := by
  obtain ⟨a, cap, B, e, h1⟩ := h
  exact ⟨a, cap, e, B, h1⟩
theorem blkR_own {w : World} {A : Nat → Prop} {cs : List Value} {a0 a1 : Int} {x2 : List Opn} {a3 a4 a5 a6 : Int} (h : blkR.ow w A cs (a0, a1, x2, a3, a4, a5, a6)) : ∃ (q2 : Option Addr) (c2 : Nat) (A2 : Nat → Prop), cs = [.int .i64 a0, .int .i64 a1, .slice q2 x2.length c2, .int .i64 a3, .int .i64 a4, .int .i64 a5, .int .i64 a6] ∧ True := by
  obtain ⟨B, ⟨a, cap, e, h1⟩, hA⟩ := h
  exact ⟨a, cap, A, e, trivial⟩
theorem eqBlk (a0 a1 : Int) (x2 : List Opn) (a3 a4 a5 a6 : Int) (cs cs' : List Value) (w : World) (h : blkR.rd w cs (a0, a1, x2, a3, a4, a5, a6)) (h' : blkR.rd w cs' (a0, a1, x2, a3, a4, a5, a6)) :
    Calls Try.prog 52 #[.agg cs.toArray, .agg cs'.toArray] w fun e w' => e = .returned (.bool true) ∧ Below w.heap.size w w' := Ir.eqIrBlock _ cs cs' w h h'
end Go.Proofs.Ytlgpnogeoaoidaa.Dt
