/-
  Marking a machine's lists: nothing else that was there turns, also of what lies behind them.
-/
import Derived.Test.YtnhpmbhphbphaaaGreatMchM3
namespace Go.Proofs.YtnhpmbhphbphaaaGreat.Mch
open Go.ChangeShapes Go.WideShapes Go.ChangeAt Go.RowKit IntS
/-- Of the blocks that were there only those of a set may have turned. -/
structure Keep (S : Nat → Prop) (w w' : World) : Prop where
  os : w'.os = w.os
  tape : w'.tape = w.tape
  output : w'.output = w.output
  size : w.heap.size ≤ w'.heap.size
  block : ∀ k, k < w.heap.size → ¬ S k → w'.heap[k]? = w.heap[k]?
theorem Keep.refl (S : Nat → Prop) (w : World) : Keep S w w := ⟨rfl, rfl, rfl, Nat.le_refl _, fun _ _ _ => rfl⟩
theorem Keep.of_below {S : Nat → Prop} {w w' : World} (h : Below w.heap.size w w') : Keep S w w' := ⟨h.os, h.tape, h.output, h.size, fun k hk _ => h.block k hk⟩
theorem Keep.trans {S : Nat → Prop} {a b c : World} (h : Keep S a b) (k : Keep S b c) : Keep S a c :=
  ⟨k.os.trans h.os, k.tape.trans h.tape, k.output.trans h.output, Nat.le_trans h.size k.size, fun j hj hn => (k.block j (Nat.lt_of_lt_of_le hj h.size) hn).trans (h.block j hj hn)⟩
theorem Keep.turn {S : Nat → Prop} {a b c : World} {B : Nat} (h : Keep S a b) (k : Turn B b c) (hB : ∀ j, j < a.heap.size → ¬ S j → j ≠ B) : Keep S a c :=
  ⟨k.os.trans h.os, k.tape.trans h.tape, k.output.trans h.output, Nat.le_trans h.size k.size, fun j hj hn => (k.block j (Nat.lt_of_lt_of_le hj h.size) (hB j hj hn)).trans (h.block j hj hn)⟩
theorem Keep.mono {S S' : Nat → Prop} {w w' : World} (h : Keep S w w') (hs : ∀ k, k < w.heap.size → S k → S' k) : Keep S' w w' := ⟨h.os, h.tape, h.output, h.size, fun k hk hn => h.block k hk (fun h2 => hn (hs k hk h2))⟩
theorem Keep.below {S : Nat → Prop} {n : Nat} {w w' : World} (h : Keep S w w') (hn : n ≤ w.heap.size) (hS : ∀ k, k < n → ¬ S k) : Below n w w' := ⟨h.os, h.tape, h.output, h.size, fun k hk => h.block k (Nat.lt_of_lt_of_le hk hn) (hS k hk)⟩
theorem Rec.keep {S : Nat → Prop} {Z : Nat} {cs : List Value} {w w' : World} (h : Rec Z cs w) (hk : Keep S w w') (hZ : ¬ S Z) : Rec Z cs w' := by
  have e := hk.block Z h.lt hZ
  exact ⟨Nat.lt_of_lt_of_le h.lt hk.size, fun j v hv => (World.cell?_of_block (w := w) (a := ⟨Z, j, none⟩) e).trans (h.cell j v hv), fun j => (World.frozen?_of_block (w := w) (a := ⟨Z, j, none⟩) e).trans (h.soft j)⟩
theorem row_keep {S : Nat → Prop} {w w' : World} {B : Nat} {v : Value} {xs : List Int} (h : WRow w B v xs) (hk : Keep S w w') (hB : ¬ S B) : WRow w' B v xs := by
  obtain ⟨a, cap, off, h1, h2, h3, hz, h4⟩ := h
  refine ⟨a, cap, off, h1, h2, h3, hz, ?_⟩
  rcases h4 with h4 | ⟨h4, hlt, h5⟩
  · exact Or.inl h4
  · have e := hk.block B hlt hB
    exact Or.inr ⟨h4, Nat.lt_of_lt_of_le hlt hk.size, fun i x hx => ⟨(World.cell?_of_block (w := w) (a := ⟨B, off + i, none⟩) e).trans (h5 i x hx).1, (World.frozen?_of_block (w := w) (a := ⟨B, off + i, none⟩) e).trans (h5 i x hx).2⟩⟩
/-- A machine whose lists lie in blocks of their own, from block lo on, below block hi. -/
structure BMach (w : World) (lo hi : Nat) (c : List Value) (m : M) : Prop where
  ex : ∃ r e i o b1 b2 b3 b4, c = mv m r e i o ∧ WRow w b1 r m.regs ∧ WRow w b2 e m.mem ∧ WRow w b3 i m.ins ∧ WRow w b4 o m.outs ∧ (lo ≤ b1 ∧ lo ≤ b2 ∧ lo ≤ b3 ∧ lo ≤ b4) ∧ (b1 ≠ b2 ∧ b1 ≠ b3 ∧ b1 ≠ b4 ∧ b2 ≠ b3 ∧ b2 ≠ b4 ∧ b3 ≠ b4) ∧ (m.regs = [] ∨ b1 < hi) ∧ (m.mem = [] ∨ b2 < hi) ∧ (m.ins = [] ∨ b3 < hi) ∧ (m.outs = [] ∨ b4 < hi)
theorem row_lt {w : World} {B : Nat} {v : Value} {xs : List Int} (h : WRow w B v xs) : xs = [] ∨ B < w.heap.size := by
  obtain ⟨a, cap, off, h1, h2, h3, hz, h4⟩ := h
  exact h4.imp id (fun h => h.2.1)
theorem WMach.bound {w : World} {lo : Nat} {c : List Value} {m : M} (h : WMach w lo c m) : BMach w lo w.heap.size c m := by
  obtain ⟨r, e, i, o, b1, b2, b3, b4, hc, h1, h2, h3, h4, l1, l2, l3, l4, d1, d2, d3, d4, d5, d6⟩ := h
  exact ⟨r, e, i, o, b1, b2, b3, b4, hc, h1, h2, h3, h4, ⟨l1, l2, l3, l4⟩, ⟨d1, d2, d3, d4, d5, d6⟩, row_lt h1, row_lt h2, row_lt h3, row_lt h4⟩
theorem BMach.below {w w' : World} {lo hi : Nat} {c : List Value} {m : M} (h : BMach w lo hi c m) (hb : Below w.heap.size w w') : BMach w' lo hi c m := by
  obtain ⟨r, e, i, o, b1, b2, b3, b4, hc, h1, h2, h3, h4, l, d, f⟩ := h
  exact ⟨r, e, i, o, b1, b2, b3, b4, hc, h1.below hb, h2.below hb, h3.below hb, h4.below hb, l, d, f⟩
theorem BMach.write {w : World} {lo hi : Nat} {c : List Value} {m : M} (h : BMach w lo hi c m) : WMach w lo c m := by
  obtain ⟨r, e, i, o, b1, b2, b3, b4, hc, h1, h2, h3, h4, ⟨l1, l2, l3, l4⟩, ⟨d1, d2, d3, d4, d5, d6⟩, f⟩ := h
  exact ⟨r, e, i, o, b1, b2, b3, b4, hc, h1, h2, h3, h4, l1, l2, l3, l4, d1, d2, d3, d4, d5, d6⟩
theorem row_keep2 {S : Nat → Prop} {w w' : World} {B : Nat} {v : Value} {xs : List Int} (h : WRow w B v xs) (hk : Keep S w w') (hB : xs = [] ∨ ¬ S B) : WRow w' B v xs := by
  rcases hB with hB | hB
  · obtain ⟨a, cap, off, h1, h2, h3, hz, _⟩ := h
    exact ⟨a, cap, off, h1, h2, h3, hz, Or.inl hB⟩
  · exact row_keep h hk hB
theorem BMach.keep {S : Nat → Prop} {w w' : World} {lo hi : Nat} {c : List Value} {m : M} (h : BMach w lo hi c m) (hk : Keep S w w') (hS : ∀ b, lo ≤ b → b < hi → ¬ S b) : BMach w' lo hi c m := by
  obtain ⟨r, e, i, o, b1, b2, b3, b4, hc, h1, h2, h3, h4, ⟨l1, l2, l3, l4⟩, d, f1, f2, f3, f4⟩ := h
  exact ⟨r, e, i, o, b1, b2, b3, b4, hc, row_keep2 h1 hk (f1.imp id (hS _ l1)), row_keep2 h2 hk (f2.imp id (hS _ l2)), row_keep2 h3 hk (f3.imp id (hS _ l3)), row_keep2 h4 hk (f4.imp id (hS _ l4)), ⟨l1, l2, l3, l4⟩, d, f1, f2, f3, f4⟩
theorem row_norm2 {w : World} {lo hi b : Nat} {v : Value} {xs : List Int} (j : Nat) (h : WRow w b v xs) (hlo : lo ≤ b) (hw : lo ≤ w.heap.size) (hf : xs = [] ∨ b < hi) : ∃ b', WRow w b' v xs ∧ lo ≤ b' ∧ ((b' = b ∧ b < w.heap.size) ∨ b' = w.heap.size + 1 + j) ∧ ∀ k, k < w.heap.size → ¬ (lo ≤ k ∧ k < hi) → k ≠ b' := by
  obtain ⟨a, cap, off, h1, h2, h3, hz, h4⟩ := h
  by_cases hx : xs = []
  · exact ⟨w.heap.size + 1 + j, ⟨a, cap, off, h1, h2, h3, hz, Or.inl hx⟩, by omega, Or.inr rfl, fun k hk _ => by omega⟩
  · obtain ⟨h4, h5, h6⟩ := h4.resolve_left hx
    have := hf.resolve_left hx
    exact ⟨b, ⟨a, cap, off, h1, h2, h3, hz, Or.inr ⟨h4, h5, h6⟩⟩, hlo, Or.inl ⟨rfl, h5⟩, fun k hk hn => by omega⟩
theorem BMach.norm {w : World} {lo hi : Nat} {c : List Value} {m : M} (h : BMach w lo hi c m) (hw : lo ≤ w.heap.size) :
    ∃ r e i o b1 b2 b3 b4, c = mv m r e i o ∧ WRow w b1 r m.regs ∧ WRow w b2 e m.mem ∧ WRow w b3 i m.ins ∧ WRow w b4 o m.outs ∧ lo ≤ b1 ∧ lo ≤ b2 ∧ lo ≤ b3 ∧ lo ≤ b4 ∧ (b1 ≠ b2 ∧ b1 ≠ b3 ∧ b1 ≠ b4 ∧ b2 ≠ b3 ∧ b2 ≠ b4 ∧ b3 ≠ b4) ∧ b1 ≠ w.heap.size ∧ b2 ≠ w.heap.size ∧ b3 ≠ w.heap.size ∧ b4 ≠ w.heap.size ∧
      (∀ k, k < w.heap.size → ¬ (lo ≤ k ∧ k < hi) → k ≠ b1) ∧ (∀ k, k < w.heap.size → ¬ (lo ≤ k ∧ k < hi) → k ≠ b2) ∧ (∀ k, k < w.heap.size → ¬ (lo ≤ k ∧ k < hi) → k ≠ b3) ∧ (∀ k, k < w.heap.size → ¬ (lo ≤ k ∧ k < hi) → k ≠ b4) := by
  obtain ⟨r, e, i, o, b1, b2, b3, b4, hc, h1, h2, h3, h4, ⟨l1, l2, l3, l4⟩, ⟨d1, d2, d3, d4, d5, d6⟩, f1, f2, f3, f4⟩ := h
  obtain ⟨c1, k1, m1, n1, g1⟩ := row_norm2 0 h1 l1 hw f1
  obtain ⟨c2, k2, m2, n2, g2⟩ := row_norm2 1 h2 l2 hw f2
  obtain ⟨c3, k3, m3, n3, g3⟩ := row_norm2 2 h3 l3 hw f3
  obtain ⟨c4, k4, m4, n4, g4⟩ := row_norm2 3 h4 l4 hw f4
  refine ⟨r, e, i, o, c1, c2, c3, c4, hc, k1, k2, k3, k4, m1, m2, m3, m4, ?_, ?_, ?_, ?_, ?_, g1, g2, g3, g4⟩
  · rcases n1 with ⟨rfl, n1⟩ | rfl <;> rcases n2 with ⟨rfl, n2⟩ | rfl <;> rcases n3 with ⟨rfl, n3⟩ | rfl <;> rcases n4 with ⟨rfl, n4⟩ | rfl <;> omega
  all_goals omega
end Go.Proofs.YtnhpmbhphbphaaaGreat.Mch
