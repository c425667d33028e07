/-
  The specification's l3Copy: the same machine in new memory.
-/
import Derived.Test.YtpbpabcokfblfaaMchS
import Derived.Test.YtpbpabcokfblfaaIntA
import Derived.Handy
namespace Go.Proofs.Ytpbpabcokfblfaa.Mch
open Go.ChangeShapes Go.WideShapes Go.ChangeAt Go.RowKit IntS
/-- A block of ints whose cells from o on, k of them, are there, and may be written. -/
structure IsR (w : World) (b o k : Nat) : Prop where
  t : IsT w b 3
  room : ∀ j, j < k → (w.cell? ⟨b, o + j, none⟩).isSome = true ∧ w.frozen? ⟨b, o + j, none⟩ = false
theorem IsR.lt {w : World} {b o k : Nat} (h : IsR w b o k) : b < w.heap.size := h.t.lt
theorem IsR.turn {w w' : World} {b o k B : Nat} (h : IsR w b o k) (ht : Turn B w w') (hB : b ≠ B) : IsR w' b o k :=
  ⟨h.t.turn ht hB, fun j hj => ⟨by rw [ht.cell (p := ⟨b, o + j, none⟩) h.lt hB]; exact (h.room j hj).1, (ht.frozen (p := ⟨b, o + j, none⟩) h.lt hB).trans (h.room j hj).2⟩⟩
theorem IsR.below {w w' : World} {b o k : Nat} (h : IsR w b o k) (hb : Below w.heap.size w w') : IsR w' b o k := h.turn (B := b + 1) (Turn.of_below hb) (by omega)
theorem IsR.set {w : World} {b o k : Nat} (h : IsR w b o k) (p : Addr) (v : Value) : IsR (w.setCell p v) b o k :=
  ⟨h.t.set p v, fun j hj => ⟨by
    obtain ⟨x, hx⟩ := Option.isSome_iff_exists.1 (h.room j hj).1
    by_cases e : p = ⟨b, o + j, none⟩
    · subst e
      rw [World.cell?_setCell_same w _ _ hx]
      rfl
    · rw [World.cell?_setCell_other w _ _ _ e, hx]
      rfl, (World.frozen?_setCell ..).trans (h.room j hj).2⟩⟩
theorem IsR.of_own {w : World} {base g n cap : Nat} {xs : List Int} (h : Own w base (.slice (some ⟨g, 0, none⟩) n cap) xs) : IsR w g 0 cap :=
  ⟨h.isT, fun j hj => by rw [Nat.zero_add]; exact h.cells.2.2.2 j hj⟩
/-- A struct that holds a machine whose lists the call itself made: each in a block of its own, from block lo on. -/
structure CMach (w : World) (lo : Nat) (c : List Value) (m : M) : Prop where
  ex : ∃ (b1 b2 b3 b4 o1 o2 o3 : Nat) (k1 k2 k3 k4 : Nat), c = mv m (.slice (some ⟨b1, o1, none⟩) m.regs.length k1) (.slice (some ⟨b2, o2, none⟩) m.mem.length k2) (.slice (some ⟨b3, o3, none⟩) m.ins.length k3) (.slice (some ⟨b4, 0, none⟩) m.outs.length k4) ∧
    WRow w b1 (.slice (some ⟨b1, o1, none⟩) m.regs.length k1) m.regs ∧ WRow w b2 (.slice (some ⟨b2, o2, none⟩) m.mem.length k2) m.mem ∧ WRow w b3 (.slice (some ⟨b3, o3, none⟩) m.ins.length k3) m.ins ∧ Own w lo (.slice (some ⟨b4, 0, none⟩) m.outs.length k4) m.outs ∧
    (lo ≤ b1 ∧ lo ≤ b2 ∧ lo ≤ b3 ∧ lo ≤ b4) ∧ (b1 ≠ b2 ∧ b1 ≠ b3 ∧ b1 ≠ b4 ∧ b2 ≠ b3 ∧ b2 ≠ b4 ∧ b3 ≠ b4) ∧ (IsR w b1 o1 k1 ∧ IsT w b2 3 ∧ IsT w b3 3 ∧ IsT w b4 3)
theorem Three.turn {w u u' : World} {n g : Nat} {A Z O : List Value} (h : Three w n A Z O u) (ht : Turn g u u') (hg : n + 1 + 1 < g) : Three w n A Z O u' :=
  ⟨h.bw.trans (ht.below (by omega) (Nat.le_of_lt h.a.lt)), h.a.turn ht (by omega), h.z.turn ht (by omega), h.o.turn ht (by omega)⟩
theorem heap_new (u : World) (t : TypeId) : (u.alloc (.cells #[] t)).heap[u.heap.size]? = some (.cells #[] t (0, 0)) := (MapKept.heap_alloc u _).1
theorem heap_new2 (u : World) (t : TypeId) (g : Nat) (h : u.heap.size = g) : (u.alloc (.cells #[] t)).heap[g]? = some (.cells #[] t (0, 0)) := by
  subst h
  exact heap_new u t
theorem alloc_below (u : World) (o : Obj) : Below u.heap.size u (u.alloc o) := (Below.refl _ _).alloc (Nat.le_refl _) o
/-- No list of a machine is longer than that. -/
def Mid (m : M) : Prop := m.regs.length ≤ 2000000 ∧ m.mem.length ≤ 2000000 ∧ m.ins.length ≤ 2000000 ∧ m.outs.length ≤ 2000000
theorem Small.mid {m : M} (h : Small m) : Mid m := ⟨Nat.le_trans h.1 (by omega), Nat.le_trans h.2.1 (by omega), Nat.le_trans h.2.2.1 (by omega), Nat.le_trans h.2.2.2 (by omega)⟩
end Go.Proofs.Ytpbpabcokfblfaa.Mch
