/-
  The specification's steps on a copy of a machine: contracts of l3Reach.
-/
import Derived.Test.YtaokopipgolmbaaGreatDoorMchG
import Derived.Deep.QuietTactic
import Derived.BigQuiet
import Derived.StillTailTactics
namespace Go.Proofs.YtaokopipgolmbaaGreatDoor.Mch
open Go.ChangeShapes Go.WideShapes Go.ChangeAt Go.RowKit IntS
/-- What is asked of a machine that goes on. -/
structure Fit (m : M) : Prop where
  regs : m.regs.length = 4
  mem : m.mem.length = 64
  rw : ∀ (i : Nat) x, m.regs[i]? = some x → 0 ≤ x ∧ x < 65536
  mw : ∀ (i : Nat) x, m.mem[i]? = some x → 0 ≤ x ∧ x < 65536
  p0 : 0 ≤ m.pc
  p1 : m.pc < 65536
  c0 : 0 ≤ m.count
  c1 : m.count ≤ 1000000
def reachM (m : M) (op : Int) (d a : Nat) (k : Int) : M :=
  if 64 ≤ (m.regs.getD a 0 + k) % 65536 then haltM m 3
  else if op = 9 then setM m d (m.mem.getD ((m.regs.getD a 0 + k) % 65536).toNat 0)
  else nextM { m with mem := m.mem.set ((m.regs.getD a 0 + k) % 65536).toNat (m.regs.getD d 0) } (m.pc + 1)
theorem getD_of {xs : List Int} {i : Nat} {x : Int} (h : xs[i]? = some x) : xs.getD i 0 = x := by rw [List.getD_eq_getElem?_getD, h]; rfl
theorem row_drewN {w : World} {B : Nat} {v : Value} {xs : List Int} (h : WRow w B v xs) (k : Nat) : WRow (w.drewN k) B v xs := ⟨h.ex⟩
theorem region_tail {P : Program} {id : Nat} {Q : Exit → Act → World → Prop} {a : Act} {w : World} {l : List Oper} (n : Nat) (hm : P.follows .mixedOrders = true) (hB : Region.lexTailB .any l.toArray n = true)
    (h : wpStill P l.toArray w.drew (fun a' => wpList P l.toArray Q (l.drop n) a' w.drew) (l.take n) a) : (Code.region id l.toArray true).wp P Q a w := wp_region_still_tail n hm hB h
theorem isT_drewN {w : World} {b : Nat} {t : TypeId} (h : IsT w b t) (k : Nat) : IsT (w.drewN k) b t := h
theorem CMach.drewN {w : World} {lo : Nat} {c : List Value} {m : M} (h : CMach w lo c m) (k : Nat) : CMach (w.drewN k) lo c m := by
  obtain ⟨b1, b2, b3, b4, o1, o2, o3, k1, k2, k3, k4, hc, h1, h2, h3, h4, hlo, hd, t1, t2, t3, t4⟩ := h
  exact ⟨b1, b2, b3, b4, o1, o2, o3, k1, k2, k3, k4, hc, row_drewN h1 k, row_drewN h2 k, row_drewN h3 k, h4, hlo, hd, t1, t2, t3, t4⟩
theorem below_drewN {n : Nat} {w u : World} (h : Below n w u) (k : Nat) : Below n w (u.drewN k) := ⟨h.os, h.tape, h.output, h.size, h.block⟩
theorem Rec.drewN {Z : Nat} {cs : List Value} {w : World} (h : Rec Z cs w) (k : Nat) : Rec Z cs (w.drewN k) := ⟨h.lt, h.cell, h.soft⟩
theorem Three.drewN {w u : World} {n : Nat} {A Z O : List Value} (h : Three w n A Z O u) (k : Nat) : Three w n A Z O (u.drewN k) := ⟨below_drewN h.bw k, h.a.drewN k, h.z.drewN k, h.o.drewN k⟩
end Go.Proofs.YtaokopipgolmbaaGreatDoor.Mch
