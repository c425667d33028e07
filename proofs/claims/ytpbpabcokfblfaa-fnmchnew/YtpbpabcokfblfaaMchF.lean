/-
  The specification's steps on a copy of a machine: the functions of the model, and contracts of l3Halt, l3Next, l3Sample.
-/
import Derived.Test.YtpbpabcokfblfaaMchC
namespace Go.Proofs.Ytpbpabcokfblfaa.Mch
open Go.ChangeShapes Go.WideShapes Go.ChangeAt Go.RowKit IntS
def haltM (m : M) (h : Int) : M := { m with halt := h }
def nextM (m : M) (pc : Int) : M := { m with pc := pc % 65536, count := m.count + 1 }
def setM (m : M) (d : Nat) (n : Int) : M := nextM { m with regs := m.regs.set d n } (m.pc + 1)
def sampleM (m : M) (irq : Bool) : M := if (m.waits || irq) && m.lets then { m with waits := false, lets := false, save := m.pc, pc := 48 } else { m with waits := m.waits || irq }
theorem row_at {w : World} {B off cap : Nat} {xs : List Int} (h : WRow w B (.slice (some ⟨B, off, none⟩) xs.length cap) xs) {i : Nat} {x : Int} (hx : xs[i]? = some x) : w.cell? ⟨B, off + i, none⟩ = some (.int .i64 x) ∧ w.frozen? ⟨B, off + i, none⟩ = false := by
  obtain ⟨a0, cap0, off0, hv, h2, h3, hz, h4⟩ := h
  cases hv
  rcases h4 with h4 | ⟨h4, hlt, h5⟩
  · rw [h4] at hx; simp at hx
  cases h4
  exact h5 i x hx
theorem row_set {w : World} {B off cap : Nat} {xs : List Int} (h : WRow w B (.slice (some ⟨B, off, none⟩) xs.length cap) xs) (d : Nat) (n : Int) (hd : d < xs.length) : WRow (w.setCell ⟨B, off + d, none⟩ (.int .i64 n)) B (.slice (some ⟨B, off, none⟩) (xs.set d n).length cap) (xs.set d n) := by
  obtain ⟨a0, cap0, off0, hv, h2, h3, hz, h4⟩ := h
  cases hv
  rcases h4 with h4 | ⟨h4, hlt, h5⟩
  · rw [h4] at hd; simp at hd
  cases h4
  refine ⟨some ⟨B, off, none⟩, cap, off, rfl, by rw [List.length_set]; exact h2, h3, hz, Or.inr ⟨rfl, by simpa using hlt, fun i x hx => ⟨?_, (World.frozen?_setCell ..).trans ?_⟩⟩⟩
  · by_cases e : d = i
    · subst e
      rw [List.getElem?_set_self hd] at hx
      obtain rfl := Option.some.inj hx
      exact World.cell?_setCell_same w _ _ (h5 d _ (List.getElem?_eq_getElem hd)).1
    · rw [List.getElem?_set_ne e] at hx
      rw [World.cell?_setCell_other w _ _ _ (fun h2 => e (by have h3 : off + d = off + i := congrArg Addr.off h2; omega))]
      exact (h5 i x hx).1
  · have hi : i < xs.length := by have := (List.getElem?_eq_some_iff.1 hx).1; rwa [List.length_set] at this
    exact (h5 i _ (List.getElem?_eq_getElem hi)).2
theorem forms {w : World} {lo : Nat} {c : List Value} {m : M} (h : CMach w lo c m) : ∃ b1 o1 k1 b2 o2 k2 b3 o3 k3 b4 k4, c = mv m (.slice (some ⟨b1, o1, none⟩) m.regs.length k1) (.slice (some ⟨b2, o2, none⟩) m.mem.length k2) (.slice (some ⟨b3, o3, none⟩) m.ins.length k3) (.slice (some ⟨b4, 0, none⟩) m.outs.length k4) := by
  obtain ⟨b1, b2, b3, b4, o1, o2, o3, k1, k2, k3, k4, hc, _⟩ := h
  exact ⟨b1, o1, k1, b2, o2, k2, b3, o3, k3, b4, k4, hc⟩
theorem CMach.parts {w : World} {lo b1 o1 k1 b2 o2 k2 b3 o3 k3 b4 k4 : Nat} {m : M} (h : CMach w lo (mv m (.slice (some ⟨b1, o1, none⟩) m.regs.length k1) (.slice (some ⟨b2, o2, none⟩) m.mem.length k2) (.slice (some ⟨b3, o3, none⟩) m.ins.length k3) (.slice (some ⟨b4, 0, none⟩) m.outs.length k4)) m) :
    WRow w b1 (.slice (some ⟨b1, o1, none⟩) m.regs.length k1) m.regs ∧ WRow w b2 (.slice (some ⟨b2, o2, none⟩) m.mem.length k2) m.mem ∧ WRow w b3 (.slice (some ⟨b3, o3, none⟩) m.ins.length k3) m.ins ∧ Own w lo (.slice (some ⟨b4, 0, none⟩) m.outs.length k4) m.outs ∧ (lo ≤ b1 ∧ lo ≤ b2 ∧ lo ≤ b3 ∧ lo ≤ b4) ∧ (b1 ≠ b2 ∧ b1 ≠ b3 ∧ b1 ≠ b4 ∧ b2 ≠ b3 ∧ b2 ≠ b4 ∧ b3 ≠ b4) ∧ (IsR w b1 o1 k1 ∧ IsT w b2 3 ∧ IsT w b3 3 ∧ IsT w b4 3) := by
  obtain ⟨c1, c2, c3, c4, p1, p2, p3, e1, e2, e3, e4, hc, r⟩ := h
  simp only [mv, List.cons.injEq, Value.slice.injEq, Option.some.injEq, Addr.mk.injEq, and_true, true_and] at hc
  obtain ⟨⟨⟨rfl, rfl⟩, rfl⟩, ⟨⟨rfl, rfl⟩, rfl⟩, ⟨⟨rfl, rfl⟩, rfl⟩, ⟨rfl, rfl⟩⟩ := hc
  exact r
theorem CMach.below {w w' : World} {lo : Nat} {c : List Value} {m : M} (h : CMach w lo c m) (hb : Below w.heap.size w w') : CMach w' lo c m := by
  obtain ⟨b1, b2, b3, b4, o1, o2, o3, k1, k2, k3, k4, hc, h1, h2, h3, h4, hlo, hd, t1, t2, t3, t4⟩ := h
  have := t4.lt
  exact ⟨b1, b2, b3, b4, o1, o2, o3, k1, k2, k3, k4, hc, h1.below hb, h2.below hb, h3.below hb, h4.turn (B := w.heap.size) (Turn.of_below hb) (by omega) t4.lt, hlo, hd, t1.below hb, t2.below hb, t3.below hb, t4.below hb⟩
theorem CMach.write {w : World} {lo : Nat} {c : List Value} {m : M} (h : CMach w lo c m) : WMach w lo c m := by
  obtain ⟨b1, b2, b3, b4, o1, o2, o3, k1, k2, k3, k4, hc, h1, h2, h3, h4, ⟨e1, e2, e3, e4⟩, ⟨d1, d2, d3, d4, d5, d6⟩, _⟩ := h
  obtain ⟨g, cap, hv, _, _, hr⟩ := h4.form (by simp)
  cases hv
  exact ⟨_, _, _, _, b1, b2, b3, b4, hc, h1, h2, h3, hr, e1, e2, e3, e4, d1, d2, d3, d4, d5, d6⟩
theorem CMach.other {w : World} {lo : Nat} {c : List Value} {m : M} (h : CMach w lo c m) {Z : Nat} {t : TypeId} (hZ : IsT w Z t) (ht : t ≠ 3) (j : Nat) (v : Value) : CMach (w.setCell ⟨Z, j, none⟩ v) lo c m := by
  obtain ⟨b1, b2, b3, b4, o1, o2, o3, k1, k2, k3, k4, hc, h1, h2, h3, h4, hlo, hd, t1, t2, t3, t4⟩ := h
  exact ⟨b1, b2, b3, b4, o1, o2, o3, k1, k2, k3, k4, hc, other_row h1 _ _ (hZ.ne t1.t ht), other_row h2 _ _ (hZ.ne t2 ht), other_row h3 _ _ (hZ.ne t3 ht), h4.set _ _ (hZ.ne t4 ht) t4.lt, hlo, hd, t1.set _ _, t2.set _ _, t3.set _ _, t4.set _ _⟩
theorem CMach.ten {u : World} {lo : Nat} {c : List Value} {m : M} (h : CMach u lo c m) {Z : Nat} {t : TypeId} (hZ : IsT u Z t) (ht : t ≠ 3) (v0 v1 v2 v3 v4 v5 v6 v7 v8 v9 : Value) : CMach ((((((((((u.setCell ⟨Z, 0, none⟩ v0).setCell ⟨Z, 1, none⟩ v1).setCell ⟨Z, 2, none⟩ v2).setCell ⟨Z, 3, none⟩ v3).setCell ⟨Z, 4, none⟩ v4).setCell ⟨Z, 5, none⟩ v5).setCell ⟨Z, 6, none⟩ v6).setCell ⟨Z, 7, none⟩ v7).setCell ⟨Z, 8, none⟩ v8).setCell ⟨Z, 9, none⟩ v9) lo c m := by
  have z0 := hZ
  exact (CMach.other (CMach.other (CMach.other (CMach.other (CMach.other (CMach.other (CMach.other (CMach.other (CMach.other (CMach.other h hZ ht 0 v0) (hZ.set ⟨Z, 0, none⟩ v0) ht 1 v1) ((hZ.set ⟨Z, 0, none⟩ v0).set ⟨Z, 1, none⟩ v1) ht 2 v2) (((hZ.set ⟨Z, 0, none⟩ v0).set ⟨Z, 1, none⟩ v1).set ⟨Z, 2, none⟩ v2) ht 3 v3) ((((hZ.set ⟨Z, 0, none⟩ v0).set ⟨Z, 1, none⟩ v1).set ⟨Z, 2, none⟩ v2).set ⟨Z, 3, none⟩ v3) ht 4 v4) (((((hZ.set ⟨Z, 0, none⟩ v0).set ⟨Z, 1, none⟩ v1).set ⟨Z, 2, none⟩ v2).set ⟨Z, 3, none⟩ v3).set ⟨Z, 4, none⟩ v4) ht 5 v5) ((((((hZ.set ⟨Z, 0, none⟩ v0).set ⟨Z, 1, none⟩ v1).set ⟨Z, 2, none⟩ v2).set ⟨Z, 3, none⟩ v3).set ⟨Z, 4, none⟩ v4).set ⟨Z, 5, none⟩ v5) ht 6 v6) (((((((hZ.set ⟨Z, 0, none⟩ v0).set ⟨Z, 1, none⟩ v1).set ⟨Z, 2, none⟩ v2).set ⟨Z, 3, none⟩ v3).set ⟨Z, 4, none⟩ v4).set ⟨Z, 5, none⟩ v5).set ⟨Z, 6, none⟩ v6) ht 7 v7) ((((((((hZ.set ⟨Z, 0, none⟩ v0).set ⟨Z, 1, none⟩ v1).set ⟨Z, 2, none⟩ v2).set ⟨Z, 3, none⟩ v3).set ⟨Z, 4, none⟩ v4).set ⟨Z, 5, none⟩ v5).set ⟨Z, 6, none⟩ v6).set ⟨Z, 7, none⟩ v7) ht 8 v8) (((((((((hZ.set ⟨Z, 0, none⟩ v0).set ⟨Z, 1, none⟩ v1).set ⟨Z, 2, none⟩ v2).set ⟨Z, 3, none⟩ v3).set ⟨Z, 4, none⟩ v4).set ⟨Z, 5, none⟩ v5).set ⟨Z, 6, none⟩ v6).set ⟨Z, 7, none⟩ v7).set ⟨Z, 8, none⟩ v8) ht 9 v9)
theorem below_ten {w u : World} {n Z : Nat} (h : Below n w u) (hZ : n ≤ Z) (v0 v1 v2 v3 v4 v5 v6 v7 v8 v9 : Value) : Below n w ((((((((((u.setCell ⟨Z, 0, none⟩ v0).setCell ⟨Z, 1, none⟩ v1).setCell ⟨Z, 2, none⟩ v2).setCell ⟨Z, 3, none⟩ v3).setCell ⟨Z, 4, none⟩ v4).setCell ⟨Z, 5, none⟩ v5).setCell ⟨Z, 6, none⟩ v6).setCell ⟨Z, 7, none⟩ v7).setCell ⟨Z, 8, none⟩ v8).setCell ⟨Z, 9, none⟩ v9) :=
  ((((((((((h.setCell (p := ⟨Z, 0, none⟩) hZ v0).setCell (p := ⟨Z, 1, none⟩) hZ v1).setCell (p := ⟨Z, 2, none⟩) hZ v2).setCell (p := ⟨Z, 3, none⟩) hZ v3).setCell (p := ⟨Z, 4, none⟩) hZ v4).setCell (p := ⟨Z, 5, none⟩) hZ v5).setCell (p := ⟨Z, 6, none⟩) hZ v6).setCell (p := ⟨Z, 7, none⟩) hZ v7).setCell (p := ⟨Z, 8, none⟩) hZ v8).setCell (p := ⟨Z, 9, none⟩) hZ v9)
theorem CMach.plain {w : World} {lo : Nat} {regs mem ins outs : List Int} {pc save halt count pc' save' halt' count' : Int} {lets waits lets' waits' : Bool} {v1 v2 v3 v4 : Value} (h : CMach w lo (mv ⟨regs, pc, mem, save, lets, waits, halt, ins, outs, count⟩ v1 v2 v3 v4) ⟨regs, pc, mem, save, lets, waits, halt, ins, outs, count⟩) :
    CMach w lo (mv ⟨regs, pc', mem, save', lets', waits', halt', ins, outs, count'⟩ v1 v2 v3 v4) ⟨regs, pc', mem, save', lets', waits', halt', ins, outs, count'⟩ := by
  obtain ⟨b1, b2, b3, b4, o1, o2, o3, k1, k2, k3, k4, hc, r⟩ := h
  simp only [mv, List.cons.injEq, and_true, true_and] at hc
  obtain ⟨rfl, rfl, rfl, rfl⟩ := hc
  exact ⟨b1, b2, b3, b4, o1, o2, o3, k1, k2, k3, k4, rfl, r⟩
theorem CMach.setReg {w : World} {lo b1 o1 k1 b2 o2 k2 b3 o3 k3 b4 k4 : Nat} {m : M} (h : CMach w lo (mv m (.slice (some ⟨b1, o1, none⟩) m.regs.length k1) (.slice (some ⟨b2, o2, none⟩) m.mem.length k2) (.slice (some ⟨b3, o3, none⟩) m.ins.length k3) (.slice (some ⟨b4, 0, none⟩) m.outs.length k4)) m) (d : Nat) (n : Int) (hd : d < m.regs.length) :
    CMach (w.setCell ⟨b1, o1 + d, none⟩ (.int .i64 n)) lo (mv m (.slice (some ⟨b1, o1, none⟩) m.regs.length k1) (.slice (some ⟨b2, o2, none⟩) m.mem.length k2) (.slice (some ⟨b3, o3, none⟩) m.ins.length k3) (.slice (some ⟨b4, 0, none⟩) m.outs.length k4)) { m with regs := m.regs.set d n } := by
  obtain ⟨h1, h2, h3, h4, hlo, ⟨d1, d2, d3, d4, d5, d6⟩, t1, t2, t3, t4⟩ := h.parts
  refine ⟨b1, b2, b3, b4, o1, o2, o3, k1, k2, k3, k4, ?_, row_set h1 d n hd, other_row h2 _ _ d1, other_row h3 _ _ d2, h4.set _ _ d3 t4.lt, hlo, ⟨d1, d2, d3, d4, d5, d6⟩, t1.set _ _, t2.set _ _, t3.set _ _, t4.set _ _⟩
  simp only [mv, List.length_set]
theorem CMach.setMem {w : World} {lo b1 o1 k1 b2 o2 k2 b3 o3 k3 b4 k4 : Nat} {m : M} (h : CMach w lo (mv m (.slice (some ⟨b1, o1, none⟩) m.regs.length k1) (.slice (some ⟨b2, o2, none⟩) m.mem.length k2) (.slice (some ⟨b3, o3, none⟩) m.ins.length k3) (.slice (some ⟨b4, 0, none⟩) m.outs.length k4)) m) (d : Nat) (n : Int) (hd : d < m.mem.length) :
    CMach (w.setCell ⟨b2, o2 + d, none⟩ (.int .i64 n)) lo (mv m (.slice (some ⟨b1, o1, none⟩) m.regs.length k1) (.slice (some ⟨b2, o2, none⟩) m.mem.length k2) (.slice (some ⟨b3, o3, none⟩) m.ins.length k3) (.slice (some ⟨b4, 0, none⟩) m.outs.length k4)) { m with mem := m.mem.set d n } := by
  obtain ⟨h1, h2, h3, h4, hlo, ⟨d1, d2, d3, d4, d5, d6⟩, t1, t2, t3, t4⟩ := h.parts
  refine ⟨b1, b2, b3, b4, o1, o2, o3, k1, k2, k3, k4, ?_, other_row h1 _ _ (Ne.symm d1), row_set h2 d n hd, other_row h3 _ _ d4, h4.set _ _ d5 t4.lt, hlo, ⟨d1, d2, d3, d4, d5, d6⟩, t1.set _ _, t2.set _ _, t3.set _ _, t4.set _ _⟩
  simp only [mv, List.length_set]
/-- What l3Sample leaves. -/
def sampleC (q1 q2 q3 q4 : Option Addr) (n1 n2 n3 n4 j1 j2 j3 j4 : Nat) (pc save halt count : Int) (lets waits : Bool) (irq : Bool) : Array Value := if (waits || irq) && lets then #[.slice q1 n1 j1, .int .i64 48, .slice q2 n2 j2, .int .i64 pc, .bool false, .bool false, .int .i64 halt, .slice q3 n3 j3, .slice q4 n4 j4, .int .i64 count] else #[.slice q1 n1 j1, .int .i64 pc, .slice q2 n2 j2, .int .i64 save, .bool lets, .bool (waits || irq), .int .i64 halt, .slice q3 n3 j3, .slice q4 n4 j4, .int .i64 count]
theorem Rec.ints {Z lo : Nat} {cs : List Value} {w w' : World} {t : TypeId} (h : Rec Z cs w) (hZ : IsT w Z t) (ht : t ≠ 3) (hi : Ints lo w w') : Rec Z cs w' := by
  have hn : ¬ IsT w Z 3 := fun h2 => hZ.ne h2 ht rfl
  have e := hi.rest Z h.lt hn
  exact ⟨Nat.lt_of_lt_of_le h.lt hi.size, fun i v hv => (World.cell?_of_block (w := w) (a := ⟨Z, i, none⟩) e).trans (h.cell i v hv), fun i => (World.frozen?_of_block (w := w) (a := ⟨Z, i, none⟩) e).trans (h.soft i)⟩
theorem ints_ten {w u : World} {lo Z : Nat} (h : Ints lo w u) (hZ : w.heap.size ≤ Z) (v0 v1 v2 v3 v4 v5 v6 v7 v8 v9 : Value) : Ints lo w ((((((((((u.setCell ⟨Z, 0, none⟩ v0).setCell ⟨Z, 1, none⟩ v1).setCell ⟨Z, 2, none⟩ v2).setCell ⟨Z, 3, none⟩ v3).setCell ⟨Z, 4, none⟩ v4).setCell ⟨Z, 5, none⟩ v5).setCell ⟨Z, 6, none⟩ v6).setCell ⟨Z, 7, none⟩ v7).setCell ⟨Z, 8, none⟩ v8).setCell ⟨Z, 9, none⟩ v9) :=
  ((((((((((h.high (p := ⟨Z, 0, none⟩) hZ v0).high (p := ⟨Z, 1, none⟩) hZ v1).high (p := ⟨Z, 2, none⟩) hZ v2).high (p := ⟨Z, 3, none⟩) hZ v3).high (p := ⟨Z, 4, none⟩) hZ v4).high (p := ⟨Z, 5, none⟩) hZ v5).high (p := ⟨Z, 6, none⟩) hZ v6).high (p := ⟨Z, 7, none⟩) hZ v7).high (p := ⟨Z, 8, none⟩) hZ v8).high (p := ⟨Z, 9, none⟩) hZ v9)
end Go.Proofs.Ytpbpabcokfblfaa.Mch
