/-
  How a piece of code runs: the specification's l6Event, where a word comes in, an address is missed, a word is stored.
  How a piece of code runs: the specification's l6Event, where an address is missed, a word is stored.
-/
import Derived.Test.YtaokopipgolmbaaGreatDoorIrRp
namespace Go.Proofs.YtaokopipgolmbaaGreatDoor.Ir
set_option linter.unusedVariables false
set_option linter.unusedSimpArgs false
open Go.ChangeShapes Go.WideShapes Go.ChangeAt Go.RowKit IntS Mch
theorem ins_capI {w : World} {lo b1 o1 k1 b2 o2 k2 b3 o3 k3 b4 k4 : Nat} {m : M} (h : CMach w lo (mv m (.slice (some ⟨b1, o1, none⟩) m.regs.length k1) (.slice (some ⟨b2, o2, none⟩) m.mem.length k2) (.slice (some ⟨b3, o3, none⟩) m.ins.length k3) (.slice (some ⟨b4, 0, none⟩) m.outs.length k4)) m) : m.ins.length ≤ k3 ∧ k3 ≤ maxLen := by
  obtain ⟨h1, h2, ⟨a, cap, off, e1, e2, e3, _⟩, _⟩ := h.parts
  cases e1
  exact ⟨e2, e3⟩
theorem CMach.popI {w : World} {lo b1 o1 k1 b2 o2 k2 b3 o3 k3 b4 k4 o3' k3' : Nat} {regs mem outs r : List Int} {x pc save halt count : Int} {lets waits : Bool}
    (h : CMach w lo (mv ⟨regs, pc, mem, save, lets, waits, halt, x :: r, outs, count⟩ (.slice (some ⟨b1, o1, none⟩) regs.length k1) (.slice (some ⟨b2, o2, none⟩) mem.length k2) (.slice (some ⟨b3, o3, none⟩) (x :: r).length k3) (.slice (some ⟨b4, 0, none⟩) outs.length k4)) ⟨regs, pc, mem, save, lets, waits, halt, x :: r, outs, count⟩)
    (hr : r = [] ∨ o3' = o3 + 1) (hk : r.length ≤ k3') (hm : k3' ≤ maxLen) :
    CMach w lo (mv ⟨regs, pc, mem, save, lets, waits, halt, r, outs, count⟩ (.slice (some ⟨b1, o1, none⟩) regs.length k1) (.slice (some ⟨b2, o2, none⟩) mem.length k2) (.slice (some ⟨b3, o3', none⟩) r.length k3') (.slice (some ⟨b4, 0, none⟩) outs.length k4)) ⟨regs, pc, mem, save, lets, waits, halt, r, outs, count⟩ := by
  obtain ⟨h1, h2, h3, h4, hlo, hd, t1, t2, t3, t4⟩ := h.parts
  refine ⟨b1, b2, b3, b4, o1, o2, o3', k1, k2, k3', k4, rfl, h1, h2, ?_, h4, hlo, hd, t1, t2, t3, t4⟩
  obtain ⟨a, cap, off, e1, e2, e3, ez, e4⟩ := h3
  refine ⟨some ⟨b3, o3', none⟩, k3', o3', rfl, hk, hm, (fun h => by cases h), ?_⟩
  rcases hr with hr | hr
  · exact Or.inl hr
  · obtain ⟨ea, el, ec⟩ := e4.resolve_left (by simp)
    cases e1
    cases ea
    subst hr
    refine Or.inr ⟨rfl, el, fun i y hy => ?_⟩
    have := ec (i + 1) y (by simpa using hy)
    rw [show o3 + 1 + i = o3 + (i + 1) by omega]
    exact this
/-- Four structs in blocks of their own. -/
structure Four (w : World) (n : Nat) (A B O Z : List Value) (u : World) : Prop where
  bw : Below n w u
  a : Rec n A u
  b : Rec (n + 1) B u
  o : Rec (n + 1 + 1) O u
  z : Rec (n + 1 + 1 + 1) Z u
theorem Four.new (w : World) (A B O Z : List Value) (t1 t2 t3 t4 : TypeId) : Four w w.heap.size A B O Z ((((w.alloc (.cells A.toArray t1)).alloc (.cells B.toArray t2)).alloc (.cells O.toArray t3)).alloc (.cells Z.toArray t4)) := by
  have T := Three.new w A B O t1 t2 t3
  have hz := Rec.new (((w.alloc (.cells A.toArray t1)).alloc (.cells B.toArray t2)).alloc (.cells O.toArray t3)) Z t4
  have ez : (((w.alloc (.cells A.toArray t1)).alloc (.cells B.toArray t2)).alloc (.cells O.toArray t3)).heap.size = w.heap.size + 1 + 1 + 1 := by simp
  rw [ez] at hz
  exact ⟨T.bw.alloc (by rw [ez]; omega) _, T.a.alloc _, T.z.alloc _, T.o.alloc _, hz⟩
theorem Four.below {w u u' : World} {n : Nat} {A B O Z : List Value} (h : Four w n A B O Z u) (hb : Below u.heap.size u u') : Four w n A B O Z u' :=
  ⟨h.bw.trans (hb.mono (Nat.le_of_lt h.a.lt)), h.a.below hb, h.b.below hb, h.o.below hb, h.z.below hb⟩
/-- The blocks of a machine's slices. -/
def mb (c : List Value) : List Nat := c.filterMap fun v => match v with | .slice (some a) _ _ => some a.block | _ => none
/-- Of the blocks that were there, only those of a list may have turned. -/
structure Onl (bs : List Nat) (w w' : World) : Prop where
  os : w'.os = w.os
  tape : w'.tape = w.tape
  output : w'.output = w.output
  size : w.heap.size ≤ w'.heap.size
  block : ∀ k, k < w.heap.size → k ∉ bs → w'.heap[k]? = w.heap[k]?
theorem Onl.of_below {bs : List Nat} {w w' : World} (h : Below w.heap.size w w') : Onl bs w w' := ⟨h.os, h.tape, h.output, h.size, fun k hk _ => h.block k hk⟩
theorem Onl.of_turn {bs : List Nat} {B : Nat} {w w' : World} (h : Turn B w w') (hB : B ∈ bs) : Onl bs w w' := ⟨h.os, h.tape, h.output, h.size, fun k hk hn => h.block k hk (fun e => hn (e ▸ hB))⟩
theorem Onl.trans {bs : List Nat} {a b c : World} (h : Onl bs a b) (k : Onl bs b c) : Onl bs a c :=
  ⟨k.os.trans h.os, k.tape.trans h.tape, k.output.trans h.output, Nat.le_trans h.size k.size, fun j hj hn => (k.block j (Nat.lt_of_lt_of_le hj h.size) hn).trans (h.block j hj hn)⟩
theorem Onl.high {bs : List Nat} {w u : World} (h : Onl bs w u) {p : Addr} (hp : w.heap.size ≤ p.block) (v : Value) : Onl bs w (u.setCell p v) := by
  have hb : Below w.heap.size u (u.setCell p v) := (Below.refl _ u).setCell hp v
  exact ⟨hb.os.trans h.os, hb.tape.trans h.tape, hb.output.trans h.output, Nat.le_trans h.size hb.size, fun k hk hn => (hb.block k hk).trans (h.block k hk hn)⟩
theorem onl_ten {bs : List Nat} {w u : World} {Z : Nat} (h : Onl bs w u) (hZ : w.heap.size ≤ Z) (v0 v1 v2 v3 v4 v5 v6 v7 v8 v9 : Value) : Onl bs w ((((((((((u.setCell ⟨Z, 0, none⟩ v0).setCell ⟨Z, 1, none⟩ v1).setCell ⟨Z, 2, none⟩ v2).setCell ⟨Z, 3, none⟩ v3).setCell ⟨Z, 4, none⟩ v4).setCell ⟨Z, 5, none⟩ v5).setCell ⟨Z, 6, none⟩ v6).setCell ⟨Z, 7, none⟩ v7).setCell ⟨Z, 8, none⟩ v8).setCell ⟨Z, 9, none⟩ v9) :=
  ((((((((((h.high (p := ⟨Z, 0, none⟩) hZ v0).high (p := ⟨Z, 1, none⟩) hZ v1).high (p := ⟨Z, 2, none⟩) hZ v2).high (p := ⟨Z, 3, none⟩) hZ v3).high (p := ⟨Z, 4, none⟩) hZ v4).high (p := ⟨Z, 5, none⟩) hZ v5).high (p := ⟨Z, 6, none⟩) hZ v6).high (p := ⟨Z, 7, none⟩) hZ v7).high (p := ⟨Z, 8, none⟩) hZ v8).high (p := ⟨Z, 9, none⟩) hZ v9)
/-- What l6Event tells. -/
def Ev (lo : Nat) (w : World) (c : List Value) (r : M × Int × Bool) (e : Ending) (w' : World) : Prop := ∃ c', e = .returned (.tuple #[.agg c'.toArray, .int .i64 r.2.1, .bool r.2.2]) ∧ CMach w' lo c' r.1 ∧ Ints lo w w' ∧ Onl (mb c) w w' ∧ ∀ g, g ∈ mb c' → g ∈ mb c ∨ w.heap.size ≤ g
set_option maxRecDepth 8000 in
set_option maxHeartbeats 4000000 in
theorem l6Event_in0 (m : M) (b : Bk) (q : Option Addr) (nb jb : Nat) (x_ y_ k_ t_ x y : Int) (lo : Nat) (c : List Value) (w : World) (h : CMach w lo c m) (he : m.ins = []) :
    Calls Tryz.prog 20 #[.agg c.toArray, .agg #[.int .i64 b.pc, .int .i64 b.ln, .slice q nb jb, .int .i64 b.en, .int .i64 b.x, .int .i64 b.y, .int .i64 b.k], .agg #[.int .i64 6, .int .i64 x_, .int .i64 y_, .int .i64 k_, .int .i64 t_], .int .i64 x, .int .i64 y] w (Ev lo w c (evM b m ⟨6, x_, y_, k_, t_⟩ x y)) := by
  obtain ⟨b1, o1, k1, b2, o2, k2, b3, o3, k3, b4, k4, rfl⟩ := forms h
  obtain ⟨regs, pc, mem, save, lets, waits, halt, ins, outs, count⟩ := m
  simp only [] at he
  subst he
  have HM : Hid (evM b ⟨regs, pc, mem, save, lets, waits, halt, [], outs, count⟩ ⟨6, x_, y_, k_, t_⟩ x y = (⟨regs, pc, mem, save, lets, waits, halt, [], outs, count⟩, 0, false)) := rfl
  have HH := hide h
  clear h
  simp only [mv, List.length_nil] at *
  go_enter Tryz.func20, Tryz.ntmps20
  go_wp2
  refine bodyPost_ret (v := .tuple #[.agg #[.slice (some ⟨b1, o1, none⟩) regs.length k1, .int .i64 pc, .slice (some ⟨b2, o2, none⟩) mem.length k2, .int .i64 save, .bool lets, .bool waits, .int .i64 halt, .slice (some ⟨b3, o3, none⟩) 0 k3, .slice (some ⟨b4, 0, none⟩) outs.length k4, .int .i64 count], .int .i64 0, .bool false]) (by simp [results, Tryz.results20, go_sem]) rfl ⟨[.slice (some ⟨b1, o1, none⟩) regs.length k1, .int .i64 pc, .slice (some ⟨b2, o2, none⟩) mem.length k2, .int .i64 save, .bool lets, .bool waits, .int .i64 halt, .slice (some ⟨b3, o3, none⟩) 0 k3, .slice (some ⟨b4, 0, none⟩) outs.length k4, .int .i64 count], by rw [HM.out], by rw [HM.out]; exact HH.out.below (by go_grown), ?_⟩
  exact ⟨Ints.of_below (by go_grown), Onl.of_below (by go_grown), fun g hg => Or.inl hg⟩
set_option maxRecDepth 8000 in
set_option maxHeartbeats 4000000 in
theorem l6Event_in1 (m : M) (b : Bk) (q : Option Addr) (nb jb : Nat) (x_ y_ k_ t_ x y : Int) (lo : Nat) (c : List Value) (w : World) (h : CMach w lo c m) (x0 : Int) (he : m.ins = [x0]) (hk3 : ∀ q1 n1 q2 n2 q3 n3 k3 q4 n4 k1 k2 k4, c = mv m (.slice q1 n1 k1) (.slice q2 n2 k2) (.slice q3 n3 k3) (.slice q4 n4 k4) → k3 = 1) :
    Calls Tryz.prog 20 #[.agg c.toArray, .agg #[.int .i64 b.pc, .int .i64 b.ln, .slice q nb jb, .int .i64 b.en, .int .i64 b.x, .int .i64 b.y, .int .i64 b.k], .agg #[.int .i64 6, .int .i64 x_, .int .i64 y_, .int .i64 k_, .int .i64 t_], .int .i64 x, .int .i64 y] w (Ev lo w c (evM b m ⟨6, x_, y_, k_, t_⟩ x y)) := by
  obtain ⟨b1, o1, k1, b2, o2, k2, b3, o3, k3, b4, k4, rfl⟩ := forms h
  obtain ⟨regs, pc, mem, save, lets, waits, halt, ins, outs, count⟩ := m
  simp only [] at he
  subst he
  obtain ⟨q31, q32⟩ := ins_capI h
  simp only [List.length_cons] at q31
  unfold maxLen at q32
  have K3 := (hk3 _ _ _ _ _ _ _ _ _ _ _ _ rfl)
  subst K3
  clear hk3
  have bX : Below w.heap.size w ((((w.alloc (.cells #[.slice (some ⟨b1, o1, none⟩) regs.length k1, .int .i64 pc, .slice (some ⟨b2, o2, none⟩) mem.length k2, .int .i64 save, .bool lets, .bool waits, .int .i64 halt, .slice (some ⟨b3, o3, none⟩) 1 1, .slice (some ⟨b4, 0, none⟩) outs.length k4, .int .i64 count] 30)).alloc (.cells #[.int .i64 b.pc, .int .i64 b.ln, .slice q nb jb, .int .i64 b.en, .int .i64 b.x, .int .i64 b.y, .int .i64 b.k] 35)).alloc (.cells #[.int .i64 6, .int .i64 x_, .int .i64 y_, .int .i64 k_, .int .i64 t_] 49)).alloc (.cells #[.slice none 0 0, .int .i64 0, .slice none 0 0, .int .i64 0, .bool false, .bool false, .int .i64 0, .slice none 0 0, .slice none 0 0, .int .i64 0] 30)) := ((((Below.refl _ _).alloc (Nat.le_refl _) _).alloc (by simp) _).alloc (by simp; omega) _).alloc (by simp; omega) _
  obtain ⟨ci, _⟩ := row_at (h.below bX).parts.2.2.1 (show [x0][0]? = some x0 from rfl)
  rw [Nat.add_zero o3] at ci
  have HM : Hid (evM b ⟨regs, pc, mem, save, lets, waits, halt, [x0], outs, count⟩ ⟨6, x_, y_, k_, t_⟩ x y = (⟨regs, pc, mem, save, lets, waits, halt, [], outs, count⟩, x0, false)) := rfl
  have HH := hide (CMach.popI (o3' := o3) (k3' := 0) h (Or.inl rfl) (by simp) (by unfold maxLen; omega))
  clear h bX
  simp only [mv, List.length_cons, List.length_nil, Nat.zero_add] at *
  go_enter Tryz.func20, Tryz.ntmps20
  go_wp2
  refine bodyPost_ret (v := .tuple #[.agg #[.slice (some ⟨b1, o1, none⟩) regs.length k1, .int .i64 pc, .slice (some ⟨b2, o2, none⟩) mem.length k2, .int .i64 save, .bool lets, .bool waits, .int .i64 halt, .slice (some ⟨b3, o3, none⟩) 0 0, .slice (some ⟨b4, 0, none⟩) outs.length k4, .int .i64 count], .int .i64 x0, .bool false]) (by simp [results, Tryz.results20, go_sem]) rfl ⟨[.slice (some ⟨b1, o1, none⟩) regs.length k1, .int .i64 pc, .slice (some ⟨b2, o2, none⟩) mem.length k2, .int .i64 save, .bool lets, .bool waits, .int .i64 halt, .slice (some ⟨b3, o3, none⟩) 0 0, .slice (some ⟨b4, 0, none⟩) outs.length k4, .int .i64 count], by rw [HM.out], by rw [HM.out]; exact HH.out.below (by go_grown), ?_⟩
  exact ⟨Ints.of_below (by go_grown), Onl.of_below (by go_grown), fun g hg => Or.inl hg⟩
set_option maxRecDepth 8000 in
set_option maxHeartbeats 4000000 in
theorem l6Event_in2 (m : M) (b : Bk) (q : Option Addr) (nb jb : Nat) (x_ y_ k_ t_ x y : Int) (lo : Nat) (c : List Value) (w : World) (h : CMach w lo c m) (x0 : Int) (r : List Int) (he : m.ins = x0 :: r) (hk3 : ∀ q1 n1 q2 n2 q3 n3 k3 q4 n4 k1 k2 k4, c = mv m (.slice q1 n1 k1) (.slice q2 n2 k2) (.slice q3 n3 k3) (.slice q4 n4 k4) → k3 ≠ 1) :
    Calls Tryz.prog 20 #[.agg c.toArray, .agg #[.int .i64 b.pc, .int .i64 b.ln, .slice q nb jb, .int .i64 b.en, .int .i64 b.x, .int .i64 b.y, .int .i64 b.k], .agg #[.int .i64 6, .int .i64 x_, .int .i64 y_, .int .i64 k_, .int .i64 t_], .int .i64 x, .int .i64 y] w (Ev lo w c (evM b m ⟨6, x_, y_, k_, t_⟩ x y)) := by
  obtain ⟨b1, o1, k1, b2, o2, k2, b3, o3, k3, b4, k4, rfl⟩ := forms h
  obtain ⟨regs, pc, mem, save, lets, waits, halt, ins, outs, count⟩ := m
  simp only [] at he
  subst he
  obtain ⟨q31, q32⟩ := ins_capI h
  simp only [List.length_cons] at q31
  unfold maxLen at q32
  have K3 := (hk3 _ _ _ _ _ _ _ _ _ _ _ _ rfl)
  clear hk3
  have bX : Below w.heap.size w ((((w.alloc (.cells #[.slice (some ⟨b1, o1, none⟩) regs.length k1, .int .i64 pc, .slice (some ⟨b2, o2, none⟩) mem.length k2, .int .i64 save, .bool lets, .bool waits, .int .i64 halt, .slice (some ⟨b3, o3, none⟩) (r.length + 1) k3, .slice (some ⟨b4, 0, none⟩) outs.length k4, .int .i64 count] 30)).alloc (.cells #[.int .i64 b.pc, .int .i64 b.ln, .slice q nb jb, .int .i64 b.en, .int .i64 b.x, .int .i64 b.y, .int .i64 b.k] 35)).alloc (.cells #[.int .i64 6, .int .i64 x_, .int .i64 y_, .int .i64 k_, .int .i64 t_] 49)).alloc (.cells #[.slice none 0 0, .int .i64 0, .slice none 0 0, .int .i64 0, .bool false, .bool false, .int .i64 0, .slice none 0 0, .slice none 0 0, .int .i64 0] 30)) := ((((Below.refl _ _).alloc (Nat.le_refl _) _).alloc (by simp) _).alloc (by simp; omega) _).alloc (by simp; omega) _
  obtain ⟨ci, _⟩ := row_at (h.below bX).parts.2.2.1 (show (x0 :: r)[0]? = some x0 from rfl)
  rw [Nat.add_zero o3] at ci
  have HM : Hid (evM b ⟨regs, pc, mem, save, lets, waits, halt, (x0 :: r), outs, count⟩ ⟨6, x_, y_, k_, t_⟩ x y = (⟨regs, pc, mem, save, lets, waits, halt, r, outs, count⟩, x0, false)) := rfl
  have HH := hide (CMach.popI (o3' := o3 + 1) (k3' := k3 - 1) h (Or.inr rfl) (by omega) (by unfold maxLen; omega))
  clear h bX
  simp only [mv, List.length_cons] at *
  go_enter Tryz.func20, Tryz.ntmps20
  go_wp2
  refine bodyPost_ret (v := .tuple #[.agg #[.slice (some ⟨b1, o1, none⟩) regs.length k1, .int .i64 pc, .slice (some ⟨b2, o2, none⟩) mem.length k2, .int .i64 save, .bool lets, .bool waits, .int .i64 halt, .slice (some ⟨b3, o3 + 1, none⟩) r.length (k3 - 1), .slice (some ⟨b4, 0, none⟩) outs.length k4, .int .i64 count], .int .i64 x0, .bool false]) (by simp [results, Tryz.results20, go_sem]) rfl ⟨[.slice (some ⟨b1, o1, none⟩) regs.length k1, .int .i64 pc, .slice (some ⟨b2, o2, none⟩) mem.length k2, .int .i64 save, .bool lets, .bool waits, .int .i64 halt, .slice (some ⟨b3, o3 + 1, none⟩) r.length (k3 - 1), .slice (some ⟨b4, 0, none⟩) outs.length k4, .int .i64 count], by rw [HM.out], by rw [HM.out]; exact HH.out.below (by go_grown), ?_⟩
  exact ⟨Ints.of_below (by go_grown), Onl.of_below (by go_grown), fun g hg => Or.inl hg⟩
end Go.Proofs.YtaokopipgolmbaaGreatDoor.Ir
namespace Go.Proofs.YtaokopipgolmbaaGreatDoor.Ir
set_option linter.unusedVariables false
set_option linter.unusedSimpArgs false
open Go.ChangeShapes Go.WideShapes Go.ChangeAt Go.RowKit IntS Mch
theorem z_type (w : World) (a b o z : Array Value) (t1 t2 t3 t4 : TypeId) : IsT ((((w.alloc (.cells a t1)).alloc (.cells b t2)).alloc (.cells o t3)).alloc (.cells z t4)) (w.heap.size + 1 + 1 + 1) t4 := by
  have e := IsT.new (((w.alloc (.cells a t1)).alloc (.cells b t2)).alloc (.cells o t3)) z t4
  have ez : (((w.alloc (.cells a t1)).alloc (.cells b t2)).alloc (.cells o t3)).heap.size = w.heap.size + 1 + 1 + 1 := by simp
  rw [ez] at e
  exact e
/-- The same four, whatever was written elsewhere. -/
structure Four4 (n : Nat) (A B O Z : List Value) (u : World) : Prop where
  a : Rec n A u
  b : Rec (n + 1) B u
  o : Rec (n + 1 + 1) O u
  z : Rec (n + 1 + 1 + 1) Z u
theorem Four4.below {u u' : World} {n : Nat} {A B O Z : List Value} (h : Four4 n A B O Z u) (hb : Below u.heap.size u u') : Four4 n A B O Z u' := ⟨h.a.below hb, h.b.below hb, h.o.below hb, h.z.below hb⟩
theorem Four.set {w u : World} {n : Nat} {A B O Z : List Value} (h : Four w n A B O Z u) (p : Addr) (v : Value) (hp : p.block < n) : Four4 n A B O Z (u.setCell p v) :=
  ⟨h.a.other p v (by omega), h.b.other p v (by omega), h.o.other p v (by omega), h.z.other p v (by omega)⟩
set_option maxRecDepth 8000 in
set_option maxHeartbeats 4000000 in
theorem l6Event_miss4 (m : M) (b : Bk) (q : Option Addr) (nb jb : Nat) (x_ y_ k_ t_ x y : Int) (lo : Nat) (c : List Value) (w : World) (h : CMach w lo c m) (c0 : 0 ≤ m.count) (c1 : m.count ≤ 1000000) (p0 : 0 ≤ b.pc) (p1 : b.pc ≤ 64) (l0 : 0 ≤ b.ln) (l1 : b.ln ≤ 8) (t0 : 0 ≤ t_) (t7 : t_ ≤ 7) (hx : 64 ≤ x) :
    Calls Tryz.prog 20 #[.agg c.toArray, .agg #[.int .i64 b.pc, .int .i64 b.ln, .slice q nb jb, .int .i64 b.en, .int .i64 b.x, .int .i64 b.y, .int .i64 b.k], .agg #[.int .i64 4, .int .i64 x_, .int .i64 y_, .int .i64 k_, .int .i64 t_], .int .i64 x, .int .i64 y] w (Ev lo w c (evM b m ⟨4, x_, y_, k_, t_⟩ x y)) := by
  obtain ⟨b1, o1, k1, b2, o2, k2, b3, o3, k3, b4, k4, rfl⟩ := forms h
  obtain ⟨regs, pc, mem, save, lets, waits, halt, ins, outs, count⟩ := m
  obtain ⟨bp, ln, ops, en, bx, by_, bk⟩ := b
  have F := hide (Four.new w [.slice (some ⟨b1, o1, none⟩) regs.length k1, .int .i64 pc, .slice (some ⟨b2, o2, none⟩) mem.length k2, .int .i64 save, .bool lets, .bool waits, .int .i64 halt, .slice (some ⟨b3, o3, none⟩) ins.length k3, .slice (some ⟨b4, 0, none⟩) outs.length k4, .int .i64 count] [.int .i64 bp, .int .i64 ln, .slice q nb jb, .int .i64 en, .int .i64 bx, .int .i64 by_, .int .i64 bk] [.int .i64 4, .int .i64 x_, .int .i64 y_, .int .i64 k_, .int .i64 t_] [.slice none 0 0, .int .i64 0, .slice none 0 0, .int .i64 0, .bool false, .bool false, .int .i64 0, .slice none 0 0, .slice none 0 0, .int .i64 0] 30 35 49 30)
  have ZT := hide (z_type w #[.slice (some ⟨b1, o1, none⟩) regs.length k1, .int .i64 pc, .slice (some ⟨b2, o2, none⟩) mem.length k2, .int .i64 save, .bool lets, .bool waits, .int .i64 halt, .slice (some ⟨b3, o3, none⟩) ins.length k3, .slice (some ⟨b4, 0, none⟩) outs.length k4, .int .i64 count] #[.int .i64 bp, .int .i64 ln, .slice q nb jb, .int .i64 en, .int .i64 bx, .int .i64 by_, .int .i64 bk] #[.int .i64 4, .int .i64 x_, .int .i64 y_, .int .i64 k_, .int .i64 t_] #[.slice none 0 0, .int .i64 0, .slice none 0 0, .int .i64 0, .bool false, .bool false, .int .i64 0, .slice none 0 0, .slice none 0 0, .int .i64 0] 30 35 49 30)
  have HM : Hid (evM ⟨bp, ln, ops, en, bx, by_, bk⟩ ⟨regs, pc, mem, save, lets, waits, halt, ins, outs, count⟩ ⟨4, x_, y_, k_, t_⟩ x y = (leaveM ⟨regs, pc, mem, save, lets, waits, halt, ins, outs, count⟩ bp t_ 3, 0, true)) := show _ = _ by
    unfold evM
    simp only []
    rw [if_neg (by decide), if_neg (by decide), if_pos hx]
  have HH := hide h
  have kk : w.heap.size ≤ w.heap.size + 1 + 1 + 1 := by omega
  clear h
  simp only [mv] at *
  go_enter Tryz.func20, Tryz.ntmps20
  go_wp2_with fail
  refine (l6Leave _ _ _ _ _ _ _ _ _ _ _ _ _ _ _ _ _ _ _ _ _ _ _ _ _ _ _ t_ 3 _ c0 c1 p0 p1 t0 (by omega)).mono ?_
  rintro e u ⟨rfl, hb⟩
  have Fu := F.out.below hb
  have ZTu := hide (ZT.out.below hb)
  have Hu := hide (HH.out.below Fu.bw)
  have Bu := hide (Ints.of_below (lo := lo) Fu.bw)
  have Nu := hide (Onl.of_below (bs := [b1, b2, b3, b4]) Fu.bw)
  have z0 := Fu.z.cell 0 _ rfl
  have y0 := Fu.z.soft 0
  have z1 := Fu.z.cell 1 _ rfl
  have y1 := Fu.z.soft 1
  have z2 := Fu.z.cell 2 _ rfl
  have y2 := Fu.z.soft 2
  have z3 := Fu.z.cell 3 _ rfl
  have y3 := Fu.z.soft 3
  have z4 := Fu.z.cell 4 _ rfl
  have y4 := Fu.z.soft 4
  have z5 := Fu.z.cell 5 _ rfl
  have y5 := Fu.z.soft 5
  have z6 := Fu.z.cell 6 _ rfl
  have y6 := Fu.z.soft 6
  have z7 := Fu.z.cell 7 _ rfl
  have y7 := Fu.z.soft 7
  have z8 := Fu.z.cell 8 _ rfl
  have y8 := Fu.z.soft 8
  have z9 := Fu.z.cell 9 _ rfl
  have y9 := Fu.z.soft 9
  clear F ZT HH Fu hb
  go_wp2
  exact bodyPost_ret (v := .tuple #[.agg #[.slice (some ⟨b1, o1, none⟩) regs.length k1, .int .i64 (bp + t_), .slice (some ⟨b2, o2, none⟩) mem.length k2, .int .i64 save, .bool lets, .bool waits, .int .i64 3, .slice (some ⟨b3, o3, none⟩) ins.length k3, .slice (some ⟨b4, 0, none⟩) outs.length k4, .int .i64 (count + t_)], .int .i64 0, .bool true]) (by simp [results, Tryz.results20, go_sem, z0, z1, z2, z3, z4, z5, z6, z7, z8, z9]) rfl ⟨[.slice (some ⟨b1, o1, none⟩) regs.length k1, .int .i64 (bp + t_), .slice (some ⟨b2, o2, none⟩) mem.length k2, .int .i64 save, .bool lets, .bool waits, .int .i64 3, .slice (some ⟨b3, o3, none⟩) ins.length k3, .slice (some ⟨b4, 0, none⟩) outs.length k4, .int .i64 (count + t_)], by rw [HM.out], by rw [HM.out]; exact (CMach.plain Hu.out).ten ZTu.out mach_int _ _ _ _ _ _ _ _ _ _, ints_ten Bu.out kk _ _ _ _ _ _ _ _ _ _, onl_ten Nu.out kk _ _ _ _ _ _ _ _ _ _, fun g hg => Or.inl hg⟩
set_option maxRecDepth 8000 in
set_option maxHeartbeats 4000000 in
theorem l6Event_miss5 (m : M) (b : Bk) (q : Option Addr) (nb jb : Nat) (x_ y_ k_ t_ x y : Int) (lo : Nat) (c : List Value) (w : World) (h : CMach w lo c m) (c0 : 0 ≤ m.count) (c1 : m.count ≤ 1000000) (p0 : 0 ≤ b.pc) (p1 : b.pc ≤ 64) (l0 : 0 ≤ b.ln) (l1 : b.ln ≤ 8) (t0 : 0 ≤ t_) (t7 : t_ ≤ 7) (hx : 64 ≤ x) :
    Calls Tryz.prog 20 #[.agg c.toArray, .agg #[.int .i64 b.pc, .int .i64 b.ln, .slice q nb jb, .int .i64 b.en, .int .i64 b.x, .int .i64 b.y, .int .i64 b.k], .agg #[.int .i64 5, .int .i64 x_, .int .i64 y_, .int .i64 k_, .int .i64 t_], .int .i64 x, .int .i64 y] w (Ev lo w c (evM b m ⟨5, x_, y_, k_, t_⟩ x y)) := by
  obtain ⟨b1, o1, k1, b2, o2, k2, b3, o3, k3, b4, k4, rfl⟩ := forms h
  obtain ⟨regs, pc, mem, save, lets, waits, halt, ins, outs, count⟩ := m
  obtain ⟨bp, ln, ops, en, bx, by_, bk⟩ := b
  have F := hide (Four.new w [.slice (some ⟨b1, o1, none⟩) regs.length k1, .int .i64 pc, .slice (some ⟨b2, o2, none⟩) mem.length k2, .int .i64 save, .bool lets, .bool waits, .int .i64 halt, .slice (some ⟨b3, o3, none⟩) ins.length k3, .slice (some ⟨b4, 0, none⟩) outs.length k4, .int .i64 count] [.int .i64 bp, .int .i64 ln, .slice q nb jb, .int .i64 en, .int .i64 bx, .int .i64 by_, .int .i64 bk] [.int .i64 5, .int .i64 x_, .int .i64 y_, .int .i64 k_, .int .i64 t_] [.slice none 0 0, .int .i64 0, .slice none 0 0, .int .i64 0, .bool false, .bool false, .int .i64 0, .slice none 0 0, .slice none 0 0, .int .i64 0] 30 35 49 30)
  have ZT := hide (z_type w #[.slice (some ⟨b1, o1, none⟩) regs.length k1, .int .i64 pc, .slice (some ⟨b2, o2, none⟩) mem.length k2, .int .i64 save, .bool lets, .bool waits, .int .i64 halt, .slice (some ⟨b3, o3, none⟩) ins.length k3, .slice (some ⟨b4, 0, none⟩) outs.length k4, .int .i64 count] #[.int .i64 bp, .int .i64 ln, .slice q nb jb, .int .i64 en, .int .i64 bx, .int .i64 by_, .int .i64 bk] #[.int .i64 5, .int .i64 x_, .int .i64 y_, .int .i64 k_, .int .i64 t_] #[.slice none 0 0, .int .i64 0, .slice none 0 0, .int .i64 0, .bool false, .bool false, .int .i64 0, .slice none 0 0, .slice none 0 0, .int .i64 0] 30 35 49 30)
  have HM : Hid (evM ⟨bp, ln, ops, en, bx, by_, bk⟩ ⟨regs, pc, mem, save, lets, waits, halt, ins, outs, count⟩ ⟨5, x_, y_, k_, t_⟩ x y = (leaveM ⟨regs, pc, mem, save, lets, waits, halt, ins, outs, count⟩ bp t_ 3, 0, true)) := show _ = _ by
    unfold evM
    simp only []
    rw [if_neg (by decide), if_neg (by decide), if_pos hx]
  have HH := hide h
  have kk : w.heap.size ≤ w.heap.size + 1 + 1 + 1 := by omega
  clear h
  simp only [mv] at *
  go_enter Tryz.func20, Tryz.ntmps20
  go_wp2_with fail
  refine (l6Leave _ _ _ _ _ _ _ _ _ _ _ _ _ _ _ _ _ _ _ _ _ _ _ _ _ _ _ t_ 3 _ c0 c1 p0 p1 t0 (by omega)).mono ?_
  rintro e u ⟨rfl, hb⟩
  have Fu := F.out.below hb
  have ZTu := hide (ZT.out.below hb)
  have Hu := hide (HH.out.below Fu.bw)
  have Bu := hide (Ints.of_below (lo := lo) Fu.bw)
  have Nu := hide (Onl.of_below (bs := [b1, b2, b3, b4]) Fu.bw)
  have z0 := Fu.z.cell 0 _ rfl
  have y0 := Fu.z.soft 0
  have z1 := Fu.z.cell 1 _ rfl
  have y1 := Fu.z.soft 1
  have z2 := Fu.z.cell 2 _ rfl
  have y2 := Fu.z.soft 2
  have z3 := Fu.z.cell 3 _ rfl
  have y3 := Fu.z.soft 3
  have z4 := Fu.z.cell 4 _ rfl
  have y4 := Fu.z.soft 4
  have z5 := Fu.z.cell 5 _ rfl
  have y5 := Fu.z.soft 5
  have z6 := Fu.z.cell 6 _ rfl
  have y6 := Fu.z.soft 6
  have z7 := Fu.z.cell 7 _ rfl
  have y7 := Fu.z.soft 7
  have z8 := Fu.z.cell 8 _ rfl
  have y8 := Fu.z.soft 8
  have z9 := Fu.z.cell 9 _ rfl
  have y9 := Fu.z.soft 9
  clear F ZT HH Fu hb
  go_wp2
  exact bodyPost_ret (v := .tuple #[.agg #[.slice (some ⟨b1, o1, none⟩) regs.length k1, .int .i64 (bp + t_), .slice (some ⟨b2, o2, none⟩) mem.length k2, .int .i64 save, .bool lets, .bool waits, .int .i64 3, .slice (some ⟨b3, o3, none⟩) ins.length k3, .slice (some ⟨b4, 0, none⟩) outs.length k4, .int .i64 (count + t_)], .int .i64 0, .bool true]) (by simp [results, Tryz.results20, go_sem, z0, z1, z2, z3, z4, z5, z6, z7, z8, z9]) rfl ⟨[.slice (some ⟨b1, o1, none⟩) regs.length k1, .int .i64 (bp + t_), .slice (some ⟨b2, o2, none⟩) mem.length k2, .int .i64 save, .bool lets, .bool waits, .int .i64 3, .slice (some ⟨b3, o3, none⟩) ins.length k3, .slice (some ⟨b4, 0, none⟩) outs.length k4, .int .i64 (count + t_)], by rw [HM.out], by rw [HM.out]; exact (CMach.plain Hu.out).ten ZTu.out mach_int _ _ _ _ _ _ _ _ _ _, ints_ten Bu.out kk _ _ _ _ _ _ _ _ _ _, onl_ten Nu.out kk _ _ _ _ _ _ _ _ _ _, fun g hg => Or.inl hg⟩
set_option maxRecDepth 8000 in
set_option maxHeartbeats 4000000 in
theorem l6Event_over (m : M) (b : Bk) (q : Option Addr) (nb jb : Nat) (x_ y_ k_ t_ x y : Int) (lo : Nat) (c : List Value) (w : World) (h : CMach w lo c m) (c0 : 0 ≤ m.count) (c1 : m.count ≤ 1000000) (p0 : 0 ≤ b.pc) (p1 : b.pc ≤ 64) (l0 : 0 ≤ b.ln) (l1 : b.ln ≤ 8) (t0 : 0 ≤ t_) (t7 : t_ ≤ 7) (t : Nat) (hx : x = (t : Int)) (h64 : t < 64) (hm : m.mem.length = 64) (ho : overB b.pc b.ln x t_ = true) :
    Calls Tryz.prog 20 #[.agg c.toArray, .agg #[.int .i64 b.pc, .int .i64 b.ln, .slice q nb jb, .int .i64 b.en, .int .i64 b.x, .int .i64 b.y, .int .i64 b.k], .agg #[.int .i64 5, .int .i64 x_, .int .i64 y_, .int .i64 k_, .int .i64 t_], .int .i64 x, .int .i64 y] w (Ev lo w c (evM b m ⟨5, x_, y_, k_, t_⟩ x y)) := by
  obtain ⟨b1, o1, k1, b2, o2, k2, b3, o3, k3, b4, k4, rfl⟩ := forms h
  obtain ⟨regs, pc, mem, save, lets, waits, halt, ins, outs, count⟩ := m
  obtain ⟨bp, ln, ops, en, bx, by_, bk⟩ := b
  subst hx
  simp only [] at hm c0 c1 p0 p1 l0 l1
  have lt' : ((t : Nat) : Int) < (mem.length : Int) := by omega
  have tt : t < mem.length := by omega
  have lm : mem.length ≤ 1000 := by omega
  have M64 := hide hm
  have x64 : ¬ (64 : Int) ≤ (t : Int) := by omega
  clear hm
  obtain ⟨v, ev⟩ : ∃ v, mem[t]? = some v := ⟨_, List.getElem?_eq_getElem tt⟩
  have bX : Below w.heap.size w ((((w.alloc (.cells #[.slice (some ⟨b1, o1, none⟩) regs.length k1, .int .i64 pc, .slice (some ⟨b2, o2, none⟩) mem.length k2, .int .i64 save, .bool lets, .bool waits, .int .i64 halt, .slice (some ⟨b3, o3, none⟩) ins.length k3, .slice (some ⟨b4, 0, none⟩) outs.length k4, .int .i64 count] 30)).alloc (.cells #[.int .i64 bp, .int .i64 ln, .slice q nb jb, .int .i64 en, .int .i64 bx, .int .i64 by_, .int .i64 bk] 35)).alloc (.cells #[.int .i64 5, .int .i64 x_, .int .i64 y_, .int .i64 k_, .int .i64 t_] 49)).alloc (.cells #[.slice none 0 0, .int .i64 0, .slice none 0 0, .int .i64 0, .bool false, .bool false, .int .i64 0, .slice none 0 0, .slice none 0 0, .int .i64 0] 30)) := ((((Below.refl _ _).alloc (Nat.le_refl _) _).alloc (by simp) _).alloc (by simp; omega) _).alloc (by simp; omega) _
  obtain ⟨cv, fv⟩ := row_at (h.below bX).parts.2.1 ev
  have hb2 : b2 < w.heap.size := h.parts.2.2.2.2.2.2.2.1.lt
  have HX := h.below bX
  have HS := hide (HX.setMem t y tt)
  have HI := hide ((Ints.of_below (lo := lo) bX).trans (Ints.of_turn (lo := lo) ((Turn.refl b2 _).setCell (p := ⟨b2, o2 + t, none⟩) rfl (.int .i64 y)) HX.parts.2.2.2.2.2.2.2.1 HX.parts.2.2.2.2.1.2.1))
  have HN := hide ((Onl.of_below (bs := [b1, b2, b3, b4]) bX).trans (Onl.of_turn ((Turn.refl b2 _).setCell (p := ⟨b2, o2 + t, none⟩) rfl (.int .i64 y)) (by simp)))
  have F := hide ((Four.new w [.slice (some ⟨b1, o1, none⟩) regs.length k1, .int .i64 pc, .slice (some ⟨b2, o2, none⟩) mem.length k2, .int .i64 save, .bool lets, .bool waits, .int .i64 halt, .slice (some ⟨b3, o3, none⟩) ins.length k3, .slice (some ⟨b4, 0, none⟩) outs.length k4, .int .i64 count] [.int .i64 bp, .int .i64 ln, .slice q nb jb, .int .i64 en, .int .i64 bx, .int .i64 by_, .int .i64 bk] [.int .i64 5, .int .i64 x_, .int .i64 y_, .int .i64 k_, .int .i64 t_] [.slice none 0 0, .int .i64 0, .slice none 0 0, .int .i64 0, .bool false, .bool false, .int .i64 0, .slice none 0 0, .slice none 0 0, .int .i64 0] 30 35 49 30).set ⟨b2, o2 + t, none⟩ (.int .i64 y) hb2)
  have ZT := hide ((z_type w #[.slice (some ⟨b1, o1, none⟩) regs.length k1, .int .i64 pc, .slice (some ⟨b2, o2, none⟩) mem.length k2, .int .i64 save, .bool lets, .bool waits, .int .i64 halt, .slice (some ⟨b3, o3, none⟩) ins.length k3, .slice (some ⟨b4, 0, none⟩) outs.length k4, .int .i64 count] #[.int .i64 bp, .int .i64 ln, .slice q nb jb, .int .i64 en, .int .i64 bx, .int .i64 by_, .int .i64 bk] #[.int .i64 5, .int .i64 x_, .int .i64 y_, .int .i64 k_, .int .i64 t_] #[.slice none 0 0, .int .i64 0, .slice none 0 0, .int .i64 0, .bool false, .bool false, .int .i64 0, .slice none 0 0, .slice none 0 0, .int .i64 0] 30 35 49 30).set ⟨b2, o2 + t, none⟩ (.int .i64 y))
  have kk : w.heap.size ≤ w.heap.size + 1 + 1 + 1 := by omega
  have HM : Hid (evM ⟨bp, ln, ops, en, bx, by_, bk⟩ ⟨regs, pc, mem, save, lets, waits, halt, ins, outs, count⟩ ⟨5, x_, y_, k_, t_⟩ (t : Int) y = (leaveM ⟨regs, pc, mem.set t y, save, lets, waits, halt, ins, outs, count⟩ bp (t_ + 1) 0, 0, true)) := show _ = _ by
    unfold evM
    simp only [] at ho ⊢
    rw [if_neg (by decide), if_neg (by decide), if_neg x64, if_neg (by decide), if_pos ho, Int.toNat_natCast]
  have HO := hide ho
  clear h bX ev ho HX
  simp only [mv] at *
  go_enter Tryz.func20, Tryz.ntmps20
  go_wp2_with fail
  refine (l6Over bp ln en bx by_ bk _ _ _ (t : Int) t_ _ p0 p1 l0 l1 t0 (by omega)).mono ?_
  rintro e u1 ⟨rfl, hb1⟩
  rw [show overB bp ln (t : Int) t_ = true from HO.out]
  have F1 := F.out.below hb1
  have Z1 := hide (ZT.out.below hb1)
  have H1 := hide (HS.out.below hb1)
  have I1 := hide (HI.out.trans (Ints.of_below (lo := lo) hb1))
  have N1 := hide (HN.out.trans (Onl.of_below hb1))
  have a0 := F1.a.cell 0 _ rfl
  have a1 := F1.a.cell 1 _ rfl
  have a2 := F1.a.cell 2 _ rfl
  have a3 := F1.a.cell 3 _ rfl
  have a4 := F1.a.cell 4 _ rfl
  have a5 := F1.a.cell 5 _ rfl
  have a6 := F1.a.cell 6 _ rfl
  have a7 := F1.a.cell 7 _ rfl
  have a8 := F1.a.cell 8 _ rfl
  have a9 := F1.a.cell 9 _ rfl
  have d0 := F1.b.cell 0 _ rfl
  have d1 := F1.b.cell 1 _ rfl
  have d2 := F1.b.cell 2 _ rfl
  have d3 := F1.b.cell 3 _ rfl
  have d4 := F1.b.cell 4 _ rfl
  have d5 := F1.b.cell 5 _ rfl
  have d6 := F1.b.cell 6 _ rfl
  have i4 := F1.o.cell 4 _ rfl
  have F2 := hide F1
  clear F F1 ZT hb1 HS HI HN
  go_wp2_with fail
  refine (l6Leave _ _ _ _ _ _ _ _ _ _ _ _ _ _ _ _ _ _ _ _ _ _ _ _ _ _ _ (t_ + 1) 0 _ c0 c1 p0 p1 (by omega) (by omega)).mono ?_
  rintro e u ⟨rfl, hb⟩
  have Fu := F2.out.below hb
  have ZTu := hide (Z1.out.below hb)
  have Hu := hide (H1.out.below hb)
  have Bu := hide (I1.out.trans (Ints.of_below (lo := lo) hb))
  have Nu := hide (N1.out.trans (Onl.of_below hb))
  have z0 := Fu.z.cell 0 _ rfl
  have y0 := Fu.z.soft 0
  have z1 := Fu.z.cell 1 _ rfl
  have y1 := Fu.z.soft 1
  have z2 := Fu.z.cell 2 _ rfl
  have y2 := Fu.z.soft 2
  have z3 := Fu.z.cell 3 _ rfl
  have y3 := Fu.z.soft 3
  have z4 := Fu.z.cell 4 _ rfl
  have y4 := Fu.z.soft 4
  have z5 := Fu.z.cell 5 _ rfl
  have y5 := Fu.z.soft 5
  have z6 := Fu.z.cell 6 _ rfl
  have y6 := Fu.z.soft 6
  have z7 := Fu.z.cell 7 _ rfl
  have y7 := Fu.z.soft 7
  have z8 := Fu.z.cell 8 _ rfl
  have y8 := Fu.z.soft 8
  have z9 := Fu.z.cell 9 _ rfl
  have y9 := Fu.z.soft 9
  clear F2 Z1 H1 I1 N1 Fu hb a0 a1 a2 a3 a4 a5 a6 a7 a8 a9 d0 d1 d2 d3 d4 d5 d6 i4
  go_wp2
  exact bodyPost_ret (v := .tuple #[.agg #[.slice (some ⟨b1, o1, none⟩) regs.length k1, .int .i64 (bp + (t_ + 1)), .slice (some ⟨b2, o2, none⟩) mem.length k2, .int .i64 save, .bool lets, .bool waits, .int .i64 0, .slice (some ⟨b3, o3, none⟩) ins.length k3, .slice (some ⟨b4, 0, none⟩) outs.length k4, .int .i64 (count + (t_ + 1))], .int .i64 0, .bool true]) (by simp [results, Tryz.results20, go_sem, z0, z1, z2, z3, z4, z5, z6, z7, z8, z9]) rfl ⟨[.slice (some ⟨b1, o1, none⟩) regs.length k1, .int .i64 (bp + (t_ + 1)), .slice (some ⟨b2, o2, none⟩) mem.length k2, .int .i64 save, .bool lets, .bool waits, .int .i64 0, .slice (some ⟨b3, o3, none⟩) ins.length k3, .slice (some ⟨b4, 0, none⟩) outs.length k4, .int .i64 (count + (t_ + 1))], by rw [HM.out], by rw [HM.out]; exact (CMach.plain Hu.out).ten ZTu.out mach_int _ _ _ _ _ _ _ _ _ _, ints_ten Bu.out kk _ _ _ _ _ _ _ _ _ _, onl_ten Nu.out kk _ _ _ _ _ _ _ _ _ _, fun g hg => Or.inl hg⟩
set_option maxRecDepth 8000 in
set_option maxHeartbeats 4000000 in
theorem l6Event_store (m : M) (b : Bk) (q : Option Addr) (nb jb : Nat) (x_ y_ k_ t_ x y : Int) (lo : Nat) (c : List Value) (w : World) (h : CMach w lo c m) (c0 : 0 ≤ m.count) (c1 : m.count ≤ 1000000) (p0 : 0 ≤ b.pc) (p1 : b.pc ≤ 64) (l0 : 0 ≤ b.ln) (l1 : b.ln ≤ 8) (t0 : 0 ≤ t_) (t7 : t_ ≤ 7) (t : Nat) (hx : x = (t : Int)) (h64 : t < 64) (hm : m.mem.length = 64) (ho : overB b.pc b.ln x t_ = false) :
    Calls Tryz.prog 20 #[.agg c.toArray, .agg #[.int .i64 b.pc, .int .i64 b.ln, .slice q nb jb, .int .i64 b.en, .int .i64 b.x, .int .i64 b.y, .int .i64 b.k], .agg #[.int .i64 5, .int .i64 x_, .int .i64 y_, .int .i64 k_, .int .i64 t_], .int .i64 x, .int .i64 y] w (Ev lo w c (evM b m ⟨5, x_, y_, k_, t_⟩ x y)) := by
  obtain ⟨b1, o1, k1, b2, o2, k2, b3, o3, k3, b4, k4, rfl⟩ := forms h
  obtain ⟨regs, pc, mem, save, lets, waits, halt, ins, outs, count⟩ := m
  obtain ⟨bp, ln, ops, en, bx, by_, bk⟩ := b
  subst hx
  simp only [] at hm c0 c1 p0 p1 l0 l1
  have lt' : ((t : Nat) : Int) < (mem.length : Int) := by omega
  have tt : t < mem.length := by omega
  have lm : mem.length ≤ 1000 := by omega
  have M64 := hide hm
  have x64 : ¬ (64 : Int) ≤ (t : Int) := by omega
  clear hm
  obtain ⟨v, ev⟩ : ∃ v, mem[t]? = some v := ⟨_, List.getElem?_eq_getElem tt⟩
  have bX : Below w.heap.size w ((((w.alloc (.cells #[.slice (some ⟨b1, o1, none⟩) regs.length k1, .int .i64 pc, .slice (some ⟨b2, o2, none⟩) mem.length k2, .int .i64 save, .bool lets, .bool waits, .int .i64 halt, .slice (some ⟨b3, o3, none⟩) ins.length k3, .slice (some ⟨b4, 0, none⟩) outs.length k4, .int .i64 count] 30)).alloc (.cells #[.int .i64 bp, .int .i64 ln, .slice q nb jb, .int .i64 en, .int .i64 bx, .int .i64 by_, .int .i64 bk] 35)).alloc (.cells #[.int .i64 5, .int .i64 x_, .int .i64 y_, .int .i64 k_, .int .i64 t_] 49)).alloc (.cells #[.slice none 0 0, .int .i64 0, .slice none 0 0, .int .i64 0, .bool false, .bool false, .int .i64 0, .slice none 0 0, .slice none 0 0, .int .i64 0] 30)) := ((((Below.refl _ _).alloc (Nat.le_refl _) _).alloc (by simp) _).alloc (by simp; omega) _).alloc (by simp; omega) _
  obtain ⟨cv, fv⟩ := row_at (h.below bX).parts.2.1 ev
  have hb2 : b2 < w.heap.size := h.parts.2.2.2.2.2.2.2.1.lt
  have HX := h.below bX
  have HS := hide (HX.setMem t y tt)
  have HI := hide ((Ints.of_below (lo := lo) bX).trans (Ints.of_turn (lo := lo) ((Turn.refl b2 _).setCell (p := ⟨b2, o2 + t, none⟩) rfl (.int .i64 y)) HX.parts.2.2.2.2.2.2.2.1 HX.parts.2.2.2.2.1.2.1))
  have HN := hide ((Onl.of_below (bs := [b1, b2, b3, b4]) bX).trans (Onl.of_turn ((Turn.refl b2 _).setCell (p := ⟨b2, o2 + t, none⟩) rfl (.int .i64 y)) (by simp)))
  have F := hide ((Four.new w [.slice (some ⟨b1, o1, none⟩) regs.length k1, .int .i64 pc, .slice (some ⟨b2, o2, none⟩) mem.length k2, .int .i64 save, .bool lets, .bool waits, .int .i64 halt, .slice (some ⟨b3, o3, none⟩) ins.length k3, .slice (some ⟨b4, 0, none⟩) outs.length k4, .int .i64 count] [.int .i64 bp, .int .i64 ln, .slice q nb jb, .int .i64 en, .int .i64 bx, .int .i64 by_, .int .i64 bk] [.int .i64 5, .int .i64 x_, .int .i64 y_, .int .i64 k_, .int .i64 t_] [.slice none 0 0, .int .i64 0, .slice none 0 0, .int .i64 0, .bool false, .bool false, .int .i64 0, .slice none 0 0, .slice none 0 0, .int .i64 0] 30 35 49 30).set ⟨b2, o2 + t, none⟩ (.int .i64 y) hb2)
  have ZT := hide ((z_type w #[.slice (some ⟨b1, o1, none⟩) regs.length k1, .int .i64 pc, .slice (some ⟨b2, o2, none⟩) mem.length k2, .int .i64 save, .bool lets, .bool waits, .int .i64 halt, .slice (some ⟨b3, o3, none⟩) ins.length k3, .slice (some ⟨b4, 0, none⟩) outs.length k4, .int .i64 count] #[.int .i64 bp, .int .i64 ln, .slice q nb jb, .int .i64 en, .int .i64 bx, .int .i64 by_, .int .i64 bk] #[.int .i64 5, .int .i64 x_, .int .i64 y_, .int .i64 k_, .int .i64 t_] #[.slice none 0 0, .int .i64 0, .slice none 0 0, .int .i64 0, .bool false, .bool false, .int .i64 0, .slice none 0 0, .slice none 0 0, .int .i64 0] 30 35 49 30).set ⟨b2, o2 + t, none⟩ (.int .i64 y))
  have kk : w.heap.size ≤ w.heap.size + 1 + 1 + 1 := by omega
  have HM : Hid (evM ⟨bp, ln, ops, en, bx, by_, bk⟩ ⟨regs, pc, mem, save, lets, waits, halt, ins, outs, count⟩ ⟨5, x_, y_, k_, t_⟩ (t : Int) y = (⟨regs, pc, mem.set t y, save, lets, waits, halt, ins, outs, count⟩, 0, false)) := show _ = _ by
    unfold evM
    simp only [] at ho ⊢
    rw [if_neg (by decide), if_neg (by decide), if_neg x64, if_neg (by decide), if_neg (by rw [ho]; decide), Int.toNat_natCast]
  have HO := hide ho
  clear h bX ev ho HX
  simp only [mv] at *
  go_enter Tryz.func20, Tryz.ntmps20
  go_wp2_with fail
  refine (l6Over bp ln en bx by_ bk _ _ _ (t : Int) t_ _ p0 p1 l0 l1 t0 (by omega)).mono ?_
  rintro e u1 ⟨rfl, hb1⟩
  rw [show overB bp ln (t : Int) t_ = false from HO.out]
  have F1 := F.out.below hb1
  have ZTu := hide (ZT.out.below hb1)
  have Hu := hide (HS.out.below hb1)
  have Bu := hide (HI.out.trans (Ints.of_below (lo := lo) hb1))
  have Nu := hide (HN.out.trans (Onl.of_below hb1))
  have a0 := F1.a.cell 0 _ rfl
  have a1 := F1.a.cell 1 _ rfl
  have a2 := F1.a.cell 2 _ rfl
  have a3 := F1.a.cell 3 _ rfl
  have a4 := F1.a.cell 4 _ rfl
  have a5 := F1.a.cell 5 _ rfl
  have a6 := F1.a.cell 6 _ rfl
  have a7 := F1.a.cell 7 _ rfl
  have a8 := F1.a.cell 8 _ rfl
  have a9 := F1.a.cell 9 _ rfl
  have z0 := F1.z.cell 0 _ rfl
  have y0 := F1.z.soft 0
  have z1 := F1.z.cell 1 _ rfl
  have y1 := F1.z.soft 1
  have z2 := F1.z.cell 2 _ rfl
  have y2 := F1.z.soft 2
  have z3 := F1.z.cell 3 _ rfl
  have y3 := F1.z.soft 3
  have z4 := F1.z.cell 4 _ rfl
  have y4 := F1.z.soft 4
  have z5 := F1.z.cell 5 _ rfl
  have y5 := F1.z.soft 5
  have z6 := F1.z.cell 6 _ rfl
  have y6 := F1.z.soft 6
  have z7 := F1.z.cell 7 _ rfl
  have y7 := F1.z.soft 7
  have z8 := F1.z.cell 8 _ rfl
  have y8 := F1.z.soft 8
  have z9 := F1.z.cell 9 _ rfl
  have y9 := F1.z.soft 9
  clear F F1 ZT hb1 HS HI HN
  go_wp2
  exact bodyPost_ret (v := .tuple #[.agg #[.slice (some ⟨b1, o1, none⟩) regs.length k1, .int .i64 pc, .slice (some ⟨b2, o2, none⟩) mem.length k2, .int .i64 save, .bool lets, .bool waits, .int .i64 halt, .slice (some ⟨b3, o3, none⟩) ins.length k3, .slice (some ⟨b4, 0, none⟩) outs.length k4, .int .i64 count], .int .i64 0, .bool false]) (by simp [results, Tryz.results20, go_sem, z0, z1, z2, z3, z4, z5, z6, z7, z8, z9]) rfl ⟨[.slice (some ⟨b1, o1, none⟩) regs.length k1, .int .i64 pc, .slice (some ⟨b2, o2, none⟩) mem.length k2, .int .i64 save, .bool lets, .bool waits, .int .i64 halt, .slice (some ⟨b3, o3, none⟩) ins.length k3, .slice (some ⟨b4, 0, none⟩) outs.length k4, .int .i64 count], by rw [HM.out], by rw [HM.out]; exact Hu.out.ten ZTu.out mach_int _ _ _ _ _ _ _ _ _ _, ints_ten Bu.out kk _ _ _ _ _ _ _ _ _ _, onl_ten Nu.out kk _ _ _ _ _ _ _ _ _ _, fun g hg => Or.inl hg⟩
end Go.Proofs.YtaokopipgolmbaaGreatDoor.Ir
