/-
  Pieces of code as data: contracts of the laws' own toIrBlock.
-/
import Derived.Test.YtlgpnogeoaoidaaIrM
namespace Go.Proofs.Ytlgpnogeoaoidaa.Ir
set_option linter.unusedVariables false
open Go.ChangeShapes Go.WideShapes Go.ChangeAt Go.RowKit IntS Mch
def set5 (v : World) (B p : Nat) (a b c d e : Value) : World := ((((v.setCell ⟨B, p, none⟩ a).setCell ⟨B, p + 1, none⟩ b).setCell ⟨B, p + 2, none⟩ c).setCell ⟨B, p + 3, none⟩ d).setCell ⟨B, p + 4, none⟩ e
theorem set5_far (v : World) (B p : Nat) (a b c d e : Value) (q : Addr) (h : ∀ i, i < 5 → q ≠ ⟨B, p + i, none⟩) : (set5 v B p a b c d e).cell? q = v.cell? q := by
  unfold set5
  rw [World.cell?_setCell_other _ _ _ _ (Ne.symm (h 4 (by omega))), World.cell?_setCell_other _ _ _ _ (Ne.symm (h 3 (by omega))), World.cell?_setCell_other _ _ _ _ (Ne.symm (h 2 (by omega))), World.cell?_setCell_other _ _ _ _ (Ne.symm (h 1 (by omega)))]
  exact World.cell?_setCell_other _ _ _ _ (Ne.symm (h 0 (by omega)))
theorem off_ne {B i j : Nat} (h : i ≠ j) : (⟨B, i, none⟩ : Addr) ≠ ⟨B, j, none⟩ := fun e => h (congrArg Addr.off e)
theorem setCell_size (w : World) (p : Addr) (x : Value) : (w.setCell p x).heap.size = w.heap.size := by simp [World.setCell]
theorem set5_cells (v : World) (B p : Nat) (a b c d e : Value) (h : ∀ i, i < 5 → ∃ y, v.cell? ⟨B, p + i, none⟩ = some y) : (set5 v B p a b c d e).cell? ⟨B, p, none⟩ = some a ∧ (set5 v B p a b c d e).cell? ⟨B, p + 1, none⟩ = some b ∧ (set5 v B p a b c d e).cell? ⟨B, p + 2, none⟩ = some c ∧ (set5 v B p a b c d e).cell? ⟨B, p + 3, none⟩ = some d ∧ (set5 v B p a b c d e).cell? ⟨B, p + 4, none⟩ = some e := by
  unfold set5
  obtain ⟨y0, h0⟩ := h 0 (by omega)
  obtain ⟨y1, h1⟩ := h 1 (by omega)
  obtain ⟨y2, h2⟩ := h 2 (by omega)
  obtain ⟨y3, h3⟩ := h 3 (by omega)
  obtain ⟨y4, h4⟩ := h 4 (by omega)
  have o (w : World) (i j : Nat) (x : Value) (hn : p + j ≠ p + i) : (w.setCell ⟨B, p + j, none⟩ x).cell? ⟨B, p + i, none⟩ = w.cell? ⟨B, p + i, none⟩ := World.cell?_setCell_other _ _ _ _ (off_ne hn)
  refine ⟨?_, ?_, ?_, ?_, ?_⟩
  · rw [show (⟨B, p, none⟩ : Addr) = ⟨B, p + 0, none⟩ from rfl, o _ 0 4 _ (by omega), o _ 0 3 _ (by omega), o _ 0 2 _ (by omega), o _ 0 1 _ (by omega)]
    exact World.cell?_setCell_same _ _ _ h0
  · rw [o _ 1 4 _ (by omega), o _ 1 3 _ (by omega), o _ 1 2 _ (by omega)]
    exact World.cell?_setCell_same _ _ _ ((o _ 1 0 _ (by omega)).trans h1)
  · rw [o _ 2 4 _ (by omega), o _ 2 3 _ (by omega)]
    exact World.cell?_setCell_same _ _ _ ((o _ 2 1 _ (by omega)).trans ((o _ 2 0 _ (by omega)).trans h2))
  · rw [o _ 3 4 _ (by omega)]
    exact World.cell?_setCell_same _ _ _ ((o _ 3 2 _ (by omega)).trans ((o _ 3 1 _ (by omega)).trans ((o _ 3 0 _ (by omega)).trans h3)))
  · exact World.cell?_setCell_same _ _ _ ((o _ 4 3 _ (by omega)).trans ((o _ 4 2 _ (by omega)).trans ((o _ 4 1 _ (by omega)).trans ((o _ 4 0 _ (by omega)).trans h4))))
theorem set5_soft (v : World) (B p : Nat) (a b c d e : Value) (q : Addr) : (set5 v B p a b c d e).frozen? q = v.frozen? q := by
  unfold set5
  rw [World.frozen?_setCell, World.frozen?_setCell, World.frozen?_setCell, World.frozen?_setCell, World.frozen?_setCell]
theorem set5_turn (v : World) (B p : Nat) (a b c d e : Value) : Turn B v (set5 v B p a b c d e) :=
  (((((Turn.refl B v).setCell (p := ⟨B, p, none⟩) rfl a).setCell (p := ⟨B, p + 1, none⟩) rfl b).setCell (p := ⟨B, p + 2, none⟩) rfl c).setCell (p := ⟨B, p + 3, none⟩) rfl d).setCell (p := ⟨B, p + 4, none⟩) rfl e
theorem set5_size (v : World) (B p : Nat) (a b c d e : Value) : (set5 v B p a b c d e).heap.size = v.heap.size := by unfold set5; simp only [setCell_size]
/-- Where a list of operations has been filled up to a place. -/
structure FillO (w : World) (n : Nat) (os : List Opn) (j : Nat) (u : World) : Prop where
  below : Below w.heap.size w u
  lt : w.heap.size < u.heap.size
  done : ∀ (i : Nat) o, i < j → os[i]? = some o → OpAt u w.heap.size (i * 5) o
  left : ∀ i, i < n * 5 → ∃ y, u.cell? ⟨w.heap.size, i, none⟩ = some y
  soft : ∀ i, i < n * 5 → u.frozen? ⟨w.heap.size, i, none⟩ = false
theorem fillO_new (w : World) (n : Nat) (os : List Opn) (t : TypeId) : FillO w n os 0 (w.alloc (.cells (madeCells #[.int .i64 0, .int .i64 0, .int .i64 0, .int .i64 0, .int .i64 0] (n * 5)) t)) := by
  refine ⟨(Below.refl _ _).alloc (Nat.le_refl _) _, by simp, fun i x hi => by omega, fun i hi => ?_, fun i hi => by simp⟩
  rw [World.cell?_alloc_new]
  have : i < (madeCells #[Value.int .i64 0, .int .i64 0, .int .i64 0, .int .i64 0, .int .i64 0] (n * 5)).size := by rw [size_madeCells]; exact hi
  exact ⟨_, Array.getElem?_eq_getElem this⟩
theorem FillO.next {w u u' : World} {n j : Nat} {os : List Opn} {o : Opn} (h : FillO w n os j u) (hj : j < n) (ht : os[j]? = some o) (hb : Below u.heap.size u u') :
    FillO w n os (j + 1) (set5 u' w.heap.size (j * 5) (.int .i64 o.kd) (.int .i64 o.x) (.int .i64 o.y) (.int .i64 o.k) (.int .i64 o.t)) := by
  have hl := h.lt
  have hs := hb.size
  have N := set5_cells u' w.heap.size (j * 5) (.int .i64 o.kd) (.int .i64 o.x) (.int .i64 o.y) (.int .i64 o.k) (.int .i64 o.t) (fun i hi => by
    obtain ⟨y, hy⟩ := h.left (j * 5 + i) (by omega)
    exact ⟨y, cell_below hb hy⟩)
  have F := set5_far u' w.heap.size (j * 5) (.int .i64 o.kd) (.int .i64 o.x) (.int .i64 o.y) (.int .i64 o.k) (.int .i64 o.t)
  have S := set5_soft u' w.heap.size (j * 5) (.int .i64 o.kd) (.int .i64 o.x) (.int .i64 o.y) (.int .i64 o.k) (.int .i64 o.t)
  have Z := set5_size u' w.heap.size (j * 5) (.int .i64 o.kd) (.int .i64 o.x) (.int .i64 o.y) (.int .i64 o.k) (.int .i64 o.t)
  have BB : Below w.heap.size w (set5 u' w.heap.size (j * 5) (.int .i64 o.kd) (.int .i64 o.x) (.int .i64 o.y) (.int .i64 o.k) (.int .i64 o.t)) := (h.below.trans (hb.mono h.below.size)).trans ((set5_turn u' w.heap.size (j * 5) (.int .i64 o.kd) (.int .i64 o.x) (.int .i64 o.y) (.int .i64 o.k) (.int .i64 o.t)).below (Nat.le_refl _) (by omega))
  generalize set5 u' w.heap.size (j * 5) (.int .i64 o.kd) (.int .i64 o.x) (.int .i64 o.y) (.int .i64 o.k) (.int .i64 o.t) = V at *
  have far (i d : Nat) (hi : i ≠ j) (hd : d < 5) : V.cell? ⟨w.heap.size, i * 5 + d, none⟩ = u'.cell? ⟨w.heap.size, i * 5 + d, none⟩ := F _ (fun k hk => off_ne (by omega))
  refine ⟨BB, by rw [Z]; omega, fun i z hi hz => ?_, fun i hi => ?_, fun i hi => ?_⟩
  · by_cases e : i < j
    · obtain ⟨k1, k2, k3, k4, k5⟩ := h.done i z e hz
      exact ⟨(far i 0 (by omega) (by omega)).trans (cell_below hb k1), (far i 1 (by omega) (by omega)).trans (cell_below hb k2), (far i 2 (by omega) (by omega)).trans (cell_below hb k3), (far i 3 (by omega) (by omega)).trans (cell_below hb k4), (far i 4 (by omega) (by omega)).trans (cell_below hb k5)⟩
    · obtain rfl : i = j := by omega
      rw [ht] at hz
      obtain rfl := Option.some.inj hz
      exact N
  · by_cases q : j * 5 ≤ i ∧ i < j * 5 + 5
    · have : i = j * 5 ∨ i = j * 5 + 1 ∨ i = j * 5 + 2 ∨ i = j * 5 + 3 ∨ i = j * 5 + 4 := by omega
      rcases this with rfl | rfl | rfl | rfl | rfl
      · exact ⟨_, N.1⟩
      · exact ⟨_, N.2.1⟩
      · exact ⟨_, N.2.2.1⟩
      · exact ⟨_, N.2.2.2.1⟩
      · exact ⟨_, N.2.2.2.2⟩
    · rw [F _ (fun k hk => off_ne (by omega))]
      obtain ⟨y, hy⟩ := h.left i hi
      exact ⟨y, cell_below hb hy⟩
  · rw [S]
    have e := hb.block w.heap.size h.lt
    rw [World.frozen?_of_block (w := u) (a := ⟨w.heap.size, i, none⟩) e]
    exact h.soft i hi
theorem FillO.whole {w u : World} {n : Nat} {os : List Opn} (h : FillO w n os n u) (hn : os.length = n) (hm : n ≤ maxLen) : WORow u w.heap.size (.slice (some ⟨w.heap.size, 0, none⟩) n n) os := by
  refine ⟨some ⟨w.heap.size, 0, none⟩, n, 0, by rw [hn], by omega, hm, (fun h => by cases h), Or.inr ⟨rfl, h.lt, fun i o ho => ?_⟩⟩
  have hi : i < n := by have := (List.getElem?_eq_some_iff.1 ho).1; omega
  rw [Nat.zero_add]
  exact ⟨h.done i o hi ho, h.soft _ (by omega), h.soft _ (by omega), h.soft _ (by omega), h.soft _ (by omega), h.soft _ (by omega)⟩
theorem make_ops (n : Nat) (hn : n ≤ 1048576) (w : World) : (Instr.makeSlice 60 (.int .i64 (n : Int)) (.int .i64 (n : Int))).run Try.prog w = .ok (.slice (some ⟨w.heap.size, 0, none⟩) n n) (w.alloc (.cells (madeCells #[.int .i64 0, .int .i64 0, .int .i64 0, .int .i64 0, .int .i64 0] (n * 5)) 73)) := by
  have hinfo : (Try.prog.info? 73).map (fun i => (i.zero, i.size, i.bytes)) = some (some (.agg #[.int .i64 0, .int .i64 0, .int .i64 0, .int .i64 0, .int .i64 0]), 5, 40) := by kernel_rfl
  obtain ⟨i, hi, hzz⟩ := Option.map_eq_some_iff.1 hinfo
  simp only [Prod.mk.injEq] at hzz
  obtain ⟨hz, hs, hb⟩ := hzz
  have hr := run_make (P := Try.prog) w 60 73 i _ Try.underlying60 hi hz .i64 .i64 n n (by omega) (Int.le_refl _) (by rw [hb]; omega) (by omega)
  simp only [Int.toNat_natCast, hs] at hr
  exact hr
set_option maxRecDepth 8000 in
set_option maxHeartbeats 4000000 in
theorem put_int {w : World} {ops : Array Oper} {rest : List Oper} {o : Oper} {a : Act} {Q : Exit → Act → World → Prop} (hgd : o.guard = none) (hds : o.dst = none) (x y : Operand) (ho : o.op = .store 3 x y)
    (Z i : Nat) (cs : List Value) (hB : Rec Z cs w) (hi : i < cs.length) (hx : a.eval x = .pointer (some ⟨Z, i, none⟩)) (n : Int) (hy : a.eval y = .int .i64 n)
    (h : ∀ w' : World, Hid (Rec Z (cs.set i (.int .i64 n)) w') → Hid (Turn Z w w') → wpList Try.prog ops Q rest a w') :
    wpList Try.prog ops Q (o :: rest) a w := by
  refine wpList_plain hgd fun K hK => ?_
  have z0 := hB.cell i _ (List.getElem?_eq_getElem hi)
  have y0 := hB.soft i
  have key := hK _ _ (h _ (hB.set i (.int .i64 n) hi rfl) ((Turn.refl Z w).setCell (p := ⟨Z, i, none⟩) rfl _))
  obtain ⟨dst, op, ty, pos, aft, gd⟩ := o
  simp only [] at hgd hds ho
  subst hgd hds ho
  clear h hK
  unfold Oper.wp
  simp only [execOp, hx, hy]
  go_simp
  exact key
set_option maxRecDepth 8000 in
set_option maxHeartbeats 4000000 in
theorem put_sl {w : World} {ops : Array Oper} {rest : List Oper} {o : Oper} {a : Act} {Q : Exit → Act → World → Prop} (hgd : o.guard = none) (hds : o.dst = none) (x y : Operand) (ho : o.op = .store 60 x y)
    (Z i : Nat) (cs : List Value) (hB : Rec Z cs w) (hi : i < cs.length) (hx : a.eval x = .pointer (some ⟨Z, i, none⟩)) (q : Option Addr) (n c : Nat) (hy : a.eval y = .slice q n c)
    (h : ∀ w' : World, Hid (Rec Z (cs.set i (.slice q n c)) w') → Hid (Turn Z w w') → wpList Try.prog ops Q rest a w') :
    wpList Try.prog ops Q (o :: rest) a w := by
  refine wpList_plain hgd fun K hK => ?_
  have z0 := hB.cell i _ (List.getElem?_eq_getElem hi)
  have y0 := hB.soft i
  have key := hK _ _ (h _ (hB.set i (.slice q n c) hi rfl) ((Turn.refl Z w).setCell (p := ⟨Z, i, none⟩) rfl _))
  obtain ⟨dst, op, ty, pos, aft, gd⟩ := o
  simp only [] at hgd hds ho
  subst hgd hds ho
  clear h hK
  unfold Oper.wp
  simp only [execOp, hx, hy]
  go_simp
  exact key
set_option maxRecDepth 8000 in
set_option maxHeartbeats 4000000 in
theorem lay7 {w : World} {ops : Array Oper} {rest : List Oper} {o : Oper} {a : Act} {Q : Exit → Act → World → Prop} (hgd : o.guard = none) (hds : o.dst = none) (x y : Operand) (ho : o.op = .store 62 x y)
    (Z : Nat) (x0 x1 x2 x3 x4 x5 x6 : Value) (hB : Rec Z [x0, x1, x2, x3, x4, x5, x6] w) (hx : a.eval x = .pointer (some ⟨Z, 0, none⟩)) (q : Option Addr) (n c : Nat) (pc ln en x_ y_ k_ : Int) (hy : a.eval y = .agg #[.int .i64 pc, .int .i64 ln, .slice q n c, .int .i64 en, .int .i64 x_, .int .i64 y_, .int .i64 k_])
    (h : ∀ w' : World, Hid (Rec Z [.int .i64 pc, .int .i64 ln, .slice q n c, .int .i64 en, .int .i64 x_, .int .i64 y_, .int .i64 k_] w') → Hid (Turn Z w w') → wpList Try.prog ops Q rest a w') :
    wpList Try.prog ops Q (o :: rest) a w := by
  refine wpList_plain hgd fun K hK => ?_
  have z0 := hB.cell 0 _ rfl
  have y0 := hB.soft 0
  have z1 := hB.cell 1 _ rfl
  have y1 := hB.soft 1
  have z2 := hB.cell 2 _ rfl
  have y2 := hB.soft 2
  have z3 := hB.cell 3 _ rfl
  have y3 := hB.soft 3
  have z4 := hB.cell 4 _ rfl
  have y4 := hB.soft 4
  have z5 := hB.cell 5 _ rfl
  have y5 := hB.soft 5
  have z6 := hB.cell 6 _ rfl
  have y6 := hB.soft 6
  have key := hK _ _ (h _ (((((((hB.set 0 (.int .i64 pc) (by simp) (show _ = ([.int .i64 pc, x1, x2, x3, x4, x5, x6] : List Value) from rfl)).set 1 (.int .i64 ln) (by simp) (show _ = ([.int .i64 pc, .int .i64 ln, x2, x3, x4, x5, x6] : List Value) from rfl)).set 2 (.slice q n c) (by simp) (show _ = ([.int .i64 pc, .int .i64 ln, .slice q n c, x3, x4, x5, x6] : List Value) from rfl)).set 3 (.int .i64 en) (by simp) (show _ = ([.int .i64 pc, .int .i64 ln, .slice q n c, .int .i64 en, x4, x5, x6] : List Value) from rfl)).set 4 (.int .i64 x_) (by simp) (show _ = ([.int .i64 pc, .int .i64 ln, .slice q n c, .int .i64 en, .int .i64 x_, x5, x6] : List Value) from rfl)).set 5 (.int .i64 y_) (by simp) (show _ = ([.int .i64 pc, .int .i64 ln, .slice q n c, .int .i64 en, .int .i64 x_, .int .i64 y_, x6] : List Value) from rfl)).set 6 (.int .i64 k_) (by simp) (show _ = ([.int .i64 pc, .int .i64 ln, .slice q n c, .int .i64 en, .int .i64 x_, .int .i64 y_, .int .i64 k_] : List Value) from rfl)) ((((((((Turn.refl Z w).setCell (p := ⟨Z, 0, none⟩) rfl (.int .i64 pc)).setCell (p := ⟨Z, 1, none⟩) rfl (.int .i64 ln)).setCell (p := ⟨Z, 2, none⟩) rfl (.slice q n c)).setCell (p := ⟨Z, 3, none⟩) rfl (.int .i64 en)).setCell (p := ⟨Z, 4, none⟩) rfl (.int .i64 x_)).setCell (p := ⟨Z, 5, none⟩) rfl (.int .i64 y_)).setCell (p := ⟨Z, 6, none⟩) rfl (.int .i64 k_)))
  obtain ⟨dst, op, ty, pos, aft, gd⟩ := o
  simp only [] at hgd hds ho
  subst hgd hds ho
  clear h hK
  unfold Oper.wp
  simp only [execOp, hx, hy]
  go_simp
  exact key
theorem Three.fill {w u u' : World} {n : Nat} {A Z O O' : List Value} (h : Three w n A Z O u) (ht : Turn (n + 1 + 1) u u') (ho : Rec (n + 1 + 1) O' u') : Three w n A Z O' u' :=
  ⟨h.bw.trans (ht.below (by omega) (Nat.le_of_lt h.a.lt)), h.a.turn ht (by omega), h.z.turn ht (by omega), ho⟩
end Go.Proofs.Ytlgpnogeoaoidaa.Ir
