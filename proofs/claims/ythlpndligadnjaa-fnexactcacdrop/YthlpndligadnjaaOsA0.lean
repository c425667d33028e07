/-
  Our own hand, the specification's l6Copy; pieces of code in boxes.
-/
import Derived.Test.YthlpndligadnjaaDtB
import Derived.Test.YthlpndligadnjaaIntA
namespace Go.Proofs.Ythlpndligadnjaa.Op
set_option linter.unusedVariables false
set_option linter.unusedSimpArgs false
open Go.ChangeShapes Go.WideShapes Go.ChangeAt Go.RowKit IntS Flat Irk
open Ir Dt
open Mch (Rec)
abbrev OwnO (w : World) (lo : Nat) (v : Value) (os : List Opn) : Prop := OwnF 96 5 w lo v os.length (flatO os)
theorem infoOp : ∃ i, Try.prog.info? 96 = some i ∧ i.zero = some (.agg #[.int .i64 0, .int .i64 0, .int .i64 0, .int .i64 0, .int .i64 0]) ∧ i.size = 5 ∧ i.bytes = 40 := by
  have hinfo : (Try.prog.info? 96).map (fun i => (i.zero, i.size, i.bytes)) = some (some (.agg #[.int .i64 0, .int .i64 0, .int .i64 0, .int .i64 0, .int .i64 0]), 5, 40) := by kernel_rfl
  obtain ⟨i, hi, h⟩ := Option.map_eq_some_iff.1 hinfo
  simp only [Prod.mk.injEq] at h
  exact ⟨i, hi, h.1, h.2.1, h.2.2⟩
theorem own_emptyO {w : World} {g : Nat} (hg : w.heap[g]? = some (.cells #[] 96 (0, 0))) : OwnO w g (.slice (some ⟨g, 0, none⟩) 0 0) [] :=
  ⟨rfl, Or.inr ⟨g, 0, #[], rfl, Nat.le_refl _, hg, Nat.le_refl _, by unfold maxLen; omega, rfl, rfl⟩⟩
/-- All operations of a slice behind an empty one. -/
theorem wpList_copyO {w : World} {ops : Array Oper} {rest : List Oper} {o : Oper} {a : Act} {Q : Exit → Act → World → Prop} (hgd : o.guard = none) (s x : Operand)
    (ho : o.op = .call { callee := .builtin .append, args := #[s, x], argTypes := #[37, 37] })
    (g : Nat) (hg : w.heap[g]? = some (.cells #[] 96 (0, 0))) (hs : a.eval s = .slice (some ⟨g, 0, none⟩) 0 0)
    (v : Value) (B : Nat) (os : List Opn) (hx : a.eval x = v) (hr : ORow w B v os) (hl : os.length ≤ 100000000)
    (h : ∀ (g' cap' : Nat) (w' : World), Hid (WORow w' g' (.slice (some ⟨g', 0, none⟩) os.length cap') os) → Hid (g ≤ g') → Hid (g' < w'.heap.size) → Hid (Turn g w w') →
      wpList Try.prog ops Q rest (a.put o.dst (.slice (some ⟨g', 0, none⟩) os.length cap')) w') : wpList Try.prog ops Q (o :: rest) a w := by
  obtain ⟨i0, hi, hz, hsz, hby⟩ := infoOp
  have hown := own_emptyO hg
  have hlt : g < w.heap.size := by
    rcases Nat.lt_or_ge g w.heap.size with h' | h'
    · exact h'
    · rw [Array.getElem?_eq_none h'] at hg; cases hg
  have key (ad : Addr) (m c : Nat) (hv : v = .slice (some ad) m c) (hm : os.length = m) (hc : ∀ j u, (vals (flatO os))[j]? = some u → w.cell? (ad.add j) = some u) : wpList Try.prog ops Q (o :: rest) a w := by
    subst hm
    refine wpList_append_own w hgd s x 37 ho g 96 i0 (.agg #[.int .i64 0, .int .i64 0, .int .i64 0, .int .i64 0, .int .i64 0]) 5 40 Try.underlying37 hi hz hsz hby rfl (by decide) (.slice (some ⟨g, 0, none⟩) 0 0) 0 [] hs hown ad os.length c (vals (flatO os)) (hx.trans hv) (by rw [vals_len, flatO_len]) hc (fun u hu => ?_) (by unfold maxLen; omega) (by omega) (Nat.le_of_lt hlt) (fun v' w' h1 h2 h3 => ?_)
    · obtain ⟨y, _, rfl⟩ := List.mem_map.1 hu
      rfl
    · have hne : ¬ v' = .slice none 0 0 := fun e => by cases (h3.1 e).1
      have h1' : OwnO w' g v' os := by
        unfold OwnO OwnF
        rw [Nat.zero_add, List.nil_append] at h1
        exact h1
      rcases h1'.form with ⟨e, _⟩ | ⟨g', cap', rfl, k1, k2, k3⟩
      · exact absurd e hne
      · exact h g' cap' w' (wo_of k3) k1 k2 (Turn.of_grown h2)
  obtain ⟨a0, cap, off, hv, h2, h3, hz0, h4⟩ := hr
  cases a0 with
  | none =>
    have hc0 := hz0 rfl
    subst hc0
    have hx0 : os = [] := List.length_eq_zero_iff.1 (by omega)
    subst hx0
    refine wpList_append_own_none hgd s x 37 ho g 96 i0 5 Try.underlying37 hi (.slice (some ⟨g, 0, none⟩) 0 0) 0 [] hs hown (hx.trans hv) ?_
    rcases hown.form with ⟨e, _⟩ | ⟨g', cap', e, k1, k2, k3⟩
    · cases e
    · cases e
      exact h g 0 w (wo_of k3) k1 k2 (Turn.refl _ _)
  | some ad =>
    rcases h4 with h4 | ⟨h4, h5⟩
    · subst h4
      exact key ad 0 cap hv rfl (fun j u hu => by simp [vals, flatO] at hu)
    · refine key ad os.length cap hv rfl (fun j u hu => ?_)
      cases h4
      rw [Go.WideShapes.add_plain]
      simp only [vals, List.getElem?_map, Option.map_eq_some_iff] at hu
      obtain ⟨y, hy, rfl⟩ := hu
      obtain ⟨i, r, c, k1, rfl, k2⟩ := flatO_back _ _ _ hy
      obtain ⟨c0, c1, c2, c3, c4⟩ := h5 i c k1
      rw [← Nat.add_assoc]
      rcases k2 with ⟨rfl, rfl⟩ | ⟨rfl, rfl⟩ | ⟨rfl, rfl⟩ | ⟨rfl, rfl⟩ | ⟨rfl, rfl⟩
      · exact c0
      · exact c1
      · exact c2
      · exact c3
      · exact c4
/-- Two boxes of pieces of code, one given, one of noughts. -/
theorem boxes (w : World) (c0 c1 c2 c3 c4 c5 c6 : Value) : Rec w.heap.size [c0, c1, c2, c3, c4, c5, c6] ((w.alloc (.cells #[c0, c1, c2, c3, c4, c5, c6] 39)).alloc (.cells #[.int .i64 0, .int .i64 0, .slice none 0 0, .int .i64 0, .int .i64 0, .int .i64 0, .int .i64 0] 39)) ∧ Rec (w.heap.size + 1) [.int .i64 0, .int .i64 0, .slice none 0 0, .int .i64 0, .int .i64 0, .int .i64 0, .int .i64 0] ((w.alloc (.cells #[c0, c1, c2, c3, c4, c5, c6] 39)).alloc (.cells #[.int .i64 0, .int .i64 0, .slice none 0 0, .int .i64 0, .int .i64 0, .int .i64 0, .int .i64 0] 39)) ∧ Below w.heap.size w ((w.alloc (.cells #[c0, c1, c2, c3, c4, c5, c6] 39)).alloc (.cells #[.int .i64 0, .int .i64 0, .slice none 0 0, .int .i64 0, .int .i64 0, .int .i64 0, .int .i64 0] 39)) := by
  refine ⟨(Rec.new w [c0, c1, c2, c3, c4, c5, c6] 39).alloc _, ?_, ((Below.refl _ _).alloc (Nat.le_refl _) _).alloc (by simp) _⟩
  have := Rec.new (w.alloc (.cells #[c0, c1, c2, c3, c4, c5, c6] 39)) [.int .i64 0, .int .i64 0, .slice none 0 0, .int .i64 0, .int .i64 0, .int .i64 0, .int .i64 0] 39
  rw [show (w.alloc (.cells #[c0, c1, c2, c3, c4, c5, c6] 39)).heap.size = w.heap.size + 1 by simp] at this
  exact this
theorem heap_last {v : World} {o : Obj} {n : Nat} (h : v.heap.size = n) : (v.alloc o).heap[n]? = some o := by subst h; exact (MapKept.heap_alloc v o).1
set_option maxRecDepth 8000 in
set_option maxHeartbeats 8000000 in
theorem l6Copy (b : Bk) (q : Option Addr) (c B : Nat) (w : World) (h : ORow w B (.slice q b.ops.length c) b.ops) (hl : b.ops.length ≤ 3000000) :
    Calls Try.prog 66 #[.agg #[.int .i64 b.pc, .int .i64 b.ln, .slice q b.ops.length c, .int .i64 b.en, .int .i64 b.x, .int .i64 b.y, .int .i64 b.k]] w fun e w' => ∃ g c', e = .returned (.agg #[.int .i64 b.pc, .int .i64 b.ln, .slice (some ⟨g, 0, none⟩) b.ops.length c', .int .i64 b.en, .int .i64 b.x, .int .i64 b.y, .int .i64 b.k]) ∧ WORow w' g (.slice (some ⟨g, 0, none⟩) b.ops.length c') b.ops ∧ w.heap.size ≤ g ∧ g < w'.heap.size ∧ Below w.heap.size w w' := by
  obtain ⟨pc, ln, ops, en, x, y, k⟩ := b
  simp only [] at h hl ⊢
  have HR := hide h
  clear h
  obtain ⟨r1, r2, b0⟩ := boxes w (.int .i64 pc) (.int .i64 ln) (.slice q ops.length c) (.int .i64 en) (.int .i64 x) (.int .i64 y) (.int .i64 k)
  have s2 : ((w.alloc (.cells #[.int .i64 pc, .int .i64 ln, .slice q ops.length c, .int .i64 en, .int .i64 x, .int .i64 y, .int .i64 k] 39)).alloc (.cells #[.int .i64 0, .int .i64 0, .slice none 0 0, .int .i64 0, .int .i64 0, .int .i64 0, .int .i64 0] 39)).heap.size = w.heap.size + 1 + 1 := by simp
  have r3 := Rec.new ((w.alloc (.cells #[.int .i64 pc, .int .i64 ln, .slice q ops.length c, .int .i64 en, .int .i64 x, .int .i64 y, .int .i64 k] 39)).alloc (.cells #[.int .i64 0, .int .i64 0, .slice none 0 0, .int .i64 0, .int .i64 0, .int .i64 0, .int .i64 0] 39)) [.int .i64 pc, .int .i64 ln, .slice q ops.length c, .int .i64 en, .int .i64 x, .int .i64 y, .int .i64 k] 39
  rw [s2] at r3
  have s3 : (((w.alloc (.cells #[.int .i64 pc, .int .i64 ln, .slice q ops.length c, .int .i64 en, .int .i64 x, .int .i64 y, .int .i64 k] 39)).alloc (.cells #[.int .i64 0, .int .i64 0, .slice none 0 0, .int .i64 0, .int .i64 0, .int .i64 0, .int .i64 0] 39)).alloc (.cells #[.int .i64 pc, .int .i64 ln, .slice q ops.length c, .int .i64 en, .int .i64 x, .int .i64 y, .int .i64 k] 39)).heap.size = w.heap.size + 1 + 1 + 1 := by simp
  have b4 : Below w.heap.size w ((((w.alloc (.cells #[.int .i64 pc, .int .i64 ln, .slice q ops.length c, .int .i64 en, .int .i64 x, .int .i64 y, .int .i64 k] 39)).alloc (.cells #[.int .i64 0, .int .i64 0, .slice none 0 0, .int .i64 0, .int .i64 0, .int .i64 0, .int .i64 0] 39)).alloc (.cells #[.int .i64 pc, .int .i64 ln, .slice q ops.length c, .int .i64 en, .int .i64 x, .int .i64 y, .int .i64 k] 39)).alloc (.cells #[] 96)) := (b0.alloc (by omega) _).alloc (by omega) _
  have HG := hide (heap_last (o := .cells #[] 96) s3)
  have RZ := hide ((r2.alloc (.cells #[.int .i64 pc, .int .i64 ln, .slice q ops.length c, .int .i64 en, .int .i64 x, .int .i64 y, .int .i64 k] 39)).alloc (.cells #[] 96))
  have RX := hide (r3.alloc (.cells #[] 96))
  have BW := hide b4
  replace HR := hide (HR.out.below b4)
  clear r1 r2 r3 b0 b4 s2 s3
  go_enter Try.func66, Try.ntmps66
  go_wp2_with (at_builtin; refine wpList_copyO rfl _ _ rfl (w.heap.size + 1 + 1 + 1) HG.out rfl _ B ops rfl HR.out (by omega) ?_; intro g c' u WO G1 G2 TU; refine Hid.out ?_)
  replace RX := hide (RX.out.turn TU.out (by omega))
  replace RZ := hide (RZ.out.turn TU.out (by omega))
  replace BW := hide (BW.out.trans (TU.out.below (by omega) BW.out.size))
  have sl := BW.out.size
  clear HG HR TU
  refine hide ?_
  have x0 := RX.out.cell 0 _ rfl
  have x1 := RX.out.cell 1 _ rfl
  have x2 := RX.out.cell 2 _ rfl
  have x3 := RX.out.cell 3 _ rfl
  have x4 := RX.out.cell 4 _ rfl
  have x5 := RX.out.cell 5 _ rfl
  have x6 := RX.out.cell 6 _ rfl
  have f2 := RX.out.soft 2
  have RZ2 := hide (RZ.out.other ⟨w.heap.size + 1 + 1, 2, none⟩ (.slice (some ⟨g, 0, none⟩) ops.length c') (by simp))
  have TX := hide ((Turn.refl (w.heap.size + 1 + 1) u).setCell (p := ⟨w.heap.size + 1 + 1, 2, none⟩) rfl (.slice (some ⟨g, 0, none⟩) ops.length c'))
  go_wp2_with (refine lay7 rfl rfl _ _ rfl (w.heap.size + 1) _ _ _ _ _ _ _ RZ2.out rfl _ _ _ _ _ _ _ _ _ rfl ?_; intro p1 RB TB; refine Hid.out ?_)
  replace WO := hide ((WO.out.turn TX.out (by have := G1.out; omega)).turn TB.out (by have := G1.out; omega))
  have BX := TX.out.below (n := w.heap.size) (by omega) sl
  replace BW := hide ((BW.out.trans BX).trans (TB.out.below (by omega) (Nat.le_trans sl BX.size)))
  have GL := hide (Nat.lt_of_lt_of_le G2.out (Nat.le_trans TX.out.size TB.out.size))
  clear x0 x1 x2 x3 x4 x5 x6 f2 BX TB TX RX RZ RZ2
  refine hide ?_
  have y0 := RB.out.cell 0 _ rfl
  have y1 := RB.out.cell 1 _ rfl
  have y2 := RB.out.cell 2 _ rfl
  have y3 := RB.out.cell 3 _ rfl
  have y4 := RB.out.cell 4 _ rfl
  have y5 := RB.out.cell 5 _ rfl
  have y6 := RB.out.cell 6 _ rfl
  go_wp2
  exact bodyPost_ret (v := .agg #[.int .i64 pc, .int .i64 ln, .slice (some ⟨g, 0, none⟩) ops.length c', .int .i64 en, .int .i64 x, .int .i64 y, .int .i64 k]) (by simp [results, Try.results66, go_sem, y0, y1, y2, y3, y4, y5, y6]) rfl ⟨g, c', rfl, WO.out, by have := G1.out; omega, GL.out, BW.out⟩
end Go.Proofs.Ythlpndligadnjaa.Op
