/-
  What is kept: copies of pieces of code and of words; a struct stored in a drawn region.
-/
import Derived.Test.YthlpndligadnjaaDtC
import Derived.Test.YthlpndligadnjaaOsA0
import Derived.Test.YthlpndligadnjaaCopd
import Derived.Test.YthlpndligadnjaaCaP
import Derived.Test.YthlpndligadnjaaPhaseIn
import Derived.Test.YthlpndligadnjaaIrN
import Derived.Test.YthlpndligadnjaaPolC
namespace Go.Proofs.Ythlpndligadnjaa.Dt
set_option linter.unusedVariables false
set_option linter.unusedSimpArgs false
open Go.ChangeShapes Go.WideShapes Go.ChangeAt Go.RowKit IntS Pol Push Flat Irk
open Ir (Opn Bk bv ORow WORow RBk WBk OpAt SoftAt)
theorem region_all {P : Program} {id : Nat} {Q : Exit → Act → World → Prop} {a : Act} {w : World} {l : List Oper} (hm : P.follows .mixedOrders = true) (hB : Region.lexB .any l.toArray = true)
    (h : Pol.Head P l.toArray w.drew (fun a' => Q .normal a' w.drew) l a) : (Code.region id l.toArray true).wp P Q a w := wp_region_still_lit hm hB h.h
theorem toM {Z : Nat} {cs : List Value} {w : World} (h : Rec Z cs w) : Mch.Rec Z cs w := ⟨h.lt, h.cell, h.soft⟩
theorem ofM {Z : Nat} {cs : List Value} {w : World} (h : Mch.Rec Z cs w) : Rec Z cs w := ⟨h.lt, h.cell, h.soft⟩
theorem own_wrow0 {w : World} {base g n c : Nat} {xs : List Int} (h : IntS.Own w base (.slice (some ⟨g, 0, none⟩) n c) xs) : WRow w g (.slice (some ⟨g, 0, none⟩) n c) xs := by
  obtain ⟨g', cap', e, _, _, W⟩ := h.form (by simp)
  cases e
  exact W
theorem boxC (w : World) (o : Obj) : Below w.heap.size w (w.alloc o) := (Below.refl _ _).alloc (Nat.le_refl _) _
theorem opsK_nil (w : World) (A : Nat → Prop) : opsK.ow w A (.slice none 0 0) [] := ⟨0, ⟨none, 0, 0, rfl, Nat.le_refl _, by unfold maxLen; omega, fun _ => rfl, Or.inl rfl⟩, Or.inl rfl⟩
set_option maxRecDepth 8000 in
set_option maxHeartbeats 4000000 in
theorem cloneK (x2 : List Opn) (v : Value) (w : World) (h : opsK.rd w v x2) (hl : x2.length ≤ 2097152) :
    Calls Try.prog 75 #[v] w fun e w' => ∃ q c, e = .returned (.slice q x2.length c) ∧ opsK.ow w' (New w w') (.slice q x2.length c) x2 ∧ Below w.heap.size w w' := by
  obtain ⟨B, h⟩ := h
  have HR := hide h
  obtain ⟨a, cap, off, rfl, h2, h3, hz, h4⟩ := h
  have EQ := fun (v : World) (a : Option Addr) (l c : Nat) => Lib.run_eql_slice_nil (P := Try.prog) v 37 96 a l c 0 0 Try.underlying37
  cases a with
  | none =>
    have hc0 := hz rfl
    subst hc0
    obtain rfl : x2 = [] := List.length_eq_zero_iff.1 (by omega)
    clear hz h4 h3 h2 HR
    go_enter Try.func75, Try.ntmps75
    go_wp2
    exact bodyPost_ret (v := .slice none 0 0) (by simp [results, Try.results75, go_sem]) rfl ⟨none, 0, rfl, opsK_nil _ _, Below.refl _ _⟩
  | some ad =>
    clear hz h4 h3 h2
    have b1 := boxC w (.cells #[] 96)
    have HG := hide (Op.heap_last (v := w) (o := .cells #[] 96) rfl)
    replace HR := hide (HR.out.below b1)
    have BW := hide b1
    clear b1
    go_enter Try.func75, Try.ntmps75
    go_wp2_with (at_builtin; refine Op.wpList_copyO rfl _ _ rfl w.heap.size HG.out rfl _ B x2 rfl HR.out (by omega) ?_; intro g c' u WO G1 G2 TU; refine Hid.out ?_)
    replace BW := hide (BW.out.trans (TU.out.below (Nat.le_refl _) BW.out.size))
    clear HG HR TU
    refine hide ?_
    go_wp2
    exact bodyPost_ret (v := .slice (some ⟨g, 0, none⟩) x2.length c') (by simp [results, Try.results75, go_sem]) rfl ⟨_, _, rfl, ⟨g, WO.out, Or.inr ⟨G1.out, G2.out⟩⟩, BW.out⟩
theorem copiedK (x0 : List Int) (v : Value) (w : World) (h : intsK.rd w v x0) (hl : x0.length ≤ 2097152) :
    Calls Try.prog 67 #[v] w fun e w' => ∃ q c, e = .returned (.slice q x0.length c) ∧ intsK.ow w' (New w w') (.slice q x0.length c) x0 ∧ Below w.heap.size w w' := by
  obtain ⟨B, hr⟩ := ints_to h
  refine (Copd.copied x0 B v w hr (by omega)).mono ?_
  rintro e w' ⟨g, rfl, HO, g1, g2, hb⟩
  exact ⟨_, _, rfl, ints_ow (own_wrow0 HO) (Or.inr ⟨g1, g2⟩), hb⟩
theorem l6CopyK (a0 a1 : Int) (x2 : List Opn) (a3 a4 a5 a6 : Int) (q : Option Addr) (c : Nat) (w : World) (h : opsK.rd w (.slice q x2.length c) x2) (hl : x2.length ≤ 2097152) :
    Calls Try.prog 66 #[.agg #[.int .i64 a0, .int .i64 a1, .slice q x2.length c, .int .i64 a3, .int .i64 a4, .int .i64 a5, .int .i64 a6]] w fun e w' => ∃ q' c', e = .returned (.agg #[.int .i64 a0, .int .i64 a1, .slice q' x2.length c', .int .i64 a3, .int .i64 a4, .int .i64 a5, .int .i64 a6]) ∧ opsK.ow w' (New w w') (.slice q' x2.length c') x2 ∧ Below w.heap.size w w' := by
  obtain ⟨B, hr⟩ := h
  refine (Op.l6Copy ⟨a0, a1, x2, a3, a4, a5, a6⟩ q c B w hr (by simp only []; omega)).mono ?_
  rintro e w' ⟨g, c', rfl, HO, g1, g2, hb⟩
  exact ⟨_, _, rfl, ⟨g, HO, Or.inr ⟨g1, g2⟩⟩, hb⟩
set_option maxRecDepth 8000 in
set_option maxHeartbeats 4000000 in
theorem copiedCodeK (a0 a1 : Int) (x2 : List Opn) (a3 a4 a5 a6 : Int) (q : Option Addr) (c : Nat) (w : World) (h : opsK.rd w (.slice q x2.length c) x2) (hl : x2.length ≤ 2097152) :
    Calls Try.prog 68 #[.agg #[.int .i64 a0, .int .i64 a1, .slice q x2.length c, .int .i64 a3, .int .i64 a4, .int .i64 a5, .int .i64 a6]] w fun e w' => ∃ q' c', e = .returned (.agg #[.int .i64 a0, .int .i64 a1, .slice q' x2.length c', .int .i64 a3, .int .i64 a4, .int .i64 a5, .int .i64 a6]) ∧ opsK.ow w' (New w w') (.slice q' x2.length c') x2 ∧ Below w.heap.size w w' := by
  have R0 := (Rec.new w [.int .i64 a0, .int .i64 a1, .slice q x2.length c, .int .i64 a3, .int .i64 a4, .int .i64 a5, .int .i64 a6] 39).alloc (.cells #[.int .i64 0, .int .i64 0, .slice none 0 0, .int .i64 0, .int .i64 0, .int .i64 0, .int .i64 0] 39)
  have R1 := Rec.new (w.alloc (.cells #[.int .i64 a0, .int .i64 a1, .slice q x2.length c, .int .i64 a3, .int .i64 a4, .int .i64 a5, .int .i64 a6] 39)) [.int .i64 0, .int .i64 0, .slice none 0 0, .int .i64 0, .int .i64 0, .int .i64 0, .int .i64 0] 39
  rw [show (w.alloc (.cells #[.int .i64 a0, .int .i64 a1, .slice q x2.length c, .int .i64 a3, .int .i64 a4, .int .i64 a5, .int .i64 a6] 39)).heap.size = w.heap.size + 1 by simp] at R1
  have b0 : Below w.heap.size w ((w.alloc (.cells #[.int .i64 a0, .int .i64 a1, .slice q x2.length c, .int .i64 a3, .int .i64 a4, .int .i64 a5, .int .i64 a6] 39)).alloc (.cells #[.int .i64 0, .int .i64 0, .slice none 0 0, .int .i64 0, .int .i64 0, .int .i64 0, .int .i64 0] 39)) := (boxC _ _).alloc (by simp) _
  have RA := hide R0
  have RZ := hide R1
  have BW := hide b0
  have HR := hide (opsK.rb h b0)
  clear R0 R1 b0 h
  go_enter Try.func68, Try.ntmps68
  go_wp2_with fail
  generalize ((w.alloc (.cells #[.int .i64 a0, .int .i64 a1, .slice q x2.length c, .int .i64 a3, .int .i64 a4, .int .i64 a5, .int .i64 a6] 39)).alloc (.cells #[.int .i64 0, .int .i64 0, .slice none 0 0, .int .i64 0, .int .i64 0, .int .i64 0, .int .i64 0] 39)) = W0 at RA RZ BW HR ⊢
  refine (cloneK x2 _ _ HR.out (by omega)).mono ?_
  rintro e u1 ⟨q1, c1, rfl, OW, hb⟩
  have OW := hide OW
  have LZ : Hid (w.heap.size + 1 < W0.heap.size) := RZ.out.lt
  have LU : Hid (W0.heap.size ≤ u1.heap.size) := hb.size
  replace RA := hide (RA.out.below hb)
  replace RZ := hide (RZ.out.below hb)
  replace BW := hide (BW.out.trans (hb.mono BW.out.size))
  clear hb HR
  have f2 := RA.out.soft 2
  have z0 := RA.out.cell 0 _ rfl
  have z1 := RA.out.cell 1 _ rfl
  have z2 := RA.out.cell 2 _ rfl
  have z3 := RA.out.cell 3 _ rfl
  have z4 := RA.out.cell 4 _ rfl
  have z5 := RA.out.cell 5 _ rfl
  have z6 := RA.out.cell 6 _ rfl
  go_wp2_with (refine Ir.put_sl rfl rfl _ _ rfl w.heap.size 2 _ (toM RA.out) (by simp) rfl _ _ _ rfl ?_; intro v1 RB TB; refine Hid.out ?_)
  have RA2 : Hid (Rec w.heap.size [.int .i64 a0, .int .i64 a1, .slice q1 x2.length c1, .int .i64 a3, .int .i64 a4, .int .i64 a5, .int .i64 a6] v1) := ofM RB.out
  replace RZ := hide (RZ.out.turn TB.out (by omega))
  replace BW := hide (BW.out.trans (TB.out.below (Nat.le_refl _) (by have := LZ.out; have := LU.out; omega)))
  replace OW := hide (opsK.ot OW.out TB.out (fun hb => by have := hb.1; have := LZ.out; omega))
  have LV : Hid (u1.heap.size ≤ v1.heap.size) := TB.out.size
  clear RB TB f2 z0 z1 z2 z3 z4 z5 z6 RA
  refine hide ?_
  have z0 := RA2.out.cell 0 _ rfl
  have z1 := RA2.out.cell 1 _ rfl
  have z2 := RA2.out.cell 2 _ rfl
  have z3 := RA2.out.cell 3 _ rfl
  have z4 := RA2.out.cell 4 _ rfl
  have z5 := RA2.out.cell 5 _ rfl
  have z6 := RA2.out.cell 6 _ rfl
  go_wp2_with (refine Ir.lay7 rfl rfl _ _ rfl (w.heap.size + 1) _ _ _ _ _ _ _ (toM RZ.out) rfl _ _ _ _ _ _ _ _ _ rfl ?_; intro p1 RX TX; refine Hid.out ?_)
  replace BW := hide (BW.out.trans (TX.out.below (by omega) (by have := LZ.out; have := LU.out; have := LV.out; omega)))
  have FIN := hide (opsK.ov (A' := New w p1) (opsK.ot OW.out TX.out (fun hb => by have := hb.1; have := LZ.out; omega)) (fun b hb => ⟨by have := hb.1; have := LZ.out; omega, by have := hb.2; have := LV.out; have := TX.out.size; omega⟩))
  clear TX z0 z1 z2 z3 z4 z5 z6 RA2 RZ OW LV LU LZ
  refine hide ?_
  have y0 := RX.out.cell 0 _ rfl
  have y1 := RX.out.cell 1 _ rfl
  have y2 := RX.out.cell 2 _ rfl
  have y3 := RX.out.cell 3 _ rfl
  have y4 := RX.out.cell 4 _ rfl
  have y5 := RX.out.cell 5 _ rfl
  have y6 := RX.out.cell 6 _ rfl
  go_wp2
  exact bodyPost_ret (v := .agg #[.int .i64 a0, .int .i64 a1, .slice q1 x2.length c1, .int .i64 a3, .int .i64 a4, .int .i64 a5, .int .i64 a6]) (by simp [results, Try.results68, go_sem, y0, y1, y2, y3, y4, y5, y6]) rfl ⟨_, _, rfl, FIN.out, BW.out⟩
theorem run_copyI {w : World} {ty : TypeId} (g : Nat) (hg : w.heap[g]? = some (.cells #[] 3 (0, 0))) (xs : List Int) (v : Value) (h : intsK.rd w v xs) (hl : xs.length ≤ 3000000) :
    ∃ v' w', (Builtin.append_ #[29, 29] ty #[.slice (some ⟨g, 0, none⟩) 0 0, v]).run Try.prog w = .ok v' w' ∧ intsK.ow w' (fun b => g ≤ b ∧ b < w'.heap.size) v' xs ∧ Turn g w w' ∧ ∃ q d, v' = .slice q xs.length d := by
  obtain ⟨B, hr⟩ := ints_to h
  obtain ⟨i0, hi, hz, hsz, hby⟩ := info_int
  have hown := own_empty hg
  have hlt : g < w.heap.size := by
    rcases Nat.lt_or_ge g w.heap.size with h' | h'
    · exact h'
    · rw [Array.getElem?_eq_none h'] at hg; cases hg
  have key (ad : Addr) (m c : Nat) (hv : v = .slice (some ad) m c) (hm : xs.length = m) (hc : ∀ j u, (vals xs)[j]? = some u → w.cell? (ad.add j) = some u) : ∃ v' w', (Builtin.append_ #[29, 29] ty #[.slice (some ⟨g, 0, none⟩) 0 0, v]).run Try.prog w = .ok v' w' ∧ intsK.ow w' (fun b => g ≤ b ∧ b < w'.heap.size) v' xs ∧ Turn g w w' ∧ ∃ q d, v' = .slice q xs.length d := by
    subst hm hv
    obtain ⟨v', w', r, h1, h2, h3⟩ := run_append_own (P := Try.prog) (w := w) g 29 ty 3 i0 (.int .i64 0) 1 8 Try.underlying29 hi hz hsz hby rfl (by decide) (.slice (some ⟨g, 0, none⟩) 0 0) 0 [] hown ad xs.length c (vals xs) (by rw [vals_len]; omega) hc (fun u hu => by
      obtain ⟨y, _, rfl⟩ := List.mem_map.1 hu
      rfl) (by unfold maxLen; omega) (by omega) (Nat.le_of_lt hlt)
    have hne : ¬ v' = .slice none 0 0 := fun e => by cases (h3.1 e).1
    have h1' : Own w' g v' xs := by
      unfold Own
      rw [Nat.zero_add, List.nil_append] at h1
      exact h1
    obtain ⟨g', cap', rfl, k1, k2, k3⟩ := h1'.form hne
    exact ⟨_, w', r, ints_ow k3 (Or.inr ⟨k1, k2⟩), Turn.of_grown h2, _, _, rfl⟩
  obtain ⟨a0, cap, off, hv, h2, h3, hz0, h4⟩ := hr
  cases a0 with
  | none =>
    have hc0 := hz0 rfl
    subst hc0
    have hx0 : xs = [] := List.length_eq_zero_iff.1 (by omega)
    subst hx0
    have hrun := run_append_owned_none (P := Try.prog) (w := w) g 29 ty 3 i0 1 Try.underlying29 hi (.slice (some ⟨g, 0, none⟩) 0 0) 0 [] hown
    obtain ⟨g', cap', e, k1, k2, k3⟩ := hown.form (fun e => by cases e)
    cases e
    subst hv
    exact ⟨_, w, hrun, ints_ow k3 (Or.inl rfl), Turn.refl _ _, _, _, rfl⟩
  | some ad =>
    rcases h4 with h4 | ⟨h4, h5⟩
    · subst h4
      exact key ad 0 cap hv rfl (fun j u hu => by simp [vals] at hu)
    · refine key ad xs.length cap hv rfl (fun j u hu => ?_)
      cases h4
      rw [Go.WideShapes.add_plain]
      simp only [vals, List.getElem?_map, Option.map_eq_some_iff] at hu
      obtain ⟨y, hy, rfl⟩ := hu
      exact h5 j y hy
end Go.Proofs.Ythlpndligadnjaa.Dt
