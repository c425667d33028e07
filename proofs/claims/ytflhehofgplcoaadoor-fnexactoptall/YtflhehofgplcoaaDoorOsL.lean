/-
  Our own hand, the specification's l10Lost; lists of bools that a call makes.
-/
import Derived.Test.YtflhehofgplcoaaDoorOsCp
namespace Go.Proofs.YtflhehofgplcoaaDoor.Op
set_option linter.unusedVariables false
set_option linter.unusedSimpArgs false
open Go.ChangeShapes Go.WideShapes Go.ChangeAt Go.RowKit IntS Flat Irk
open Ir Dt
open Mch (Rec)
structure Head (P : Program) (ops : Array Oper) (w : World) (Q : Act → Prop) (l : List Oper) (a : Act) : Prop where
  h : wpStill P ops w Q l a
theorem head_yes {P : Program} {ops : Array Oper} {w : World} {Q : Act → Prop} {a : Act} {o : Oper} {rest : List Oper} (hw : Region.wanted o (yielded ops a.tmps) = true)
    (h : ∀ K : Act → Prop, (∀ a, Head P ops w Q rest a → K a) → o.still P a w K) : Head P ops w Q (o :: rest) a := ⟨wpStill_step fun K hK => by rw [if_pos hw]; exact h K (fun a h => hK a h.h)⟩
theorem head_no {P : Program} {ops : Array Oper} {w : World} {Q : Act → Prop} {a : Act} {o : Oper} {rest : List Oper} (hw : Region.wanted o (yielded ops a.tmps) = false)
    (h : Head P ops w Q rest (a.put o.dst undef)) : Head P ops w Q (o :: rest) a := ⟨wpStill_step fun K hK => by rw [if_neg (by rw [hw]; decide)]; exact hK _ h.h⟩
theorem head_nil {P : Program} {ops : Array Oper} {w : World} {Q : Act → Prop} {a : Act} (h : Q a) : Head P ops w Q [] a := ⟨wpStill_nil h⟩
theorem region_head {P : Program} {id : Nat} {Q : Exit → Act → World → Prop} {a : Act} {w : World} {l : List Oper} (n : Nat) (hm : P.follows .mixedOrders = true) (hB : Region.lexTailB .any l.toArray n = true)
    (h : Head P l.toArray w.drew (fun a' => wpList P l.toArray Q (l.drop n) a' w.drew) (l.take n) a) : (Code.region id l.toArray true).wp P Q a w := wp_region_still_tail n hm hB h.h
theorem region_all {P : Program} {id : Nat} {Q : Exit → Act → World → Prop} {a : Act} {w : World} {l : List Oper} (hm : P.follows .mixedOrders = true) (hB : Region.lexB .any l.toArray = true)
    (h : Head P l.toArray w.drew (fun a' => Q .normal a' w.drew) l a) : (Code.region id l.toArray true).wp P Q a w := wp_region_still_lit hm hB h.h
theorem lost_nil {r : Int} {ops : List Opn} {j : Nat} (h : ops.length ≤ j) : lostR r (ops.drop j) = false := by rw [List.drop_eq_nil_of_le h]; rfl
theorem lost_cons {r : Int} {ops : List Opn} {j : Nat} {o : Opn} (h : ops[j]? = some o) : lostR r (ops.drop j) = if o.kd = 4 ∨ o.kd = 5 ∨ (o.kd = 2 ∧ o.k = r) then false else if o.kd = 8 ∧ o.k = r then true else lostR r (ops.drop (j + 1)) := by
  obtain ⟨hj, e⟩ := List.getElem?_eq_some_iff.1 h
  rw [List.drop_eq_getElem_cons hj, e]
  rfl
set_option maxRecDepth 8000 in
set_option maxHeartbeats 16000000 in
theorem l10Lost (ops : List Opn) (B : Nat) (v : Value) (k : Nat) (ok : Opn) (w : World) (h : ORow w B v ops) (hk : ops[k]? = some ok) (hl : ops.length ≤ 1000000) :
    Calls Tryd.prog 25 #[v, .int .i64 k] w fun e w' => e = .returned (.bool (lostR ok.k (ops.drop (k + 1)))) ∧ Below w.heap.size w w' := by
  have lk := (List.getElem?_eq_some_iff.1 hk).1
  obtain ⟨a, cap, off, rfl, h2, h3, hz, h4⟩ := h
  unfold maxLen at h3
  obtain ⟨rfl, hc⟩ := h4.resolve_left (fun e => by rw [e] at hk; simp at hk)
  have HC := hide hc
  have HK := hide hk
  obtain ⟨r, er⟩ : ∃ r, ok.k = r := ⟨_, rfl⟩
  rw [er]
  have EK := hide er
  clear er
  obtain ⟨R, eR⟩ : ∃ R, lostR r (ops.drop (k + 1)) = R := ⟨_, rfl⟩
  rw [eR]
  have ER := hide eR
  have lki : ((k : Nat) : Int) < (ops.length : Nat) := by omega
  clear hz h4 hc hk eR
  go_enter Tryd.func25, Tryd.ntmps25
  go_wp2
  go_loopw [5] (fun i wr => ∃ j : Nat, k + 1 ≤ j ∧ j ≤ ops.length ∧ i = .int .i64 j ∧ Hid (R = lostR r (ops.drop j)) ∧ Hid (Below w.heap.size w wr)) (fun i _ => ops.length - (intOf i).toNat)
  case atStart => exact ⟨k + 1, by omega, by omega, by go_num, ER.out.symm, Below.refl _ _⟩
  case round =>
    obtain ⟨j, hj0, hj, rfl, RJ, BW⟩ := hrel
    by_cases hlt : j < ops.length
    · obtain ⟨o, et⟩ : ∃ o, ops[j]? = some o := ⟨_, List.getElem?_eq_getElem hlt⟩
      have c0 := cell_below BW.out (HC.out j o et).1
      have c3 := cell_below BW.out (HC.out j o et).2.2.2.1
      have d3 := cell_below BW.out (HC.out k ok HK.out).2.2.2.1
      have LC := lost_cons (r := r) et
      rw [EK.out] at d3
      rw [LC] at RJ
      have lj : ((j : Nat) : Int) < (ops.length : Nat) := by omega
      obtain ⟨kd, ox, oy, kk, ot⟩ := o
      simp only [] at c0 c3 RJ
      have BD := hide BW.out.drew
      clear et LC
      have c0b : wr.drew.cell? ⟨B, off + j * 5, none⟩ = some (.int .i64 kd) := c0
      have c3b : wr.drew.cell? ⟨B, off + j * 5 + 3, none⟩ = some (.int .i64 kk) := c3
      have d3b : wr.drew.cell? ⟨B, off + k * 5 + 3, none⟩ = some (.int .i64 r) := d3
      by_cases e4 : kd = 4
      · subst e4
        have RJ2 : Hid (R = false) := show _ = _ by rw [RJ.out]; simp
        go_wp2_with fail
        refine region_all (by kernel_rfl) (by kernel_rfl) ?_
        refine head_yes (by kernel_rfl) (fun K hK => ?_)
        go_simp
        refine hK _ ?_
        clear hK K
        refine head_yes (by kernel_rfl) (fun K hK => ?_)
        go_simp
        refine hK _ ?_
        clear hK K
        refine head_yes (by kernel_rfl) (fun K hK => ?_)
        go_simp
        refine hK _ ?_
        clear hK K
        refine head_yes (by kernel_rfl) (fun K hK => ?_)
        go_simp
        refine hK _ ?_
        clear hK K
        refine head_yes (by kernel_rfl) (fun K hK => ?_)
        go_simp
        refine hK _ ?_
        clear hK K
        refine head_yes (by kernel_rfl) (fun K hK => ?_)
        go_simp
        refine hK _ ?_
        clear hK K
        refine head_yes (by kernel_rfl) (fun K hK => ?_)
        go_simp
        refine hK _ ?_
        clear hK K
        refine head_no (by kernel_rfl) ?_
        try simp only [Act.put, List.setIfInBounds_toArray, List.set]
        refine head_no (by kernel_rfl) ?_
        try simp only [Act.put, List.setIfInBounds_toArray, List.set]
        refine head_no (by kernel_rfl) ?_
        try simp only [Act.put, List.setIfInBounds_toArray, List.set]
        refine head_no (by kernel_rfl) ?_
        try simp only [Act.put, List.setIfInBounds_toArray, List.set]
        refine head_no (by kernel_rfl) ?_
        try simp only [Act.put, List.setIfInBounds_toArray, List.set]
        refine head_no (by kernel_rfl) ?_
        try simp only [Act.put, List.setIfInBounds_toArray, List.set]
        refine head_yes (by kernel_rfl) (fun K hK => ?_)
        go_simp
        refine hK _ ?_
        clear hK K
        refine head_yes (by kernel_rfl) (fun K hK => ?_)
        go_simp
        refine hK _ ?_
        clear hK K
        refine head_no (by kernel_rfl) ?_
        try simp only [Act.put, List.setIfInBounds_toArray, List.set]
        refine head_no (by kernel_rfl) ?_
        try simp only [Act.put, List.setIfInBounds_toArray, List.set]
        refine head_no (by kernel_rfl) ?_
        try simp only [Act.put, List.setIfInBounds_toArray, List.set]
        refine head_no (by kernel_rfl) ?_
        try simp only [Act.put, List.setIfInBounds_toArray, List.set]
        refine head_no (by kernel_rfl) ?_
        try simp only [Act.put, List.setIfInBounds_toArray, List.set]
        refine head_no (by kernel_rfl) ?_
        try simp only [Act.put, List.setIfInBounds_toArray, List.set]
        refine head_no (by kernel_rfl) ?_
        try simp only [Act.put, List.setIfInBounds_toArray, List.set]
        refine head_no (by kernel_rfl) ?_
        try simp only [Act.put, List.setIfInBounds_toArray, List.set]
        refine head_no (by kernel_rfl) ?_
        try simp only [Act.put, List.setIfInBounds_toArray, List.set]
        refine head_no (by kernel_rfl) ?_
        try simp only [Act.put, List.setIfInBounds_toArray, List.set]
        refine head_no (by kernel_rfl) ?_
        try simp only [Act.put, List.setIfInBounds_toArray, List.set]
        refine head_no (by kernel_rfl) ?_
        try simp only [Act.put, List.setIfInBounds_toArray, List.set]
        refine head_no (by kernel_rfl) ?_
        try simp only [Act.put, List.setIfInBounds_toArray, List.set]
        refine head_no (by kernel_rfl) ?_
        try simp only [Act.put, List.setIfInBounds_toArray, List.set]
        refine head_no (by kernel_rfl) ?_
        try simp only [Act.put, List.setIfInBounds_toArray, List.set]
        refine head_no (by kernel_rfl) ?_
        try simp only [Act.put, List.setIfInBounds_toArray, List.set]
        refine head_no (by kernel_rfl) ?_
        try simp only [Act.put, List.setIfInBounds_toArray, List.set]
        refine head_no (by kernel_rfl) ?_
        try simp only [Act.put, List.setIfInBounds_toArray, List.set]
        refine head_no (by kernel_rfl) ?_
        try simp only [Act.put, List.setIfInBounds_toArray, List.set]
        refine head_yes (by kernel_rfl) (fun K hK => ?_)
        go_simp
        refine hK _ ?_
        clear hK K
        refine head_nil ?_
        have BD2 := BD
        go_wp2
        exact bodyPost_ret (v := .bool false) (by simp [results, Tryd.results25, go_sem]) rfl ⟨by rw [RJ2.out], BD2.out⟩
      have n4 : (kd == 4) = false := beq_eq_false_iff_ne.2 e4
      by_cases e5 : kd = 5
      · subst e5
        have RJ2 : Hid (R = false) := show _ = _ by rw [RJ.out]; simp
        go_wp2_with fail
        refine region_all (by kernel_rfl) (by kernel_rfl) ?_
        refine head_yes (by kernel_rfl) (fun K hK => ?_)
        go_simp
        refine hK _ ?_
        clear hK K
        refine head_yes (by kernel_rfl) (fun K hK => ?_)
        go_simp
        refine hK _ ?_
        clear hK K
        refine head_yes (by kernel_rfl) (fun K hK => ?_)
        go_simp
        refine hK _ ?_
        clear hK K
        refine head_yes (by kernel_rfl) (fun K hK => ?_)
        go_simp
        refine hK _ ?_
        clear hK K
        refine head_yes (by kernel_rfl) (fun K hK => ?_)
        go_simp
        refine hK _ ?_
        clear hK K
        refine head_yes (by kernel_rfl) (fun K hK => ?_)
        go_simp
        refine hK _ ?_
        clear hK K
        refine head_yes (by kernel_rfl) (fun K hK => ?_)
        go_simp
        refine hK _ ?_
        clear hK K
        refine head_yes (by kernel_rfl) (fun K hK => ?_)
        go_simp
        refine hK _ ?_
        clear hK K
        refine head_yes (by kernel_rfl) (fun K hK => ?_)
        go_simp
        refine hK _ ?_
        clear hK K
        refine head_yes (by kernel_rfl) (fun K hK => ?_)
        go_simp
        refine hK _ ?_
        clear hK K
        refine head_yes (by kernel_rfl) (fun K hK => ?_)
        go_simp
        refine hK _ ?_
        clear hK K
        refine head_yes (by kernel_rfl) (fun K hK => ?_)
        go_simp
        refine hK _ ?_
        clear hK K
        refine head_yes (by kernel_rfl) (fun K hK => ?_)
        go_simp
        refine hK _ ?_
        clear hK K
        refine head_yes (by kernel_rfl) (fun K hK => ?_)
        go_simp
        refine hK _ ?_
        clear hK K
        refine head_yes (by kernel_rfl) (fun K hK => ?_)
        go_simp
        refine hK _ ?_
        clear hK K
        refine head_no (by kernel_rfl) ?_
        try simp only [Act.put, List.setIfInBounds_toArray, List.set]
        refine head_no (by kernel_rfl) ?_
        try simp only [Act.put, List.setIfInBounds_toArray, List.set]
        refine head_no (by kernel_rfl) ?_
        try simp only [Act.put, List.setIfInBounds_toArray, List.set]
        refine head_no (by kernel_rfl) ?_
        try simp only [Act.put, List.setIfInBounds_toArray, List.set]
        refine head_no (by kernel_rfl) ?_
        try simp only [Act.put, List.setIfInBounds_toArray, List.set]
        refine head_no (by kernel_rfl) ?_
        try simp only [Act.put, List.setIfInBounds_toArray, List.set]
        refine head_no (by kernel_rfl) ?_
        try simp only [Act.put, List.setIfInBounds_toArray, List.set]
        refine head_no (by kernel_rfl) ?_
        try simp only [Act.put, List.setIfInBounds_toArray, List.set]
        refine head_no (by kernel_rfl) ?_
        try simp only [Act.put, List.setIfInBounds_toArray, List.set]
        refine head_no (by kernel_rfl) ?_
        try simp only [Act.put, List.setIfInBounds_toArray, List.set]
        refine head_no (by kernel_rfl) ?_
        try simp only [Act.put, List.setIfInBounds_toArray, List.set]
        refine head_no (by kernel_rfl) ?_
        try simp only [Act.put, List.setIfInBounds_toArray, List.set]
        refine head_no (by kernel_rfl) ?_
        try simp only [Act.put, List.setIfInBounds_toArray, List.set]
        refine head_no (by kernel_rfl) ?_
        try simp only [Act.put, List.setIfInBounds_toArray, List.set]
        refine head_no (by kernel_rfl) ?_
        try simp only [Act.put, List.setIfInBounds_toArray, List.set]
        refine head_no (by kernel_rfl) ?_
        try simp only [Act.put, List.setIfInBounds_toArray, List.set]
        refine head_no (by kernel_rfl) ?_
        try simp only [Act.put, List.setIfInBounds_toArray, List.set]
        refine head_no (by kernel_rfl) ?_
        try simp only [Act.put, List.setIfInBounds_toArray, List.set]
        refine head_no (by kernel_rfl) ?_
        try simp only [Act.put, List.setIfInBounds_toArray, List.set]
        refine head_yes (by kernel_rfl) (fun K hK => ?_)
        go_simp
        refine hK _ ?_
        clear hK K
        refine head_nil ?_
        have BD2 := BD
        go_wp2
        exact bodyPost_ret (v := .bool false) (by simp [results, Tryd.results25, go_sem]) rfl ⟨by rw [RJ2.out], BD2.out⟩
      have n5 : (kd == 5) = false := beq_eq_false_iff_ne.2 e5
      by_cases e2 : kd = 2
      · subst e2
        by_cases ek : kk = r
        · subst ek
          have RJ2 : Hid (R = false) := show _ = _ by rw [RJ.out]; simp
          go_wp2_with fail
          refine region_all (by kernel_rfl) (by kernel_rfl) ?_
          refine head_yes (by kernel_rfl) (fun K hK => ?_)
          go_simp
          refine hK _ ?_
          clear hK K
          refine head_yes (by kernel_rfl) (fun K hK => ?_)
          go_simp
          refine hK _ ?_
          clear hK K
          refine head_yes (by kernel_rfl) (fun K hK => ?_)
          go_simp
          refine hK _ ?_
          clear hK K
          refine head_yes (by kernel_rfl) (fun K hK => ?_)
          go_simp
          refine hK _ ?_
          clear hK K
          refine head_yes (by kernel_rfl) (fun K hK => ?_)
          go_simp
          refine hK _ ?_
          clear hK K
          refine head_yes (by kernel_rfl) (fun K hK => ?_)
          go_simp
          refine hK _ ?_
          clear hK K
          refine head_yes (by kernel_rfl) (fun K hK => ?_)
          go_simp
          refine hK _ ?_
          clear hK K
          refine head_yes (by kernel_rfl) (fun K hK => ?_)
          go_simp
          refine hK _ ?_
          clear hK K
          refine head_yes (by kernel_rfl) (fun K hK => ?_)
          go_simp
          refine hK _ ?_
          clear hK K
          refine head_yes (by kernel_rfl) (fun K hK => ?_)
          go_simp
          refine hK _ ?_
          clear hK K
          refine head_yes (by kernel_rfl) (fun K hK => ?_)
          go_simp
          refine hK _ ?_
          clear hK K
          refine head_yes (by kernel_rfl) (fun K hK => ?_)
          go_simp
          refine hK _ ?_
          clear hK K
          refine head_yes (by kernel_rfl) (fun K hK => ?_)
          go_simp
          refine hK _ ?_
          clear hK K
          refine head_yes (by kernel_rfl) (fun K hK => ?_)
          go_simp
          refine hK _ ?_
          clear hK K
          refine head_yes (by kernel_rfl) (fun K hK => ?_)
          go_simp
          refine hK _ ?_
          clear hK K
          refine head_yes (by kernel_rfl) (fun K hK => ?_)
          go_simp
          refine hK _ ?_
          clear hK K
          refine head_yes (by kernel_rfl) (fun K hK => ?_)
          go_simp
          refine hK _ ?_
          clear hK K
          refine head_yes (by kernel_rfl) (fun K hK => ?_)
          go_simp
          refine hK _ ?_
          clear hK K
          refine head_yes (by kernel_rfl) (fun K hK => ?_)
          go_simp
          refine hK _ ?_
          clear hK K
          refine head_yes (by kernel_rfl) (fun K hK => ?_)
          go_simp
          refine hK _ ?_
          clear hK K
          refine head_yes (by kernel_rfl) (fun K hK => ?_)
          go_simp
          refine hK _ ?_
          clear hK K
          refine head_yes (by kernel_rfl) (fun K hK => ?_)
          go_simp
          refine hK _ ?_
          clear hK K
          refine head_yes (by kernel_rfl) (fun K hK => ?_)
          go_simp
          refine hK _ ?_
          clear hK K
          refine head_yes (by kernel_rfl) (fun K hK => ?_)
          go_simp
          refine hK _ ?_
          clear hK K
          refine head_yes (by kernel_rfl) (fun K hK => ?_)
          go_simp
          refine hK _ ?_
          clear hK K
          refine head_yes (by kernel_rfl) (fun K hK => ?_)
          go_simp
          refine hK _ ?_
          clear hK K
          refine head_yes (by kernel_rfl) (fun K hK => ?_)
          go_simp
          refine hK _ ?_
          clear hK K
          refine head_yes (by kernel_rfl) (fun K hK => ?_)
          go_simp
          refine hK _ ?_
          clear hK K
          refine head_yes (by kernel_rfl) (fun K hK => ?_)
          go_simp
          refine hK _ ?_
          clear hK K
          refine head_yes (by kernel_rfl) (fun K hK => ?_)
          go_simp
          refine hK _ ?_
          clear hK K
          refine head_yes (by kernel_rfl) (fun K hK => ?_)
          go_simp
          refine hK _ ?_
          clear hK K
          refine head_yes (by kernel_rfl) (fun K hK => ?_)
          go_simp
          refine hK _ ?_
          clear hK K
          refine head_yes (by kernel_rfl) (fun K hK => ?_)
          go_simp
          refine hK _ ?_
          clear hK K
          refine head_yes (by kernel_rfl) (fun K hK => ?_)
          go_simp
          refine hK _ ?_
          clear hK K
          refine head_yes (by kernel_rfl) (fun K hK => ?_)
          go_simp
          refine hK _ ?_
          clear hK K
          refine head_nil ?_
          have BD2 := BD
          go_wp2
          exact bodyPost_ret (v := .bool false) (by simp [results, Tryd.results25, go_sem]) rfl ⟨by rw [RJ2.out], BD2.out⟩
        · have nk : (kk == r) = false := beq_eq_false_iff_ne.2 ek
          have RJ2 : Hid (R = lostR r (ops.drop (j + 1))) := show _ = _ by rw [RJ.out]; simp [ek]
          clear ek
          go_wp2_with fail
          refine region_all (by kernel_rfl) (by kernel_rfl) ?_
          refine head_yes (by kernel_rfl) (fun K hK => ?_)
          go_simp
          refine hK _ ?_
          clear hK K
          refine head_yes (by kernel_rfl) (fun K hK => ?_)
          go_simp
          refine hK _ ?_
          clear hK K
          refine head_yes (by kernel_rfl) (fun K hK => ?_)
          go_simp
          refine hK _ ?_
          clear hK K
          refine head_yes (by kernel_rfl) (fun K hK => ?_)
          go_simp
          refine hK _ ?_
          clear hK K
          refine head_yes (by kernel_rfl) (fun K hK => ?_)
          go_simp
          refine hK _ ?_
          clear hK K
          refine head_yes (by kernel_rfl) (fun K hK => ?_)
          go_simp
          refine hK _ ?_
          clear hK K
          refine head_yes (by kernel_rfl) (fun K hK => ?_)
          go_simp
          refine hK _ ?_
          clear hK K
          refine head_yes (by kernel_rfl) (fun K hK => ?_)
          go_simp
          refine hK _ ?_
          clear hK K
          refine head_yes (by kernel_rfl) (fun K hK => ?_)
          go_simp
          refine hK _ ?_
          clear hK K
          refine head_yes (by kernel_rfl) (fun K hK => ?_)
          go_simp
          refine hK _ ?_
          clear hK K
          refine head_yes (by kernel_rfl) (fun K hK => ?_)
          go_simp
          refine hK _ ?_
          clear hK K
          refine head_yes (by kernel_rfl) (fun K hK => ?_)
          go_simp
          refine hK _ ?_
          clear hK K
          refine head_yes (by kernel_rfl) (fun K hK => ?_)
          go_simp
          refine hK _ ?_
          clear hK K
          refine head_yes (by kernel_rfl) (fun K hK => ?_)
          go_simp
          refine hK _ ?_
          clear hK K
          refine head_yes (by kernel_rfl) (fun K hK => ?_)
          go_simp
          refine hK _ ?_
          clear hK K
          refine head_yes (by kernel_rfl) (fun K hK => ?_)
          go_simp
          refine hK _ ?_
          clear hK K
          refine head_yes (by kernel_rfl) (fun K hK => ?_)
          go_simp
          refine hK _ ?_
          clear hK K
          refine head_yes (by kernel_rfl) (fun K hK => ?_)
          go_simp
          refine hK _ ?_
          clear hK K
          refine head_yes (by kernel_rfl) (fun K hK => ?_)
          go_simp
          refine hK _ ?_
          clear hK K
          refine head_yes (by kernel_rfl) (fun K hK => ?_)
          go_simp
          refine hK _ ?_
          clear hK K
          refine head_yes (by kernel_rfl) (fun K hK => ?_)
          go_simp
          refine hK _ ?_
          clear hK K
          refine head_yes (by kernel_rfl) (fun K hK => ?_)
          go_simp
          refine hK _ ?_
          clear hK K
          refine head_yes (by kernel_rfl) (fun K hK => ?_)
          go_simp
          refine hK _ ?_
          clear hK K
          refine head_yes (by kernel_rfl) (fun K hK => ?_)
          go_simp
          refine hK _ ?_
          clear hK K
          refine head_yes (by kernel_rfl) (fun K hK => ?_)
          go_simp
          refine hK _ ?_
          clear hK K
          refine head_yes (by kernel_rfl) (fun K hK => ?_)
          go_simp
          refine hK _ ?_
          clear hK K
          refine head_yes (by kernel_rfl) (fun K hK => ?_)
          go_simp
          refine hK _ ?_
          clear hK K
          refine head_yes (by kernel_rfl) (fun K hK => ?_)
          go_simp
          refine hK _ ?_
          clear hK K
          refine head_yes (by kernel_rfl) (fun K hK => ?_)
          go_simp
          refine hK _ ?_
          clear hK K
          refine head_yes (by kernel_rfl) (fun K hK => ?_)
          go_simp
          refine hK _ ?_
          clear hK K
          refine head_yes (by kernel_rfl) (fun K hK => ?_)
          go_simp
          refine hK _ ?_
          clear hK K
          refine head_yes (by kernel_rfl) (fun K hK => ?_)
          go_simp
          refine hK _ ?_
          clear hK K
          refine head_yes (by kernel_rfl) (fun K hK => ?_)
          go_simp
          refine hK _ ?_
          clear hK K
          refine head_yes (by kernel_rfl) (fun K hK => ?_)
          go_simp
          refine hK _ ?_
          clear hK K
          refine head_yes (by kernel_rfl) (fun K hK => ?_)
          go_simp
          refine hK _ ?_
          clear hK K
          refine head_nil ?_
          go_wp2_with fail
          refine region_all (by kernel_rfl) (by kernel_rfl) ?_
          refine head_yes (by kernel_rfl) (fun K hK => ?_)
          go_simp
          refine hK _ ?_
          clear hK K
          refine head_yes (by kernel_rfl) (fun K hK => ?_)
          go_simp
          refine hK _ ?_
          clear hK K
          refine head_yes (by kernel_rfl) (fun K hK => ?_)
          go_simp
          refine hK _ ?_
          clear hK K
          refine head_yes (by kernel_rfl) (fun K hK => ?_)
          go_simp
          refine hK _ ?_
          clear hK K
          refine head_yes (by kernel_rfl) (fun K hK => ?_)
          go_simp
          refine hK _ ?_
          clear hK K
          refine head_yes (by kernel_rfl) (fun K hK => ?_)
          go_simp
          refine hK _ ?_
          clear hK K
          refine head_yes (by kernel_rfl) (fun K hK => ?_)
          go_simp
          refine hK _ ?_
          clear hK K
          refine head_no (by kernel_rfl) ?_
          try simp only [Act.put, List.setIfInBounds_toArray, List.set]
          refine head_no (by kernel_rfl) ?_
          try simp only [Act.put, List.setIfInBounds_toArray, List.set]
          refine head_no (by kernel_rfl) ?_
          try simp only [Act.put, List.setIfInBounds_toArray, List.set]
          refine head_no (by kernel_rfl) ?_
          try simp only [Act.put, List.setIfInBounds_toArray, List.set]
          refine head_no (by kernel_rfl) ?_
          try simp only [Act.put, List.setIfInBounds_toArray, List.set]
          refine head_no (by kernel_rfl) ?_
          try simp only [Act.put, List.setIfInBounds_toArray, List.set]
          refine head_no (by kernel_rfl) ?_
          try simp only [Act.put, List.setIfInBounds_toArray, List.set]
          refine head_no (by kernel_rfl) ?_
          try simp only [Act.put, List.setIfInBounds_toArray, List.set]
          refine head_no (by kernel_rfl) ?_
          try simp only [Act.put, List.setIfInBounds_toArray, List.set]
          refine head_no (by kernel_rfl) ?_
          try simp only [Act.put, List.setIfInBounds_toArray, List.set]
          refine head_no (by kernel_rfl) ?_
          try simp only [Act.put, List.setIfInBounds_toArray, List.set]
          refine head_yes (by kernel_rfl) (fun K hK => ?_)
          go_simp
          refine hK _ ?_
          clear hK K
          refine head_nil ?_
          have BD2 := hide BD.out.drew
          go_wp2
          exact ⟨⟨j + 1, by omega, by omega, by go_num, RJ2, BD2⟩, by simp [intOf]; omega⟩
      have n2 : (kd == 2) = false := beq_eq_false_iff_ne.2 e2
      by_cases e8 : kd = 8
      · subst e8
        by_cases ek : kk = r
        · subst ek
          have RJ2 : Hid (R = true) := show _ = _ by rw [RJ.out]; simp
          go_wp2_with fail
          refine region_all (by kernel_rfl) (by kernel_rfl) ?_
          refine head_yes (by kernel_rfl) (fun K hK => ?_)
          go_simp
          refine hK _ ?_
          clear hK K
          refine head_yes (by kernel_rfl) (fun K hK => ?_)
          go_simp
          refine hK _ ?_
          clear hK K
          refine head_yes (by kernel_rfl) (fun K hK => ?_)
          go_simp
          refine hK _ ?_
          clear hK K
          refine head_yes (by kernel_rfl) (fun K hK => ?_)
          go_simp
          refine hK _ ?_
          clear hK K
          refine head_yes (by kernel_rfl) (fun K hK => ?_)
          go_simp
          refine hK _ ?_
          clear hK K
          refine head_yes (by kernel_rfl) (fun K hK => ?_)
          go_simp
          refine hK _ ?_
          clear hK K
          refine head_yes (by kernel_rfl) (fun K hK => ?_)
          go_simp
          refine hK _ ?_
          clear hK K
          refine head_yes (by kernel_rfl) (fun K hK => ?_)
          go_simp
          refine hK _ ?_
          clear hK K
          refine head_yes (by kernel_rfl) (fun K hK => ?_)
          go_simp
          refine hK _ ?_
          clear hK K
          refine head_yes (by kernel_rfl) (fun K hK => ?_)
          go_simp
          refine hK _ ?_
          clear hK K
          refine head_yes (by kernel_rfl) (fun K hK => ?_)
          go_simp
          refine hK _ ?_
          clear hK K
          refine head_yes (by kernel_rfl) (fun K hK => ?_)
          go_simp
          refine hK _ ?_
          clear hK K
          refine head_yes (by kernel_rfl) (fun K hK => ?_)
          go_simp
          refine hK _ ?_
          clear hK K
          refine head_yes (by kernel_rfl) (fun K hK => ?_)
          go_simp
          refine hK _ ?_
          clear hK K
          refine head_yes (by kernel_rfl) (fun K hK => ?_)
          go_simp
          refine hK _ ?_
          clear hK K
          refine head_yes (by kernel_rfl) (fun K hK => ?_)
          go_simp
          refine hK _ ?_
          clear hK K
          refine head_yes (by kernel_rfl) (fun K hK => ?_)
          go_simp
          refine hK _ ?_
          clear hK K
          refine head_yes (by kernel_rfl) (fun K hK => ?_)
          go_simp
          refine hK _ ?_
          clear hK K
          refine head_yes (by kernel_rfl) (fun K hK => ?_)
          go_simp
          refine hK _ ?_
          clear hK K
          refine head_yes (by kernel_rfl) (fun K hK => ?_)
          go_simp
          refine hK _ ?_
          clear hK K
          refine head_yes (by kernel_rfl) (fun K hK => ?_)
          go_simp
          refine hK _ ?_
          clear hK K
          refine head_yes (by kernel_rfl) (fun K hK => ?_)
          go_simp
          refine hK _ ?_
          clear hK K
          refine head_no (by kernel_rfl) ?_
          try simp only [Act.put, List.setIfInBounds_toArray, List.set]
          refine head_no (by kernel_rfl) ?_
          try simp only [Act.put, List.setIfInBounds_toArray, List.set]
          refine head_no (by kernel_rfl) ?_
          try simp only [Act.put, List.setIfInBounds_toArray, List.set]
          refine head_no (by kernel_rfl) ?_
          try simp only [Act.put, List.setIfInBounds_toArray, List.set]
          refine head_no (by kernel_rfl) ?_
          try simp only [Act.put, List.setIfInBounds_toArray, List.set]
          refine head_no (by kernel_rfl) ?_
          try simp only [Act.put, List.setIfInBounds_toArray, List.set]
          refine head_no (by kernel_rfl) ?_
          try simp only [Act.put, List.setIfInBounds_toArray, List.set]
          refine head_no (by kernel_rfl) ?_
          try simp only [Act.put, List.setIfInBounds_toArray, List.set]
          refine head_no (by kernel_rfl) ?_
          try simp only [Act.put, List.setIfInBounds_toArray, List.set]
          refine head_no (by kernel_rfl) ?_
          try simp only [Act.put, List.setIfInBounds_toArray, List.set]
          refine head_no (by kernel_rfl) ?_
          try simp only [Act.put, List.setIfInBounds_toArray, List.set]
          refine head_yes (by kernel_rfl) (fun K hK => ?_)
          go_simp
          refine hK _ ?_
          clear hK K
          refine head_yes (by kernel_rfl) (fun K hK => ?_)
          go_simp
          refine hK _ ?_
          clear hK K
          refine head_nil ?_
          go_wp2_with fail
          refine region_all (by kernel_rfl) (by kernel_rfl) ?_
          refine head_yes (by kernel_rfl) (fun K hK => ?_)
          go_simp
          refine hK _ ?_
          clear hK K
          refine head_yes (by kernel_rfl) (fun K hK => ?_)
          go_simp
          refine hK _ ?_
          clear hK K
          refine head_yes (by kernel_rfl) (fun K hK => ?_)
          go_simp
          refine hK _ ?_
          clear hK K
          refine head_yes (by kernel_rfl) (fun K hK => ?_)
          go_simp
          refine hK _ ?_
          clear hK K
          refine head_yes (by kernel_rfl) (fun K hK => ?_)
          go_simp
          refine hK _ ?_
          clear hK K
          refine head_yes (by kernel_rfl) (fun K hK => ?_)
          go_simp
          refine hK _ ?_
          clear hK K
          refine head_yes (by kernel_rfl) (fun K hK => ?_)
          go_simp
          refine hK _ ?_
          clear hK K
          refine head_yes (by kernel_rfl) (fun K hK => ?_)
          go_simp
          refine hK _ ?_
          clear hK K
          refine head_yes (by kernel_rfl) (fun K hK => ?_)
          go_simp
          refine hK _ ?_
          clear hK K
          refine head_yes (by kernel_rfl) (fun K hK => ?_)
          go_simp
          refine hK _ ?_
          clear hK K
          refine head_yes (by kernel_rfl) (fun K hK => ?_)
          go_simp
          refine hK _ ?_
          clear hK K
          refine head_yes (by kernel_rfl) (fun K hK => ?_)
          go_simp
          refine hK _ ?_
          clear hK K
          refine head_yes (by kernel_rfl) (fun K hK => ?_)
          go_simp
          refine hK _ ?_
          clear hK K
          refine head_yes (by kernel_rfl) (fun K hK => ?_)
          go_simp
          refine hK _ ?_
          clear hK K
          refine head_yes (by kernel_rfl) (fun K hK => ?_)
          go_simp
          refine hK _ ?_
          clear hK K
          refine head_yes (by kernel_rfl) (fun K hK => ?_)
          go_simp
          refine hK _ ?_
          clear hK K
          refine head_yes (by kernel_rfl) (fun K hK => ?_)
          go_simp
          refine hK _ ?_
          clear hK K
          refine head_yes (by kernel_rfl) (fun K hK => ?_)
          go_simp
          refine hK _ ?_
          clear hK K
          refine head_yes (by kernel_rfl) (fun K hK => ?_)
          go_simp
          refine hK _ ?_
          clear hK K
          refine head_nil ?_
          have BD2 := hide BD.out.drew
          go_wp2
          exact bodyPost_ret (v := .bool true) (by simp [results, Tryd.results25, go_sem]) rfl ⟨by rw [RJ2.out], BD2.out⟩
        · have nk : (kk == r) = false := beq_eq_false_iff_ne.2 ek
          have RJ2 : Hid (R = lostR r (ops.drop (j + 1))) := show _ = _ by rw [RJ.out]; simp [ek]
          clear ek
          go_wp2_with fail
          refine region_all (by kernel_rfl) (by kernel_rfl) ?_
          refine head_yes (by kernel_rfl) (fun K hK => ?_)
          go_simp
          refine hK _ ?_
          clear hK K
          refine head_yes (by kernel_rfl) (fun K hK => ?_)
          go_simp
          refine hK _ ?_
          clear hK K
          refine head_yes (by kernel_rfl) (fun K hK => ?_)
          go_simp
          refine hK _ ?_
          clear hK K
          refine head_yes (by kernel_rfl) (fun K hK => ?_)
          go_simp
          refine hK _ ?_
          clear hK K
          refine head_yes (by kernel_rfl) (fun K hK => ?_)
          go_simp
          refine hK _ ?_
          clear hK K
          refine head_yes (by kernel_rfl) (fun K hK => ?_)
          go_simp
          refine hK _ ?_
          clear hK K
          refine head_yes (by kernel_rfl) (fun K hK => ?_)
          go_simp
          refine hK _ ?_
          clear hK K
          refine head_yes (by kernel_rfl) (fun K hK => ?_)
          go_simp
          refine hK _ ?_
          clear hK K
          refine head_yes (by kernel_rfl) (fun K hK => ?_)
          go_simp
          refine hK _ ?_
          clear hK K
          refine head_yes (by kernel_rfl) (fun K hK => ?_)
          go_simp
          refine hK _ ?_
          clear hK K
          refine head_yes (by kernel_rfl) (fun K hK => ?_)
          go_simp
          refine hK _ ?_
          clear hK K
          refine head_yes (by kernel_rfl) (fun K hK => ?_)
          go_simp
          refine hK _ ?_
          clear hK K
          refine head_yes (by kernel_rfl) (fun K hK => ?_)
          go_simp
          refine hK _ ?_
          clear hK K
          refine head_yes (by kernel_rfl) (fun K hK => ?_)
          go_simp
          refine hK _ ?_
          clear hK K
          refine head_yes (by kernel_rfl) (fun K hK => ?_)
          go_simp
          refine hK _ ?_
          clear hK K
          refine head_yes (by kernel_rfl) (fun K hK => ?_)
          go_simp
          refine hK _ ?_
          clear hK K
          refine head_yes (by kernel_rfl) (fun K hK => ?_)
          go_simp
          refine hK _ ?_
          clear hK K
          refine head_yes (by kernel_rfl) (fun K hK => ?_)
          go_simp
          refine hK _ ?_
          clear hK K
          refine head_yes (by kernel_rfl) (fun K hK => ?_)
          go_simp
          refine hK _ ?_
          clear hK K
          refine head_yes (by kernel_rfl) (fun K hK => ?_)
          go_simp
          refine hK _ ?_
          clear hK K
          refine head_yes (by kernel_rfl) (fun K hK => ?_)
          go_simp
          refine hK _ ?_
          clear hK K
          refine head_yes (by kernel_rfl) (fun K hK => ?_)
          go_simp
          refine hK _ ?_
          clear hK K
          refine head_no (by kernel_rfl) ?_
          try simp only [Act.put, List.setIfInBounds_toArray, List.set]
          refine head_no (by kernel_rfl) ?_
          try simp only [Act.put, List.setIfInBounds_toArray, List.set]
          refine head_no (by kernel_rfl) ?_
          try simp only [Act.put, List.setIfInBounds_toArray, List.set]
          refine head_no (by kernel_rfl) ?_
          try simp only [Act.put, List.setIfInBounds_toArray, List.set]
          refine head_no (by kernel_rfl) ?_
          try simp only [Act.put, List.setIfInBounds_toArray, List.set]
          refine head_no (by kernel_rfl) ?_
          try simp only [Act.put, List.setIfInBounds_toArray, List.set]
          refine head_no (by kernel_rfl) ?_
          try simp only [Act.put, List.setIfInBounds_toArray, List.set]
          refine head_no (by kernel_rfl) ?_
          try simp only [Act.put, List.setIfInBounds_toArray, List.set]
          refine head_no (by kernel_rfl) ?_
          try simp only [Act.put, List.setIfInBounds_toArray, List.set]
          refine head_no (by kernel_rfl) ?_
          try simp only [Act.put, List.setIfInBounds_toArray, List.set]
          refine head_no (by kernel_rfl) ?_
          try simp only [Act.put, List.setIfInBounds_toArray, List.set]
          refine head_yes (by kernel_rfl) (fun K hK => ?_)
          go_simp
          refine hK _ ?_
          clear hK K
          refine head_yes (by kernel_rfl) (fun K hK => ?_)
          go_simp
          refine hK _ ?_
          clear hK K
          refine head_nil ?_
          go_wp2_with fail
          refine region_all (by kernel_rfl) (by kernel_rfl) ?_
          refine head_yes (by kernel_rfl) (fun K hK => ?_)
          go_simp
          refine hK _ ?_
          clear hK K
          refine head_yes (by kernel_rfl) (fun K hK => ?_)
          go_simp
          refine hK _ ?_
          clear hK K
          refine head_yes (by kernel_rfl) (fun K hK => ?_)
          go_simp
          refine hK _ ?_
          clear hK K
          refine head_yes (by kernel_rfl) (fun K hK => ?_)
          go_simp
          refine hK _ ?_
          clear hK K
          refine head_yes (by kernel_rfl) (fun K hK => ?_)
          go_simp
          refine hK _ ?_
          clear hK K
          refine head_yes (by kernel_rfl) (fun K hK => ?_)
          go_simp
          refine hK _ ?_
          clear hK K
          refine head_yes (by kernel_rfl) (fun K hK => ?_)
          go_simp
          refine hK _ ?_
          clear hK K
          refine head_yes (by kernel_rfl) (fun K hK => ?_)
          go_simp
          refine hK _ ?_
          clear hK K
          refine head_yes (by kernel_rfl) (fun K hK => ?_)
          go_simp
          refine hK _ ?_
          clear hK K
          refine head_yes (by kernel_rfl) (fun K hK => ?_)
          go_simp
          refine hK _ ?_
          clear hK K
          refine head_yes (by kernel_rfl) (fun K hK => ?_)
          go_simp
          refine hK _ ?_
          clear hK K
          refine head_yes (by kernel_rfl) (fun K hK => ?_)
          go_simp
          refine hK _ ?_
          clear hK K
          refine head_yes (by kernel_rfl) (fun K hK => ?_)
          go_simp
          refine hK _ ?_
          clear hK K
          refine head_yes (by kernel_rfl) (fun K hK => ?_)
          go_simp
          refine hK _ ?_
          clear hK K
          refine head_yes (by kernel_rfl) (fun K hK => ?_)
          go_simp
          refine hK _ ?_
          clear hK K
          refine head_yes (by kernel_rfl) (fun K hK => ?_)
          go_simp
          refine hK _ ?_
          clear hK K
          refine head_yes (by kernel_rfl) (fun K hK => ?_)
          go_simp
          refine hK _ ?_
          clear hK K
          refine head_yes (by kernel_rfl) (fun K hK => ?_)
          go_simp
          refine hK _ ?_
          clear hK K
          refine head_yes (by kernel_rfl) (fun K hK => ?_)
          go_simp
          refine hK _ ?_
          clear hK K
          refine head_nil ?_
          have BD2 := hide BD.out.drew
          go_wp2
          exact ⟨⟨j + 1, by omega, by omega, by go_num, RJ2, BD2⟩, by simp [intOf]; omega⟩
      have n8 : (kd == 8) = false := beq_eq_false_iff_ne.2 e8
      have RJ2 : Hid (R = lostR r (ops.drop (j + 1))) := show _ = _ by rw [RJ.out]; simp [e2, e4, e5, e8]
      clear e2 e4 e5 e8
      go_wp2_with fail
      refine region_all (by kernel_rfl) (by kernel_rfl) ?_
      refine head_yes (by kernel_rfl) (fun K hK => ?_)
      go_simp
      refine hK _ ?_
      clear hK K
      refine head_yes (by kernel_rfl) (fun K hK => ?_)
      go_simp
      refine hK _ ?_
      clear hK K
      refine head_yes (by kernel_rfl) (fun K hK => ?_)
      go_simp
      refine hK _ ?_
      clear hK K
      refine head_yes (by kernel_rfl) (fun K hK => ?_)
      go_simp
      refine hK _ ?_
      clear hK K
      refine head_yes (by kernel_rfl) (fun K hK => ?_)
      go_simp
      refine hK _ ?_
      clear hK K
      refine head_yes (by kernel_rfl) (fun K hK => ?_)
      go_simp
      refine hK _ ?_
      clear hK K
      refine head_yes (by kernel_rfl) (fun K hK => ?_)
      go_simp
      refine hK _ ?_
      clear hK K
      refine head_yes (by kernel_rfl) (fun K hK => ?_)
      go_simp
      refine hK _ ?_
      clear hK K
      refine head_yes (by kernel_rfl) (fun K hK => ?_)
      go_simp
      refine hK _ ?_
      clear hK K
      refine head_yes (by kernel_rfl) (fun K hK => ?_)
      go_simp
      refine hK _ ?_
      clear hK K
      refine head_yes (by kernel_rfl) (fun K hK => ?_)
      go_simp
      refine hK _ ?_
      clear hK K
      refine head_yes (by kernel_rfl) (fun K hK => ?_)
      go_simp
      refine hK _ ?_
      clear hK K
      refine head_yes (by kernel_rfl) (fun K hK => ?_)
      go_simp
      refine hK _ ?_
      clear hK K
      refine head_yes (by kernel_rfl) (fun K hK => ?_)
      go_simp
      refine hK _ ?_
      clear hK K
      refine head_yes (by kernel_rfl) (fun K hK => ?_)
      go_simp
      refine hK _ ?_
      clear hK K
      refine head_yes (by kernel_rfl) (fun K hK => ?_)
      go_simp
      refine hK _ ?_
      clear hK K
      refine head_yes (by kernel_rfl) (fun K hK => ?_)
      go_simp
      refine hK _ ?_
      clear hK K
      refine head_yes (by kernel_rfl) (fun K hK => ?_)
      go_simp
      refine hK _ ?_
      clear hK K
      refine head_yes (by kernel_rfl) (fun K hK => ?_)
      go_simp
      refine hK _ ?_
      clear hK K
      refine head_yes (by kernel_rfl) (fun K hK => ?_)
      go_simp
      refine hK _ ?_
      clear hK K
      refine head_yes (by kernel_rfl) (fun K hK => ?_)
      go_simp
      refine hK _ ?_
      clear hK K
      refine head_yes (by kernel_rfl) (fun K hK => ?_)
      go_simp
      refine hK _ ?_
      clear hK K
      refine head_no (by kernel_rfl) ?_
      try simp only [Act.put, List.setIfInBounds_toArray, List.set]
      refine head_no (by kernel_rfl) ?_
      try simp only [Act.put, List.setIfInBounds_toArray, List.set]
      refine head_no (by kernel_rfl) ?_
      try simp only [Act.put, List.setIfInBounds_toArray, List.set]
      refine head_no (by kernel_rfl) ?_
      try simp only [Act.put, List.setIfInBounds_toArray, List.set]
      refine head_no (by kernel_rfl) ?_
      try simp only [Act.put, List.setIfInBounds_toArray, List.set]
      refine head_no (by kernel_rfl) ?_
      try simp only [Act.put, List.setIfInBounds_toArray, List.set]
      refine head_no (by kernel_rfl) ?_
      try simp only [Act.put, List.setIfInBounds_toArray, List.set]
      refine head_no (by kernel_rfl) ?_
      try simp only [Act.put, List.setIfInBounds_toArray, List.set]
      refine head_no (by kernel_rfl) ?_
      try simp only [Act.put, List.setIfInBounds_toArray, List.set]
      refine head_no (by kernel_rfl) ?_
      try simp only [Act.put, List.setIfInBounds_toArray, List.set]
      refine head_no (by kernel_rfl) ?_
      try simp only [Act.put, List.setIfInBounds_toArray, List.set]
      refine head_yes (by kernel_rfl) (fun K hK => ?_)
      go_simp
      refine hK _ ?_
      clear hK K
      refine head_yes (by kernel_rfl) (fun K hK => ?_)
      go_simp
      refine hK _ ?_
      clear hK K
      refine head_nil ?_
      go_wp2_with fail
      refine region_all (by kernel_rfl) (by kernel_rfl) ?_
      refine head_yes (by kernel_rfl) (fun K hK => ?_)
      go_simp
      refine hK _ ?_
      clear hK K
      refine head_yes (by kernel_rfl) (fun K hK => ?_)
      go_simp
      refine hK _ ?_
      clear hK K
      refine head_yes (by kernel_rfl) (fun K hK => ?_)
      go_simp
      refine hK _ ?_
      clear hK K
      refine head_yes (by kernel_rfl) (fun K hK => ?_)
      go_simp
      refine hK _ ?_
      clear hK K
      refine head_yes (by kernel_rfl) (fun K hK => ?_)
      go_simp
      refine hK _ ?_
      clear hK K
      refine head_yes (by kernel_rfl) (fun K hK => ?_)
      go_simp
      refine hK _ ?_
      clear hK K
      refine head_yes (by kernel_rfl) (fun K hK => ?_)
      go_simp
      refine hK _ ?_
      clear hK K
      refine head_no (by kernel_rfl) ?_
      try simp only [Act.put, List.setIfInBounds_toArray, List.set]
      refine head_no (by kernel_rfl) ?_
      try simp only [Act.put, List.setIfInBounds_toArray, List.set]
      refine head_no (by kernel_rfl) ?_
      try simp only [Act.put, List.setIfInBounds_toArray, List.set]
      refine head_no (by kernel_rfl) ?_
      try simp only [Act.put, List.setIfInBounds_toArray, List.set]
      refine head_no (by kernel_rfl) ?_
      try simp only [Act.put, List.setIfInBounds_toArray, List.set]
      refine head_no (by kernel_rfl) ?_
      try simp only [Act.put, List.setIfInBounds_toArray, List.set]
      refine head_no (by kernel_rfl) ?_
      try simp only [Act.put, List.setIfInBounds_toArray, List.set]
      refine head_no (by kernel_rfl) ?_
      try simp only [Act.put, List.setIfInBounds_toArray, List.set]
      refine head_no (by kernel_rfl) ?_
      try simp only [Act.put, List.setIfInBounds_toArray, List.set]
      refine head_no (by kernel_rfl) ?_
      try simp only [Act.put, List.setIfInBounds_toArray, List.set]
      refine head_no (by kernel_rfl) ?_
      try simp only [Act.put, List.setIfInBounds_toArray, List.set]
      refine head_yes (by kernel_rfl) (fun K hK => ?_)
      go_simp
      refine hK _ ?_
      clear hK K
      refine head_nil ?_
      have BD2 := hide BD.out.drew
      go_wp2
      exact ⟨⟨j + 1, by omega, by omega, by go_num, RJ2, BD2⟩, by simp [intOf]; omega⟩
    · have lj : ¬ ((j : Nat) : Int) < (ops.length : Nat) := by omega
      have RJ2 : Hid (R = false) := show _ = _ by rw [RJ.out]; exact lost_nil (by omega)
      have BD2 := BW
      go_wp2
      exact bodyPost_ret (v := .bool false) (by simp [results, Tryd.results25, go_sem]) rfl ⟨by rw [RJ2.out], BD2.out⟩
end Go.Proofs.YtflhehofgplcoaaDoor.Op
