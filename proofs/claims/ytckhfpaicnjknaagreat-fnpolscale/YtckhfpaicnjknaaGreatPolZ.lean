/-
  Parts as a sum, if there are not too many: the specification's l4Fit.
-/
import Derived.Test.YtckhfpaicnjknaaGreatPolY
namespace Go.Proofs.YtckhfpaicnjknaaGreat.Pol
open Go.ChangeShapes Go.WideShapes Go.ChangeAt Go.RowKit IntS
def fitB (ps : List Mono) : Bool := decide (ps.length ≤ 12) && ps.all fun x => decide (x.2.length ≤ 4)
def fitP (ps : List Mono) : List Mono := if fitB ps = true then ps else []
theorem fit_many {ps : List Mono} (h : 12 < ps.length) : fitB ps = false ∧ fitP ps = [] := by
  have e : fitB ps = false := by unfold fitB; rw [decide_eq_false (by omega)]; rfl
  exact ⟨e, by unfold fitP; rw [e]; rfl⟩
theorem fit_high {ps : List Mono} {k : Nat} {x : Mono} (h : ps[k]? = some x) (hx : 4 < x.2.length) : fitB ps = false ∧ fitP ps = [] := by
  have e : fitB ps = false := by
    unfold fitB
    rw [show (ps.all fun x => decide (x.2.length ≤ 4)) = false from List.all_eq_false.2 ⟨x, List.mem_of_getElem? h, by simp; omega⟩, Bool.and_false]
  exact ⟨e, by unfold fitP; rw [e]; rfl⟩
theorem fit_yes {ps : List Mono} (h : ps.length ≤ 12) (hx : ∀ (i : Nat) x, i < ps.length → ps[i]? = some x → x.2.length ≤ 4) : fitB ps = true ∧ fitP ps = ps := by
  have e : fitB ps = true := by
    unfold fitB
    rw [decide_eq_true h, Bool.true_and, List.all_eq_true]
    intro x hm
    obtain ⟨k, hk⟩ := List.getElem?_of_mem hm
    exact decide_eq_true (hx k x (List.getElem?_eq_some_iff.1 hk).1 hk)
  exact ⟨e, by unfold fitP; rw [e]; rfl⟩
set_option maxRecDepth 8000 in
set_option maxHeartbeats 8000000 in
theorem l4FitO (ps : List Mono) (B : Nat) (v : Value) (w : World) (h : PRow w B v ps) :
    Calls Tryz.prog 34 #[v] w fun e w' => ∃ a l c, e = .returned (.tuple #[.agg #[.slice a l c], .bool (fitB ps)]) ∧ WPoly w' w.heap.size w'.heap.size (.slice a l c) (fitP ps) ∧ Mine w' w.heap.size (.slice a l c) ∧ Below w.heap.size w w' := by
  have bV : Below w.heap.size w (w.alloc (.cells #[.slice none 0 0] 25)) := (Below.refl _ _).alloc (Nat.le_refl _) _
  have RR := hide (Rec.new w [.slice none 0 0] 25)
  have H := hide (h.below bV)
  have BW := hide bV
  obtain ⟨a, cap, off, rfl, h2, h3, _, h4⟩ := h
  unfold maxLen at h3
  clear bV
  obtain ⟨n, en⟩ : ∃ n, ps.length = n := ⟨_, rfl⟩
  have EN := hide en
  have H4 := hide h4
  rw [en] at h2 H
  rw [en]
  clear en h4
  obtain ⟨R, eR⟩ : ∃ R, fitP ps = R := ⟨_, rfl⟩
  obtain ⟨T, eT⟩ : ∃ T, fitB ps = T := ⟨_, rfl⟩
  rw [eR, eT]
  have ER := hide eR
  have ET := hide eT
  clear eR eT
  by_cases n12 : 12 < n
  · have hf := fit_many (ps := ps) (by rw [EN.out]; exact n12)
    have HR := hide (ER.out.symm.trans hf.2)
    obtain rfl := ET.out.symm.trans hf.1
    clear hf ET ER
    have q : (12 : Int) < (n : Nat) := by omega
    go_enter Tryz.func34, Tryz.ntmps34
    go_wp2
    exact bodyPost_ret (v := .tuple #[.agg #[.slice none 0 0], .bool false]) (by simp [results, Tryz.results34, go_sem]) rfl ⟨none, 0, 0, rfl, by rw [HR.out]; exact WPoly.nil _ _ _, Mine.nil _ _, BW.out⟩
  · have q : ¬ (12 : Int) < (n : Nat) := by omega
    go_enter Tryz.func34, Tryz.ntmps34
    go_wp2
    generalize w.alloc (.cells #[.slice none 0 0] 25) = V at RR H BW ⊢
    have r0 := RR.out.cell 0 _ rfl
    have s0 := RR.out.soft 0
    have B0 := hide (BW.out.setCell (p := ⟨w.heap.size, 0, none⟩) (Nat.le_refl _) (.slice none 0 0))
    have Z0 := hide (RR.out.set 0 (.slice none 0 0) (by simp) rfl)
    go_loopw [4] (fun i wr => ∃ k : Nat, k ≤ n ∧ i = .int .i64 k ∧ wr = V ∧ Hid (∀ (j : Nat) x, j < k → ps[j]? = some x → x.2.length ≤ 4)) (fun i _ => n - (intOf i).toNat)
    case atStart => exact ⟨0, by omega, rfl, rfl, fun j x hj => by omega⟩
    case round =>
      obtain ⟨k, hk, rfl, rfl, HK⟩ := hrel
      by_cases hlt : k < n
      case neg =>
        obtain rfl : k = n := by omega
        have hf := fit_yes (ps := ps) (by rw [EN.out]; omega) (by rw [EN.out]; exact HK.out)
        have HR := hide (ER.out.symm.trans hf.2)
        obtain rfl := ET.out.symm.trans hf.1
        clear hf ET ER
        have L1 : Hid (ps.length ≤ 1000) := show _ ≤ _ by rw [EN.out]; omega
        have L2 : Hid (∀ x ∈ ps, x.2.length ≤ 1000000) := fun x hx => by
          obtain ⟨j, hj⟩ := List.getElem?_of_mem hx
          have := HK.out j x (by rw [← EN.out]; exact (List.getElem?_eq_some_iff.1 hj).1) hj
          omega
        clear B0 Z0 r0 s0
        go_wp2_with fail
        refine (l4CopyO ps B _ _ H.out (Nat.le_trans L1.out (by omega)) (fun x hx => Nat.le_trans (L2.out x hx) (by omega))).mono ?_
        rintro e u2 ⟨qa, ql, qc, rfl, W2, M2, hb⟩
        have RR2 := RR.out.below hb
        have r0 := RR2.cell 0 _ rfl
        have s0 := RR2.soft 0
        have BB := BW.out.trans (hb.mono BW.out.size)
        have B0 := hide (BB.setCell (p := ⟨w.heap.size, 0, none⟩) (Nat.le_refl _) (.slice qa ql qc))
        have Z0 := hide (RR2.set 0 (.slice qa ql qc) (by simp) rfl)
        have lu := RR.out.lt
        have W3 := W2.keep (w' := u2.setCell ⟨w.heap.size, 0, none⟩ (.slice qa ql qc)) (Keep.of_turn ((Turn.refl w.heap.size u2).setCell (p := ⟨w.heap.size, 0, none⟩) rfl _)) (fun b h1 _ (h2 : b = _) => by omega)
        have W4 := hide (W3.wide (lo' := w.heap.size) (hi' := (u2.setCell ⟨w.heap.size, 0, none⟩ (.slice qa ql qc)).heap.size) (by omega) (by simp [World.setCell]))
        have MM : Hid (Mine (u2.setCell ⟨w.heap.size, 0, none⟩ (.slice qa ql qc)) w.heap.size (.slice qa ql qc)) := (M2.turn ((Turn.refl w.heap.size u2).setCell (p := ⟨w.heap.size, 0, none⟩) rfl _) (by omega)).mono (by omega)
        clear W2 W3 RR2 BB hb lu M2
        go_wp2
        generalize u2.setCell ⟨w.heap.size, 0, none⟩ (.slice qa ql qc) = U2 at B0 Z0 W4 MM ⊢
        have z0 := Z0.out.cell 0 _ rfl
        exact bodyPost_ret (v := .tuple #[.agg #[.slice qa ql qc], .bool true]) (by simp [results, Tryz.results34, go_sem, z0]) rfl ⟨qa, ql, qc, rfl, by rw [HR.out]; exact W4.out, MM.out, B0.out⟩
      obtain ⟨x, ex⟩ : ∃ x, ps[k]? = some x := ⟨_, List.getElem?_eq_getElem (by rw [EN.out]; exact hlt)⟩
      have hc4 := H4.out.resolve_left (fun e => by rw [e] at ex; simp at ex)
      obtain ⟨rfl, hc⟩ := hc4
      obtain ⟨c, at_⟩ := x
      obtain ⟨g1, s, b, g2, g3⟩ := hc k _ ex
      have sx := cell_below BW.out g2
      obtain ⟨qa, ca, _, rfl, l2, l3, _⟩ := g3
      simp only [] at sx l2 l3
      unfold maxLen at l3
      have lk : ((k : Nat) : Int) < (n : Nat) := by omega
      by_cases hp : 4 < at_.length
      · have hf := fit_high (x := (c, at_)) ex hp
        have HR := hide (ER.out.symm.trans hf.2)
        obtain rfl := ET.out.symm.trans hf.1
        have q4 : (4 : Int) < (at_.length : Nat) := by omega
        clear hf ET ER ex g1 g2 hc
        go_wp2
        generalize wr.setCell ⟨w.heap.size, 0, none⟩ (.slice none 0 0) = U at B0 Z0 ⊢
        have z0 := Z0.out.cell 0 _ rfl
        exact bodyPost_ret (v := .tuple #[.agg #[.slice none 0 0], .bool false]) (by simp [results, Tryz.results34, go_sem, z0]) rfl ⟨none, 0, 0, rfl, by rw [HR.out]; exact WPoly.nil _ _ _, Mine.nil _ _, B0.out⟩
      · have q4 : ¬ (4 : Int) < (at_.length : Nat) := by omega
        have HK2 : Hid (∀ (j : Nat) x, j < k + 1 → ps[j]? = some x → x.2.length ≤ 4) := fun j y hj hy => by
          by_cases e : j < k
          · exact HK.out j y e hy
          · obtain rfl : j = k := by omega
            rw [ex] at hy
            obtain rfl := Option.some.inj hy
            show at_.length ≤ 4
            omega
        clear ex g1 g2 hc
        go_wp2
        exact ⟨⟨k + 1, by omega, by go_num, trivial, HK2⟩, by simp [intOf]; omega⟩
theorem l4Fit (ps : List Mono) (B : Nat) (v : Value) (w : World) (h : PRow w B v ps) :
    Calls Tryz.prog 34 #[v] w fun e w' => ∃ a l c, e = .returned (.tuple #[.agg #[.slice a l c], .bool (fitB ps)]) ∧ WPoly w' w.heap.size w'.heap.size (.slice a l c) (fitP ps) ∧ Below w.heap.size w w' := (l4FitO ps B v w h).mono fun _ _ ⟨a, l, c, h1, h2, _, h3⟩ => ⟨a, l, c, h1, h2, h3⟩
end Go.Proofs.YtckhfpaicnjknaaGreat.Pol
