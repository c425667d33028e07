/-
  The laws' own helpers: words out of numbers (laWords), how many atoms a part has (laDeg).
-/
import Derived.Test.YtckhfpaicnjknaaPolLa
import Derived.Test.YtckhfpaicnjknaaPolOf
namespace Go.Proofs.Ytckhfpaicnjknaa.La
set_option linter.unusedVariables false
set_option linter.unusedSimpArgs false
open Go.ChangeShapes Go.WideShapes Go.ChangeAt Go.RowKit IntS
open Pol (Rec Mono PRow wpList_pushI)
def wordsOf (xs : List Int) : List Int := xs.map fun x => x % 65536
theorem words_len (xs : List Int) : (wordsOf xs).length = xs.length := by simp [wordsOf]
theorem words_ok (xs : List Int) : ∀ x ∈ wordsOf xs, 0 ≤ x ∧ x < 65536 := fun x hx => by
  obtain ⟨y, _, rfl⟩ := List.mem_map.1 hx
  omega
theorem words_snoc {xs : List Int} {k : Nat} {x : Int} (h : xs[k]? = some x) : wordsOf (xs.take k) ++ [x % 65536] = wordsOf (xs.take (k + 1)) := by
  unfold wordsOf
  rw [List.take_add_one, h, List.map_append]
  rfl
theorem own_read {w : World} {lo : Nat} {v : Value} {xs : List Int} (h : IntS.Own w lo v xs) (hn : ¬ v = .slice none 0 0) : ∃ B, Row w B v xs := by
  obtain ⟨g, cap, rfl, _, _, h4⟩ := h.form hn
  exact ⟨g, h4.row⟩
theorem own_nil (w : World) {lo : Nat} (hlo : lo ≤ w.heap.size) : IntS.Own (w.alloc (.cells #[] 3)) lo (.slice (some ⟨w.heap.size, 0, none⟩) 0 0) [] :=
  ⟨rfl, Or.inr ⟨w.heap.size, 0, #[], rfl, hlo, by show (w.heap.push _)[w.heap.size]? = _; exact Array.getElem?_push_size, Nat.le_refl _, by unfold maxLen; omega, rfl, rfl⟩⟩
theorem own_below {w w' : World} {lo g n cap : Nat} {xs : List Int} (h : IntS.Own w lo (.slice (some ⟨g, 0, none⟩) n cap) xs) (hb : Below w.heap.size w w') : IntS.Own w' lo (.slice (some ⟨g, 0, none⟩) n cap) xs := by
  have hg : g < w.heap.size := by
    obtain ⟨g', cap', e, _, h2, _⟩ := h.form (by simp)
    cases e
    exact h2
  exact h.turn (B := g + 1) (Turn.of_below hb) (by omega) hg
set_option maxRecDepth 8000 in
set_option maxHeartbeats 8000000 in
theorem laWords (xs : List Int) (B : Nat) (v : Value) (w : World) (h : Row w B v xs) (hx : xs.length ≤ 1000) :
    Calls Try.prog 31 #[v] w fun e w' => ∃ g c B', e = .returned (.slice (some ⟨g, 0, none⟩) (wordsOf xs).length c) ∧ Row w' B' (.slice (some ⟨g, 0, none⟩) (wordsOf xs).length c) (wordsOf xs) ∧ Below w.heap.size w w' := by
  have O0 := hide (own_nil w (Nat.le_refl _))
  have B0 : Hid (Below w.heap.size w (w.alloc (.cells #[] 3))) := (Below.refl _ _).alloc (Nat.le_refl _) _
  obtain ⟨a, cap, off, rfl, h2, h3, hz, h4⟩ := h
  unfold maxLen at h3
  obtain ⟨n, en⟩ : ∃ n, xs.length = n := ⟨_, rfl⟩
  have EN := hide en
  rw [words_len, en]
  rw [en] at h2 hx
  have H4 := hide h4
  clear en h4 hz
  go_enter Try.func31, Try.ntmps31
  go_wp2
  generalize w.alloc (.cells #[] 3) = V at O0 B0 ⊢
  go_loopw [3, 4] (fun s i wr => ∃ (k g cp : Nat), k ≤ n ∧ i = .int .i64 (k : Int) ∧ s = .slice (some ⟨g, 0, none⟩) k cp ∧ Hid (IntS.Own wr w.heap.size (.slice (some ⟨g, 0, none⟩) k cp) (wordsOf (xs.take k))) ∧ Hid (Below w.heap.size w wr)) (fun _ i _ => n - (intOf i).toNat)
  case atStart => exact ⟨0, w.heap.size, 0, by omega, rfl, rfl, by rw [List.take_zero]; exact O0, B0⟩
  case round =>
    clear O0 B0
    obtain ⟨k, g, cp, hk, rfl, rfl, OO, BB⟩ := hrel
    by_cases hlt : k < n
    case neg =>
      obtain rfl : k = n := by omega
      have FIN : Hid (∃ B', Row wr B' (.slice (some ⟨g, 0, none⟩) k cp) (wordsOf xs)) := by
        have := own_read OO.out (by simp)
        rw [List.take_of_length_le (by rw [EN.out]; exact Nat.le_refl _)] at this
        exact this
      clear OO
      go_wp2
      go_ret
      obtain ⟨B', r⟩ := FIN.out
      exact ⟨_, cp, B', rfl, r, BB.out⟩
    obtain ⟨x, ex⟩ : ∃ x, xs[k]? = some x := ⟨_, List.getElem?_eq_getElem (by rw [EN.out]; exact hlt)⟩
    obtain ⟨rfl, hc⟩ := H4.out.resolve_left (fun e => by rw [e] at ex; simp at ex)
    have cx := cell_below BB.out (hc k x ex)
    have lk : ((k : Nat) : Int) < (n : Nat) := by omega
    have WX := hide (words_snoc ex)
    have lw : Hid ((wordsOf (xs.take k)).length = k) := show _ = _ by rw [words_len, List.length_take, EN.out]; omega
    clear hc ex
    go_wp2_with fail
    refine (Wrd.specWrap x wr).mono ?_
    rintro e u ⟨rfl, hu⟩
    rw [hu]
    clear hu u
    have b1 : Below wr.heap.size wr (wr.alloc (.cells #[.int .i64 (x % 65536)] 3)) := (Below.refl _ _).alloc (Nat.le_refl _) _
    have O1 := hide (own_below OO.out b1)
    have B1 := hide (BB.out.trans (b1.mono BB.out.size))
    have C1 : Hid ((wr.alloc (.cells #[.int .i64 (x % 65536)] 3)).cell? ((⟨wr.heap.size, 0, none⟩ : Addr).add 0) = some (.int .i64 (x % 65536))) := show _ = _ by rw [Go.WideShapes.add_plain]; simp
    have L1 : Hid ((wordsOf (xs.take k)).length ≤ 1000000) := show _ ≤ _ by rw [lw.out]; omega
    clear b1 OO BB cx
    go_wp2_with (at_builtin; refine wpList_pushI rfl _ _ rfl w.heap.size (.slice (some ⟨g, 0, none⟩) k cp) (wordsOf (xs.take k)) rfl O1.out B1.out.size ⟨wr.heap.size, 0, none⟩ (x % 65536) rfl C1.out L1.out ?_; intro G2 cp2 u2 hO hb _; rw [lw.out] at hO ⊢; have ON := hide (show IntS.Own u2 w.heap.size (.slice (some ⟨G2, 0, none⟩) (k + 1) cp2) (wordsOf (xs.take (k + 1))) by rw [← WX.out]; exact hO.out); have BN := hide (B1.out.trans hb.out); clear hO hb; refine Hid.out ?_)
    refine hide ?_
    clear O1 B1 C1 L1 WX lw
    go_wp2
    exact ⟨⟨k + 1, G2, cp2, by omega, by go_num, rfl, ON, BN⟩, by simp [intOf]; omega⟩
set_option maxRecDepth 8000 in
set_option maxHeartbeats 8000000 in
theorem laDeg (ps : List Mono) (B : Nat) (v : Value) (w : World) (h : PRow w B v ps) :
    Calls Try.prog 33 #[.agg #[v]] w fun e w' => e = .returned (.int .i64 (Pol.degL ps 0 : Nat)) ∧ Below w.heap.size w w' := by
  have Z0 := hide (Rec.new w [v] 25)
  have bV : Below w.heap.size w (w.alloc (.cells #[v] 25)) := (Below.refl _ _).alloc (Nat.le_refl _) _
  have H := hide (h.below bV)
  have BW := hide bV
  obtain ⟨a, cap, off, rfl, h2, h3, hz, h4⟩ := h
  unfold maxLen at h3
  clear hz h4 bV
  obtain ⟨n, en⟩ : ∃ n, ps.length = n := ⟨_, rfl⟩
  rw [en] at h2 H Z0 BW ⊢
  have EN := hide en
  clear en
  have a0 := Z0.out.cell 0 _ rfl
  go_enter Try.func33, Try.ntmps33
  go_wp2
  generalize w.alloc (.cells #[.slice a n cap] 25) = V at Z0 H BW a0 ⊢
  go_loopw [3, 4] (fun s i wr => ∃ (k m : Nat), k ≤ n ∧ i = .int .i64 (k : Int) ∧ s = .int .i64 (m : Int) ∧ Hid (Pol.degL (ps.drop k) m = Pol.degL ps 0) ∧ wr = V) (fun _ i _ => n - (intOf i).toNat)
  case atStart => exact ⟨0, 0, by omega, rfl, rfl, rfl, rfl⟩
  case round =>
    obtain ⟨k, m, hk, rfl, rfl, HD, rfl⟩ := hrel
    by_cases hlt : k < n
    case neg =>
      have e0 : Hid ((m : Int) = (Pol.degL ps 0 : Nat)) := show _ = _ by have := HD.out; rw [List.drop_eq_nil_of_le (by rw [EN.out]; omega)] at this; rw [← this]; rfl
      go_wp2
      go_ret
      exact ⟨by first | rfl | (rw [e0.out]; rfl), BW.out⟩
    obtain ⟨x, ex⟩ : ∃ x, ps[k]? = some x := ⟨_, List.getElem?_eq_getElem (by rw [EN.out]; exact hlt)⟩
    obtain ⟨_, _, o1, e1, _, _, _, h4⟩ := H.out
    injection e1 with i1 i2 i3
    subst i1 i3
    clear i2
    obtain ⟨rfl, q1⟩ := h4.resolve_left (fun e => by rw [e] at ex; simp at ex)
    obtain ⟨c1, s1, d1, f1, r1⟩ := q1 k x ex
    obtain ⟨x, xs⟩ := x
    simp only [] at c1 r1
    obtain ⟨qa, ca, _, rfl, l2, l3, _⟩ := r1
    unfold maxLen at l3
    have lk : ((k : Nat) : Int) < (n : Nat) := by omega
    have HN : Hid (Pol.degL (ps.drop (k + 1)) (max m xs.length) = Pol.degL ps 0) := show _ = _ by
      have := HD.out
      rw [Pol.drop_cons ex, Pol.degL] at this
      exact this
    clear q1 h4 ex c1 HD
    go_wp2
    refine ⟨⟨k + 1, max m xs.length, by omega, by go_num, ?_, HN, trivial⟩, by simp [intOf]; omega⟩
    congr 1
    omega
end Go.Proofs.Ytckhfpaicnjknaa.La
