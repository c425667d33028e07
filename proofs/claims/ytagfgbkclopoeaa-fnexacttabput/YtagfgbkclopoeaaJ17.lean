/-
  What a sum comes to: the program's partComesTo and PolEval, and the specification's PolEval.
  A word at a place: both sides.
  The program's placesOf and TabOk.
  What atoms come to, as lists; an int appended to a list that the call made.
-/
import Derived.Test.YtagfgbkclopoeaaJ16
import Derived.Test.YtagfgbkclopoeaaJ10
import Derived.Test.YtagfgbkclopoeaaJ13
import Derived.Test.YtagfgbkclopoeaaJ12
namespace Go.Proofs.Ytagfgbkclopoeaa.Pol
open Go.ChangeShapes Go.WideShapes Go.ChangeAt Go.RowKit IntS
def valAt (vals : List Int) (k : Int) : Int := if k < vals.length then vals.getD k.toNat 0 else 0
def evalP (ps : List Mono) (vals : List Int) : Int := if okP ps = true ∧ wordsB vals = true then sumVal vals ps 0 else 0
theorem mono_nil (vals : List Int) (c : Int) : monoVal vals [] c = c := rfl
theorem mono_step {vals at_ : List Int} {j : Nat} {y : Int} (h : at_[j]? = some y) (c : Int) : monoVal vals (at_.drop j) c = monoVal vals (at_.drop (j + 1)) (c * valAt vals y % 65536) := by
  rw [drop_cons h]
  rfl
theorem mono_zero (vals : List Int) : ∀ l : List Int, monoVal vals l 0 = 0
  | [] => rfl
  | k :: l => by rw [monoVal, Int.zero_mul]; exact mono_zero vals l
theorem mono_none {vals at_ : List Int} {j : Nat} {y : Int} (h : at_[j]? = some y) (c : Int) (hy : ¬ y < vals.length) : monoVal vals (at_.drop j) c = 0 := by
  rw [mono_step h]
  unfold valAt
  rw [if_neg hy, Int.mul_zero]
  exact mono_zero vals _
theorem mono_end {vals at_ : List Int} {j : Nat} (h : at_.length ≤ j) (c : Int) : monoVal vals (at_.drop j) c = c := by rw [List.drop_eq_nil_of_le h]; rfl
theorem sum_step {vals : List Int} {ps : List Mono} {k : Nat} {x : Mono} (h : ps[k]? = some x) (n : Int) : sumVal vals (ps.drop k) n = sumVal vals (ps.drop (k + 1)) ((n + monoVal vals x.2 x.1) % 65536) := by
  rw [drop_cons h]
  rfl
theorem sum_end {vals : List Int} {ps : List Mono} {k : Nat} (h : ps.length ≤ k) (n : Int) : sumVal vals (ps.drop k) n = n := by rw [List.drop_eq_nil_of_le h]; rfl
theorem eval_no {ps : List Mono} {vals : List Int} (h : ¬ (okP ps = true ∧ wordsB vals = true)) : evalP ps vals = 0 := if_neg h
theorem eval_yes {ps : List Mono} {vals : List Int} (h1 : okP ps = true) (h2 : wordsB vals = true) : evalP ps vals = sumVal vals ps 0 := if_pos ⟨h1, h2⟩
theorem val_bd {vals : List Int} (h : wordsB vals = true) (k : Int) : 0 ≤ valAt vals k ∧ valAt vals k < 65536 := by
  unfold valAt
  split
  · rw [List.getD_eq_getElem?_getD]
    cases hx : vals[k.toNat]? with
    | none => simp
    | some x => exact words_mem h x (List.mem_of_getElem? hx)
  · omega
theorem val_in {vals : List Int} {k : Nat} {x : Int} (h : vals[k]? = some x) : valAt vals k = x := by
  unfold valAt
  rw [if_pos (by have := (List.getElem?_eq_some_iff.1 h).1; omega), Int.toNat_natCast]
  exact getD_at h
theorem val_out {vals : List Int} {k : Int} (h : ¬ k < vals.length) : valAt vals k = 0 := if_neg h
theorem mono_bd {vals : List Int} : ∀ (l : List Int) (c : Int), 0 ≤ c → c < 65536 → 0 ≤ monoVal vals l c ∧ monoVal vals l c < 65536
  | [], c, h0, h1 => ⟨h0, h1⟩
  | k :: l, c, h0, h1 => by rw [monoVal]; exact mono_bd l _ (by omega) (by omega)
theorem ok_mono {ps : List Mono} {k : Nat} {x : Mono} (h : okP ps = true) (hx : ps[k]? = some x) : monoB x = true := by
  unfold okP at h
  simp only [Bool.and_eq_true] at h
  have := all_at h.2 (List.getElem?_eq_some_iff.1 hx).1
  unfold partAt at this
  simp only [Bool.and_eq_true] at this
  rw [getD_part hx] at this
  exact this.1
theorem mono_coef2 {c : Int} {at_ : List Int} (h : monoB (c, at_) = true) : 1 ≤ c ∧ c ≤ 65535 := by
  unfold monoB at h
  simp only [Bool.and_eq_true] at h
  exact of_decide_eq_true h.1.1
theorem mono_atom2 {c : Int} {at_ : List Int} (h : monoB (c, at_) = true) {j : Nat} {y : Int} (hy : at_[j]? = some y) : 0 ≤ y ∧ y < 200 := by
  unfold monoB at h
  simp only [Bool.and_eq_true] at h
  have := all_at h.2 (List.getElem?_eq_some_iff.1 hy).1
  simp only [Bool.and_eq_true] at this
  have h2 := this.1
  unfold atomAt at h2
  rw [getD_at hy] at h2
  exact of_decide_eq_true h2
set_option maxRecDepth 4000 in
set_option maxHeartbeats 8000000 in
theorem partComesTo (c : Int) (at_ vals : List Int) (B B' : Nat) (v v' : Value) (w : World) (h : Row w B v at_) (h' : Row w B' v' vals) (hm : monoB (c, at_) = true) (hw : wordsB vals = true) :
    Calls Try.prog 71 #[.agg #[.int .i64 c, v], v'] w fun e w' => e = .returned (.int .i64 (monoVal vals at_ c)) ∧ Below w.heap.size w w' := by
  obtain ⟨a, cap, off, rfl, h2, h3, hz, h4⟩ := h
  obtain ⟨a', cap', off', rfl, h2', h3', hz', h4'⟩ := h'
  unfold maxLen at h3 h3'
  clear hz hz'
  have bV : Below w.heap.size w (w.alloc (.cells #[.int .i64 c, .slice a at_.length cap] 88)) := (Below.refl _ _).alloc (Nat.le_refl _) _
  have BW := hide bV
  clear bV
  have HMo := hide hm
  have HWo := hide hw
  have c0 := mono_coef2 hm
  obtain ⟨R, eR⟩ : ∃ R, monoVal vals at_ c = R := ⟨_, rfl⟩
  rw [eR]
  have ER := hide eR
  clear eR hm hw
  obtain ⟨n, en⟩ : ∃ n, at_.length = n := ⟨_, rfl⟩
  have EN := hide en
  rw [en] at h2 BW ⊢
  have H4 := hide h4
  have H4' := hide h4'
  clear en h4 h4'
  go_enter Try.func71, Try.ntmps71
  by_cases n0 : n = 0
  · subst n0
    have HD : Hid (c = R) := show _ = _ by rw [← ER.out, List.length_eq_zero_iff.1 EN.out]; rfl
    go_wp2
    refine wp_loop_rounds 1 ?_
    rw [rounds_succ]
    go_wp2
    go_ret
    exact ⟨ret_int HD.out, BW.out⟩
  · obtain ⟨rfl, hc⟩ := H4.out.resolve_left (fun e => n0 (by rw [← EN.out, e]; rfl))
    have HC := hide hc
    clear hc H4
    go_wp2
    have bb := (Below.refl w.heap.size w).alloc (Nat.le_refl _) (.cells #[.int .i64 c, .slice (some ⟨B, off, none⟩) n cap] 88)
    have HV := hide (fun (k : Nat) (x : Int) (hx : at_[k]? = some x) => cell_below bb (HC.out k x hx))
    have HV' : Hid (vals = [] ∨ (a' = some ⟨B', off', none⟩ ∧ ∀ (i : Nat) x, vals[i]? = some x → (w.alloc (.cells #[.int .i64 c, .slice (some ⟨B, off, none⟩) n cap] 88)).cell? ⟨B', off' + i, none⟩ = some (.int .i64 x))) := H4'.out.imp id (fun q => ⟨q.1, fun i x hx => cell_below bb (q.2 i x hx)⟩)
    clear bb H4'
    generalize w.alloc (.cells #[.int .i64 c, .slice (some ⟨B, off, none⟩) n cap] 88) = V at BW HV HV' ⊢
    go_loopw [5, 13] (fun q i wr => ∃ (j : Nat) (r : Int), j ≤ n ∧ i = .int .i64 j ∧ q = .int .i64 r ∧ 0 ≤ r ∧ r < 65536 ∧ Hid (monoVal vals (at_.drop j) r = R) ∧ Hid (Below V.heap.size V wr)) (fun _ i _ => n - (intOf i).toNat)
    case atStart => exact ⟨0, c, by omega, rfl, rfl, by omega, by omega, ER, Below.refl _ _⟩
    case round =>
      obtain ⟨j, r, hj, rfl, rfl, r0, r1, HR, HB⟩ := hrel
      by_cases hlt : j < n
      case neg =>
        have HD : Hid (r = R) := (mono_end (by rw [EN.out]; omega) r).symm.trans HR.out
        go_wp2
        go_ret
        exact ⟨ret_int HD.out, BW.out.trans (HB.out.mono BW.out.size)⟩
      obtain ⟨y, ey⟩ : ∃ y, at_[j]? = some y := ⟨_, List.getElem?_eq_getElem (by rw [EN.out]; exact hlt)⟩
      have cy := cell_below HB.out (HV.out j y ey)
      obtain ⟨y0, y1⟩ := mono_atom2 HMo.out ey
      have lj : ((j : Nat) : Int) < (n : Nat) := by omega
      by_cases hin : y < vals.length
      case neg =>
        have HD : Hid (R = 0) := HR.out.symm.trans (mono_none ey r hin)
        have hin' : (vals.length : Int) ≤ y := by omega
        clear ey hin
        go_wp2
        go_ret
        exact ⟨ret_int HD.out.symm, BW.out.trans (HB.out.mono BW.out.size)⟩
      obtain ⟨m, rfl⟩ : ∃ m : Nat, y = m := ⟨y.toNat, (Int.toNat_of_nonneg y0).symm⟩
      obtain ⟨z, ez⟩ : ∃ z, vals[m]? = some z := ⟨_, List.getElem?_eq_getElem (by omega)⟩
      have hv := HV'.out.resolve_left (fun e => by rw [e] at ez; simp at ez)
      obtain ⟨rfl, hv⟩ := hv
      have cz := cell_below HB.out (hv m z ez)
      have HX0 := hide ((mono_step ey r).symm.trans HR.out)
      rw [val_in ez] at HX0
      obtain ⟨z0, z1⟩ := words_mem HWo.out z (List.mem_of_getElem? ez)
      have hin' : ¬ (vals.length : Int) ≤ (m : Nat) := by omega
      clear ey hv ez
      go_wp2_with fail
      refine (Wrd.implDo_mul r z _ r0 r1 z0 z1).mono ?_
      rintro e u ⟨rfl, hb⟩
      have HB2 := hide (HB.out.trans (hb.mono HB.out.size))
      have q0 : 0 ≤ r * z % 65536 ∧ r * z % 65536 < 65536 := by omega
      clear hb cy cz
      generalize r * z % 65536 = t at q0 HX0 ⊢
      go_wp2
      exact ⟨⟨j + 1, t, by omega, by go_num, by first | rfl | go_num, q0.1, q0.2, HX0, HB2⟩, by simp [intOf]; omega⟩
set_option maxRecDepth 4000 in
set_option maxHeartbeats 8000000 in
theorem implEval (ps : List Mono) (vals : List Int) (B B' : Nat) (v v' : Value) (w : World) (h : PRow w B v ps) (h' : Row w B' v' vals) :
    Calls Try.prog 47 #[.agg #[v], v'] w fun e w' => e = .returned (.int .i64 (evalP ps vals)) ∧ Below w.heap.size w w' := by
  have bV : Below w.heap.size w (w.alloc (.cells #[v] 40)) := (Below.refl _ _).alloc (Nat.le_refl _) _
  have z0 : (w.alloc (.cells #[v] 40)).cell? ⟨w.heap.size, 0, none⟩ = some v := by rw [World.cell?_alloc_new]; rfl
  have H := hide (h.below bV)
  have H' := hide (h'.below bV)
  have BW := hide bV
  obtain ⟨a, cap, off, rfl, h2, h3, _⟩ := h
  obtain ⟨a', cap', off', rfl, h2', h3', _⟩ := h'
  unfold maxLen at h3 h3'
  clear bV
  obtain ⟨R, eR⟩ : ∃ R, evalP ps vals = R := ⟨_, rfl⟩
  rw [eR]
  have ER := hide eR
  clear eR
  go_enter Try.func47, Try.ntmps47
  go_wp2_with fail
  generalize w.alloc (.cells #[.slice a ps.length cap] 40) = V0 at z0 H H' BW ⊢
  go_wp2_with fail
  refine (implOk ps B _ _ H.out).mono ?_
  rintro e V ⟨rfl, hb⟩
  have y0 := cell_below hb z0
  replace H := hide (H.out.below hb)
  replace H' := hide (H'.out.below hb)
  replace BW := hide (BW.out.trans (hb.mono BW.out.size))
  clear hb z0
  cases ok : okP ps with
  | false =>
    have HD : Hid (R = 0) := ER.out.symm.trans (eval_no (fun h => by rw [ok] at h; exact absurd h.1 (by decide)))
    clear ok
    go_wp2
    go_ret
    exact ⟨ret_int HD.out.symm, BW.out⟩
  | true =>
    have OK := hide ok
    clear ok
    go_wp2_with fail
    refine (allWords vals B' _ _ H'.out).mono ?_
    rintro e u ⟨rfl, rfl⟩
    cases wo : wordsB vals with
    | false =>
      have HD : Hid (R = 0) := ER.out.symm.trans (eval_no (fun h => by rw [wo] at h; exact absurd h.2 (by decide)))
      clear wo
      go_wp2
      go_ret
      exact ⟨ret_int HD.out.symm, BW.out⟩
    | true =>
      have WO := hide wo
      replace ER : Hid (sumVal vals ps 0 = R) := (eval_yes OK.out WO.out).symm.trans ER.out
      clear wo
      obtain ⟨n, en⟩ : ∃ n, ps.length = n := ⟨_, rfl⟩
      have EN := hide en
      have YY := hide y0
      rw [en] at h2 y0 YY H
      rw [en]
      clear en
      by_cases n0 : n = 0
      · subst n0
        have HD : Hid (R = 0) := show _ = _ by rw [← ER.out, List.length_eq_zero_iff.1 EN.out]; rfl
        go_wp2
        refine wp_loop_rounds 1 ?_
        rw [rounds_succ]
        go_wp2
        go_ret
        exact ⟨ret_int HD.out.symm, BW.out⟩
      obtain ⟨_, _, offa, ea, _, _, _, ha4⟩ := H.out
      obtain ⟨rfl, hc⟩ := ha4.resolve_left (fun e => n0 (by rw [← EN.out, e]; rfl))
      simp only [Value.slice.injEq] at ea
      obtain ⟨rfl, -, rfl⟩ := ea
      have HC := hide hc
      clear hc ha4 H
      go_wp2
      clear y0
      go_loopw [5, 19] (fun q i wr => ∃ (k : Nat) (r : Int), k ≤ n ∧ i = .int .i64 k ∧ q = .int .i64 r ∧ 0 ≤ r ∧ r < 65536 ∧ Hid (sumVal vals (ps.drop k) r = R) ∧ Hid (Below u.heap.size u wr)) (fun _ i _ => n - (intOf i).toNat)
      case atStart => exact ⟨0, 0, by omega, rfl, rfl, by omega, by omega, ER, Below.refl _ _⟩
      case round =>
        obtain ⟨k, r, hk, rfl, rfl, r0, r1, HR, HB⟩ := hrel
        by_cases hlt : k < n
        case neg =>
          have HD : Hid (r = R) := (sum_end (by rw [EN.out]; omega) r).symm.trans HR.out
          go_wp2
          go_ret
          exact ⟨ret_int HD.out, BW.out.trans (HB.out.mono BW.out.size)⟩
        obtain ⟨x, ex⟩ : ∃ x, ps[k]? = some x := ⟨_, List.getElem?_eq_getElem (by rw [EN.out]; exact hlt)⟩
        obtain ⟨c, at_⟩ := x
        obtain ⟨g1, s, b, g2, g3⟩ := HC.out k _ ex
        have cx := cell_below HB.out g1
        have sx := cell_below HB.out g2
        have RX := hide (g3.below HB.out)
        have MO := hide (ok_mono OK.out ex)
        have HX0 := hide ((sum_step (vals := vals) ex r).symm.trans HR.out)
        obtain ⟨qa, ca, oa, rfl, l2, l3, _, l4⟩ := g3
        simp only [] at cx sx RX HX0 l2 l4
        have lk : ((k : Nat) : Int) < (n : Nat) := by omega
        clear ex g1 g2
        clear l2 l3 l4
        have bX := (Below.refl wr.heap.size wr).alloc (Nat.le_refl _) (.cells #[.int .i64 c, .slice qa at_.length ca] 88)
        replace RX := hide (RX.out.below bX)
        have HU := hide (HB.out.trans (bX.mono HB.out.size))
        have RV := hide (H'.out.below HU.out)
        clear bX
        go_wp2_with fail
        refine (partComesTo c at_ vals b B' _ _ _ RX.out RV.out MO.out WO.out).mono ?_
        rintro e u2 ⟨rfl, hb⟩
        obtain ⟨c0, c1⟩ := mono_coef2 MO.out
        obtain ⟨m0, m1⟩ := mono_bd (vals := vals) at_ c (by omega) (by omega)
        replace HU := hide (HU.out.trans (hb.mono HU.out.size))
        clear hb RX RV cx sx c0 c1
        generalize monoVal vals at_ c = m at m0 m1 HX0 ⊢
        go_wp2_with fail
        refine (Wrd.implDo_add r m _ r0 r1 m0 m1).mono ?_
        rintro e u3 ⟨rfl, hb⟩
        replace HU := hide (HU.out.trans (hb.mono HU.out.size))
        have q0 : 0 ≤ (r + m) % 65536 ∧ (r + m) % 65536 < 65536 := by omega
        clear hb
        generalize (r + m) % 65536 = t at q0 HX0 ⊢
        go_wp2
        exact ⟨⟨k + 1, t, by omega, by go_num, by first | rfl | go_num, q0.1, q0.2, HX0, HU⟩, by simp [intOf]; omega⟩
set_option maxRecDepth 4000 in
set_option maxHeartbeats 8000000 in
theorem specEval (ps : List Mono) (vals : List Int) (B B' : Nat) (v v' : Value) (w : World) (h : PRow w B v ps) (h' : Row w B' v' vals) :
    Calls Try.prog 42 #[.agg #[v], v'] w fun e w' => e = .returned (.int .i64 (evalP ps vals)) ∧ Below w.heap.size w w' := by
  have bV : Below w.heap.size w (w.alloc (.cells #[v] 40)) := (Below.refl _ _).alloc (Nat.le_refl _) _
  have z0 : (w.alloc (.cells #[v] 40)).cell? ⟨w.heap.size, 0, none⟩ = some v := by rw [World.cell?_alloc_new]; rfl
  have H := hide (h.below bV)
  have H' := hide (h'.below bV)
  have BW := hide bV
  obtain ⟨a, cap, off, rfl, h2, h3, _⟩ := h
  obtain ⟨a', cap', off', rfl, h2', h3', _⟩ := h'
  unfold maxLen at h3 h3'
  clear bV
  obtain ⟨R, eR⟩ : ∃ R, evalP ps vals = R := ⟨_, rfl⟩
  rw [eR]
  have ER := hide eR
  clear eR
  go_enter Try.func42, Try.ntmps42
  go_wp2_with fail
  generalize w.alloc (.cells #[.slice a ps.length cap] 40) = V0 at z0 H H' BW ⊢
  go_wp2_with fail
  refine (specOk ps B _ _ H.out).mono ?_
  rintro e V ⟨rfl, hb⟩
  have y0 := cell_below hb z0
  replace H := hide (H.out.below hb)
  replace H' := hide (H'.out.below hb)
  replace BW := hide (BW.out.trans (hb.mono BW.out.size))
  clear hb z0
  cases ok : okP ps with
  | false =>
    have HD : Hid (R = 0) := ER.out.symm.trans (eval_no (fun h => by rw [ok] at h; exact absurd h.1 (by decide)))
    clear ok
    go_wp2
    go_ret
    exact ⟨ret_int HD.out.symm, BW.out⟩
  | true =>
    have OK := hide ok
    clear ok
    go_wp2_with fail
    refine (l1Words vals B' _ _ H'.out).mono ?_
    rintro e u ⟨rfl, rfl⟩
    cases wo : wordsB vals with
    | false =>
      have HD : Hid (R = 0) := ER.out.symm.trans (eval_no (fun h => by rw [wo] at h; exact absurd h.2 (by decide)))
      clear wo
      go_wp2
      go_ret
      exact ⟨ret_int HD.out.symm, BW.out⟩
    | true =>
      have WO := hide wo
      replace ER : Hid (sumVal vals ps 0 = R) := (eval_yes OK.out WO.out).symm.trans ER.out
      clear wo
      obtain ⟨n, en⟩ : ∃ n, ps.length = n := ⟨_, rfl⟩
      have EN := hide en
      have YY := hide y0
      rw [en] at h2 y0 YY H
      rw [en]
      clear en
      by_cases n0 : n = 0
      · subst n0
        have HD : Hid (R = 0) := show _ = _ by rw [← ER.out, List.length_eq_zero_iff.1 EN.out]; rfl
        go_wp2
        refine wp_loop_rounds 1 ?_
        rw [rounds_succ]
        go_wp2
        go_ret
        exact ⟨ret_int HD.out.symm, BW.out⟩
      obtain ⟨_, _, offa, ea, _, _, _, ha4⟩ := H.out
      obtain ⟨rfl, hc⟩ := ha4.resolve_left (fun e => n0 (by rw [← EN.out, e]; rfl))
      simp only [Value.slice.injEq] at ea
      obtain ⟨rfl, -, rfl⟩ := ea
      have HC := hide hc
      clear hc ha4 H
      go_wp2
      clear y0
      go_loopw [5, 6] (fun q i wr => ∃ (k : Nat) (r : Int), k ≤ n ∧ i = .int .i64 k ∧ q = .int .i64 r ∧ 0 ≤ r ∧ r < 65536 ∧ Hid (sumVal vals (ps.drop k) r = R) ∧ Hid (Below u.heap.size u wr)) (fun _ i _ => n - (intOf i).toNat)
      case atStart => exact ⟨0, 0, by omega, rfl, rfl, by omega, by omega, ER, Below.refl _ _⟩
      case round =>
        obtain ⟨k, r, hk, rfl, rfl, r0, r1, HR, HB⟩ := hrel
        have y0 := cell_below HB.out YY.out
        by_cases hlt : k < n
        case neg =>
          have HD : Hid (r = R) := (sum_end (by rw [EN.out]; omega) r).symm.trans HR.out
          go_wp2
          go_ret
          exact ⟨ret_int HD.out, BW.out.trans (HB.out.mono BW.out.size)⟩
        obtain ⟨x, ex⟩ : ∃ x, ps[k]? = some x := ⟨_, List.getElem?_eq_getElem (by rw [EN.out]; exact hlt)⟩
        obtain ⟨c, at_⟩ := x
        obtain ⟨g1, s, b, g2, g3⟩ := HC.out k _ ex
        have cx := cell_below HB.out g1
        have sx := cell_below HB.out g2
        have RX := hide (g3.below HB.out)
        have MO := hide (ok_mono OK.out ex)
        have HX0 := hide ((sum_step (vals := vals) ex r).symm.trans HR.out)
        obtain ⟨qa, ca, oa, rfl, l2, l3, _, l4⟩ := g3
        simp only [] at cx sx RX HX0 l2 l4
        have lk : ((k : Nat) : Int) < (n : Nat) := by omega
        clear ex g1 g2
        obtain ⟨c0, c1⟩ := mono_coef2 MO.out
        obtain ⟨mv, emv⟩ : ∃ mv, monoVal vals at_ c = mv := ⟨_, rfl⟩
        have EMV := hide emv
        rw [emv] at HX0
        have MB : Hid (0 ≤ mv ∧ mv < 65536) := show _ ∧ _ by rw [← emv]; exact mono_bd at_ c (by omega) (by omega)
        clear emv
        unfold maxLen at l3
        obtain ⟨m, em⟩ : ∃ m, at_.length = m := ⟨_, rfl⟩
        have EM := hide em
        rw [em] at sx l2
        have L4 := hide (l4.imp id (fun q => (⟨q.1, fun i x hx => q.2 i x hx⟩ : qa = some ⟨b, oa, none⟩ ∧ ∀ (i : Nat) x, at_[i]? = some x → u.cell? ⟨b, oa + i, none⟩ = some (.int .i64 x))))
        have RV := hide (H'.out.below HB.out)
        clear em l4 RX
        by_cases m0 : m = 0
        · subst m0
          have HD : Hid (c = mv) := show _ = _ by rw [← EMV.out, List.length_eq_zero_iff.1 EM.out]; rfl
          go_wp2
          refine wp_loop_rounds 1 ?_
          rw [rounds_succ]
          go_wp2_with fail
          refine (Wrd.specWrap (r + c) _).mono ?_
          rintro e u3 ⟨rfl, rfl⟩
          have q0 : 0 ≤ (r + c) % 65536 ∧ (r + c) % 65536 < 65536 := by omega
          rw [← HD.out] at HX0
          clear HD
          generalize (r + c) % 65536 = t at q0 HX0 ⊢
          go_wp2
          exact ⟨⟨k + 1, t, by omega, by go_num, by first | rfl | go_num, q0.1, q0.2, HX0, HB⟩, by simp [intOf]; omega⟩
        obtain ⟨rfl, hc2⟩ := L4.out.resolve_left (fun e => m0 (by rw [← EM.out, e]; rfl))
        have HC2 := hide (fun (j : Nat) (y : Int) (hy : at_[j]? = some y) => cell_below HB.out (hc2 j y hy))
        clear hc2 L4
        go_wp2
        go_loopw [7, 8] (fun q i w2 => ∃ (j : Nat) (t : Int), j ≤ m ∧ i = .int .i64 j ∧ q = .int .i64 t ∧ 0 ≤ t ∧ t < 65536 ∧ Hid (monoVal vals (at_.drop j) t = mv) ∧ w2 = wr) (fun _ i _ => m - (intOf i).toNat)
        case atStart => exact ⟨0, c, by omega, rfl, rfl, by omega, by omega, EMV, rfl⟩
        case round =>
          obtain ⟨j, t, hj, rfl, rfl, t0, t1, HT, rfl⟩ := hrel
          by_cases jlt : j < m
          case neg =>
            have HD : Hid (t = mv) := (mono_end (by rw [EM.out]; omega) t).symm.trans HT.out
            go_wp2_with fail
            refine (Wrd.specWrap (r + t) _).mono ?_
            rintro e u3 ⟨rfl, rfl⟩
            have q0 : 0 ≤ (r + t) % 65536 ∧ (r + t) % 65536 < 65536 := by omega
            rw [← HD.out] at HX0
            clear HD
            generalize (r + t) % 65536 = t' at q0 HX0 ⊢
            go_wp2
            exact ⟨⟨k + 1, t', by omega, by go_num, by first | rfl | go_num, q0.1, q0.2, HX0, HB⟩, by simp [intOf]; omega⟩
          obtain ⟨y, ey⟩ : ∃ y, at_[j]? = some y := ⟨_, List.getElem?_eq_getElem (by rw [EM.out]; exact jlt)⟩
          have cy := HC2.out j y ey
          obtain ⟨ya, yb⟩ := mono_atom2 MO.out ey
          have lj : ((j : Nat) : Int) < (m : Nat) := by omega
          have NX := hide ((mono_step ey t).symm.trans HT.out)
          clear ey
          by_cases hin : y < vals.length
          · obtain ⟨p, rfl⟩ : ∃ p : Nat, y = p := ⟨y.toNat, (Int.toNat_of_nonneg ya).symm⟩
            obtain ⟨z, ez⟩ : ∃ z, vals[p]? = some z := ⟨_, List.getElem?_eq_getElem (by omega)⟩
            rw [val_in ez] at NX
            obtain ⟨z0, z1⟩ := words_mem WO.out z (List.mem_of_getElem? ez)
            obtain ⟨_, _, ov, ev, _, _, _, hv4⟩ := RV.out
            obtain ⟨rfl, hv⟩ := hv4.resolve_left (fun e => by rw [e] at ez; simp at ez)
            simp only [Value.slice.injEq] at ev
            obtain ⟨rfl, -, rfl⟩ := ev
            have cz := hv p z ez
            have lt1 : t * z ≤ 4294967296 := by
              have : t * z ≤ 65536 * 65536 := Int.mul_le_mul (by omega) (by omega) z0 (by omega)
              omega
            have lt0 : 0 ≤ t * z := Int.mul_nonneg t0 z0
            clear hv hv4 ez
            go_wp2_with fail
            refine (Wrd.specWrap (t * z) _).mono ?_
            rintro e u3 ⟨rfl, rfl⟩
            have q0 : 0 ≤ t * z % 65536 ∧ t * z % 65536 < 65536 := by omega
            clear lt0 lt1
            generalize t * z % 65536 = t' at q0 NX ⊢
            go_wp2
            exact ⟨⟨j + 1, t', by omega, by go_num, by first | rfl | go_num, q0.1, q0.2, NX, trivial⟩, by simp [intOf]; omega⟩
          · rw [val_out hin] at NX
            have hin' : ¬ y < (vals.length : Int) := hin
            have tz : t * 0 = 0 := Int.mul_zero t
            go_wp2_with fail
            refine (Wrd.specWrap _ _).mono ?_
            rintro e u3 ⟨rfl, rfl⟩
            go_wp2
            exact ⟨⟨j + 1, 0, by omega, by go_num, by first | rfl | go_num, by omega, by omega, (by rw [Int.mul_zero] at NX; exact NX), trivial⟩, by simp [intOf]; omega⟩
end Go.Proofs.Ytagfgbkclopoeaa.Pol
namespace Go.Proofs.Ytagfgbkclopoeaa.Tab
set_option linter.unusedVariables false
open Go.ChangeShapes Go.WideShapes Go.ChangeAt Go.RowKit IntS Pol
/-- The word at a place; 0, if there is none. -/
def atI (xs : List Int) (k : Int) : Int := if 0 ≤ k ∧ k < xs.length then xs.getD k.toNat 0 else 0
theorem at_no {xs : List Int} {k : Int} (h : ¬ (0 ≤ k ∧ k < xs.length)) : atI xs k = 0 := if_neg h
theorem at_yes {xs : List Int} {k : Nat} {x : Int} (h : xs[k]? = some x) : atI xs k = x := by
  have := (List.getElem?_eq_some_iff.1 h).1
  unfold atI
  rw [if_pos (by omega), Int.toNat_natCast]
  exact getD_at h
set_option maxHeartbeats 4000000 in
theorem wordAt (xs : List Int) (k : Int) (hk0 : 0 ≤ k) (hk1 : k ≤ 1000) (B : Nat) (v : Value) (w : World) (h : Row w B v xs) :
    Calls Try.prog 45 #[v, .int .i64 k] w fun e w' => e = .returned (.int .i64 (atI xs k)) ∧ w' = w := by
  obtain ⟨a, cap, off, rfl, h2, h3, hz, h4⟩ := h
  unfold maxLen at h3
  obtain ⟨k, rfl⟩ := Int.eq_ofNat_of_zero_le hk0
  by_cases hlt : k < xs.length
  · obtain ⟨x, ex⟩ : ∃ x, xs[k]? = some x := ⟨_, List.getElem?_eq_getElem hlt⟩
    obtain ⟨rfl, hc⟩ := h4.resolve_left (fun e => by rw [e] at ex; simp at ex)
    have cx := hc k x ex
    have HD := hide (at_yes ex)
    clear hc ex hz
    generalize xs.length = n at *
    have lk : ((k : Nat) : Int) < (n : Nat) := by omega
    go_enter Try.func45, Try.ntmps45
    go_wp2
    go_ret
    exact ⟨Wrd.ret_int HD.out.symm, rfl⟩
  · have HD := hide (at_no (xs := xs) (k := k) (by omega))
    clear h4 hz
    generalize xs.length = n at *
    have lk : ¬ ((k : Nat) : Int) < (n : Nat) := by omega
    go_enter Try.func45, Try.ntmps45
    go_wp2
    go_ret
    exact ⟨Wrd.ret_int HD.out.symm, rfl⟩
set_option maxHeartbeats 4000000 in
theorem l5At (xs : List Int) (k : Int) (hk0 : 0 ≤ k) (hk1 : k ≤ 1000) (B : Nat) (v : Value) (w : World) (h : Row w B v xs) :
    Calls Try.prog 40 #[v, .int .i64 k] w fun e w' => e = .returned (.int .i64 (atI xs k)) ∧ w' = w := by
  obtain ⟨a, cap, off, rfl, h2, h3, hz, h4⟩ := h
  unfold maxLen at h3
  obtain ⟨k, rfl⟩ := Int.eq_ofNat_of_zero_le hk0
  have k0 : ¬ ((k : Nat) : Int) < 0 := by omega
  by_cases hlt : k < xs.length
  · obtain ⟨x, ex⟩ : ∃ x, xs[k]? = some x := ⟨_, List.getElem?_eq_getElem hlt⟩
    obtain ⟨rfl, hc⟩ := h4.resolve_left (fun e => by rw [e] at ex; simp at ex)
    have cx := hc k x ex
    have HD := hide (at_yes ex)
    clear hc ex hz
    generalize xs.length = n at *
    have lk : ((k : Nat) : Int) < (n : Nat) := by omega
    go_enter Try.func40, Try.ntmps40
    go_wp2
    go_ret
    exact ⟨Wrd.ret_int HD.out.symm, rfl⟩
  · have HD := hide (at_no (xs := xs) (k := k) (by omega))
    clear h4 hz
    generalize xs.length = n at *
    have lk : ¬ ((k : Nat) : Int) < (n : Nat) := by omega
    go_enter Try.func40, Try.ntmps40
    go_wp2
    go_ret
    exact ⟨Wrd.ret_int HD.out.symm, rfl⟩
end Go.Proofs.Ytagfgbkclopoeaa.Tab
namespace Go.Proofs.Ytagfgbkclopoeaa.Tab
set_option linter.unusedVariables false
open Go.ChangeShapes Go.WideShapes Go.ChangeAt Go.RowKit Go.Shelf IntS Pol Rng
theorem rows_kok {ts : List At} {k : Nat} (h : ∀ j, j < k → rowT ts j = true) {j : Nat} {s : At} (hj : j < k) (hs : ts[j]? = some s) : KOk s := by
  have h1 := h j hj
  unfold rowT at h1
  rw [getD_atom hs, Bool.and_eq_true] at h1
  exact atom_kok h1.1
theorem has_same {ts : List At} {k : Nat} {t : At} (hk : k ≤ ts.length) (h : ∀ j, j < k → rowT ts j = true) (ht : KOk t) (hno : ((ts.take k).any fun s => decide (keyB s = keyB t)) = false) : ∀ (j : Nat) s, j < k → ts[j]? = some s → sameB s t = false := fun j s hj hs => by
  rw [same_key (rows_kok h hj hs) ht]
  rw [List.any_eq_false] at hno
  have hm : s ∈ ts.take k := List.mem_of_getElem? (i := j) (by rw [List.getElem?_take, if_pos hj]; exact hs)
  simpa using hno s hm
theorem has_found {ts : List At} {k : Nat} {t : At} (hk : k ≤ ts.length) (h : ∀ j, j < k → rowT ts j = true) (ht : KOk t) (hyes : ((ts.take k).any fun s => decide (keyB s = keyB t)) = true) : ∃ (j : Nat) (s : At), j < k ∧ ts[j]? = some s ∧ sameB s t = true := by
  rw [List.any_eq_true] at hyes
  obtain ⟨s, hm, he⟩ := hyes
  obtain ⟨j, hj⟩ := List.getElem?_of_mem hm
  rw [List.getElem?_take] at hj
  by_cases e : j < k
  · rw [if_pos e] at hj
    exact ⟨j, s, e, hj, by rw [same_key (rows_kok h e hj) ht]; exact he⟩
  · rw [if_neg e] at hj
    cases hj
set_option maxRecDepth 8000 in
set_option maxHeartbeats 16000000 in
theorem placesOf (ts : List At) (B : Nat) (v : Value) (w : World) (h : TRow w B v ts) :
    Calls Try.prog 29 #[.agg #[v]] w fun e w' => ∃ mv, e = .returned (.tuple #[mv, .bool (tabB ts)]) ∧ (tabB ts = true → ∃ b, mv = .map (some b) ∧ TMap w' b ts ∧ w.heap.size ≤ b) ∧ Below w.heap.size w w' := by
  obtain ⟨a, cap, off, rfl, h2, h3, hz, h4⟩ := h
  unfold maxLen at h3
  clear hz
  have bV : Below w.heap.size w (w.alloc (.cells #[.slice a ts.length cap] 34)) := (Below.refl _ _).alloc (Nat.le_refl _) _
  have BW := hide bV
  have ZZ : Hid ((w.alloc (.cells #[.slice a ts.length cap] 34)).cell? ⟨w.heap.size, 0, none⟩ = some (.slice a ts.length cap)) := show _ = _ by rw [World.cell?_alloc_new]; rfl
  have SZ : Hid ((w.alloc (.cells #[.slice a ts.length cap] 34)).heap.size = w.heap.size + 1) := show _ = _ by simp
  have H4 := hide h4
  clear bV h4
  obtain ⟨RES, eRES⟩ : ∃ r, tabB ts = r := ⟨_, rfl⟩
  rw [eRES]
  have ER := hide eRES
  clear eRES
  by_cases hl : ts.length ≤ 200
  case neg =>
    have HD : Hid (RES = false) := ER.out.symm.trans (tab_long hl)
    generalize ts.length = n at *
    have hl' : ¬ ((n : Int) ≤ 200) := by omega
    go_enter Try.func29, Try.ntmps29
    go_wp2
    exact bodyPost_ret (v := .tuple #[.map none, .bool false]) (by simp [results, Try.results29, go_sem]) rfl ⟨_, by rw [HD.out], (fun h => by rw [HD.out] at h; cases h), BW.out⟩
  have HM : Hid (RES = (List.range ts.length).all (rowT ts)) := ER.out.symm.trans (tab_rows hl)
  clear ER
  obtain ⟨n, en⟩ : ∃ n, ts.length = n := ⟨_, rfl⟩
  have EN := hide en
  rw [en] at h2 BW HM ZZ SZ hl ⊢
  clear en
  go_enter Try.func29, Try.ntmps29
  have bM : Below (w.alloc (.cells #[.slice a n cap] 34)).heap.size (w.alloc (.cells #[.slice a n cap] 34)) ((w.alloc (.cells #[.slice a n cap] 34)).alloc (.map #[] 0)) := (Below.refl _ _).alloc (Nat.le_refl _) _
  have TM0 := tmap_new (w.alloc (.cells #[.slice a n cap] 34))
  rw [SZ.out] at TM0
  have TM := hide TM0
  have m0 := cell_below bM ZZ.out
  have y0 := ZZ.out
  replace BW := hide (BW.out.trans (bM.mono BW.out.size))
  clear bM ZZ TM0
  have hmm := @run_makeMap Try.prog
  by_cases h0 : n = 0
  · subst h0
    have HD : Hid (RES = true) := HM.out.trans rfl
    obtain rfl : ts = [] := List.length_eq_zero_iff.1 EN.out
    go_wp2
    clear hmm
    generalize (w.alloc (.cells #[.slice a 0 cap] 34)).alloc (.map #[] 0) = V at TM BW m0 ⊢
    refine wp_loop_rounds 1 ?_
    rw [rounds_succ]
    go_wp2
    exact bodyPost_ret (v := .tuple #[.map (some (w.heap.size + 1)), .bool true]) (by simp [results, Try.results29, go_sem]) rfl ⟨_, by rw [HD.out], (fun _ => ⟨_, rfl, TM.out, by omega⟩), BW.out⟩
  obtain ⟨rfl, hc⟩ := H4.out.resolve_left (fun e => h0 (by rw [← EN.out, e]; rfl))
  have HC := hide hc
  clear hc H4
  go_wp2
  clear hmm
  generalize (w.alloc (.cells #[.slice (some ⟨B, off, none⟩) n cap] 34)).alloc (.map #[] 0) = V at TM BW m0 ⊢
  clear m0 y0
  go_loopw [18] (fun i wr => ∃ k : Nat, k ≤ n ∧ i = .int .i64 k ∧ Hid (∀ j, j < k → rowT ts j = true) ∧ Hid (TMap wr (w.heap.size + 1) (ts.take k)) ∧ Hid (Below w.heap.size w wr)) (fun i _ => n - (intOf i).toNat)
  case atStart => exact ⟨0, by omega, rfl, (fun j hj => by omega), TM, BW⟩
  case round =>
    obtain ⟨k, hk, rfl, HE, HT, HB⟩ := hrel
    clear TM BW
    by_cases hlt : k < n
    case neg =>
      have HD : Hid (RES = true) := HM.out.trans (all_yes fun j hj => HE.out j (by omega))
      have ek : ts.take k = ts := by rw [List.take_of_length_le]; rw [EN.out]; omega
      rw [ek] at HT
      clear ek
      go_wp2
      exact bodyPost_ret (v := .tuple #[.map (some (w.heap.size + 1)), .bool true]) (by simp [results, Try.results29, go_sem]) rfl ⟨_, by rw [HD.out], (fun _ => ⟨_, rfl, HT.out, by omega⟩), HB.out⟩
    obtain ⟨t, et⟩ : ∃ t, ts[k]? = some t := ⟨_, List.getElem?_eq_getElem (by rw [EN.out]; exact hlt)⟩
    obtain ⟨c0, c1, qx, cx, bx, qy, cy, b, c2, px, c3, py⟩ := (HC.out k t et).below HB.out
    have ET := hide et
    have lk : ((k : Nat) : Int) < (n : Nat) := by omega
    have bA : Below wr.heap.size wr (wr.alloc (.cells #[.int .i64 t.kd, .int .i64 t.k, .slice qx t.x.length cx, .slice qy t.y.length cy] 42)) := (Below.refl _ _).alloc (Nat.le_refl _) _
    have RA := hide (Rec.new wr [.int .i64 t.kd, .int .i64 t.k, .slice qx t.x.length cx, .slice qy t.y.length cy] 42)
    have PX := hide (px.below bA)
    have PY := hide (py.below bA)
    replace HT := hide (HT.out.below bA)
    replace HB := hide (HB.out.trans (bA.mono HB.out.size))
    clear et px py bA
    go_wp2_with fail
    generalize wr.alloc (.cells #[.int .i64 t.kd, .int .i64 t.k, .slice qx t.x.length cx, .slice qy t.y.length cy] 42) = W1 at RA PX PY HT HB ⊢
    clear c0 c1 c2 c3
    refine (atomOk t k qx cx qy cy bx b _ PX.out PY.out).mono ?_
    rintro e u ⟨rfl, hb⟩
    replace RA := hide (RA.out.below hb)
    replace PX := hide (PX.out.below hb)
    replace PY := hide (PY.out.below hb)
    replace HT := hide (HT.out.below hb)
    replace HB := hide (HB.out.trans (hb.mono HB.out.size))
    clear hb
    cases ei : atomB t k with
    | false =>
      have HD : Hid (RES = false) := HM.out.trans (all_no hlt (row_atom ET.out ei))
      clear ei
      go_wp2
      exact bodyPost_ret (v := .tuple #[.map none, .bool false]) (by simp [results, Try.results29, go_sem]) rfl ⟨_, by rw [HD.out], (fun h => by rw [HD.out] at h; cases h), HB.out⟩
    | true =>
      have EI := hide ei
      have KO := hide (atom_kok ei)
      clear ei
      have c0 := RA.out.cell 0 _ rfl
      have c1 := RA.out.cell 1 _ rfl
      have c2 := RA.out.cell 2 _ rfl
      have c3 := RA.out.cell 3 _ rfl
      go_wp2_with fail
      refine (keyOf' t qx cx qy cy bx b _ PX.out PY.out KO.out.x KO.out.y).mono ?_
      rintro e u2 ⟨rfl, hb⟩
      have HK0 := key_of KO.out
      unfold kv at HK0 ⊢
      obtain ⟨X, eX⟩ : ∃ X, sumTxt t.x = X := ⟨_, rfl⟩
      obtain ⟨Y, eY⟩ : ∃ Y, sumTxt t.y = Y := ⟨_, rfl⟩
      rw [eX, eY] at HK0 ⊢
      have HK := hide HK0
      have bK : Below u2.heap.size u2 (u2.alloc (.cells #[.int .i64 t.kd, .int .i64 t.k, .string ⟨X.toArray⟩, .string ⟨Y.toArray⟩] 67)) := (Below.refl _ _).alloc (Nat.le_refl _) _
      have RK := Rec.new u2 [.int .i64 t.kd, .int .i64 t.k, .string ⟨X.toArray⟩, .string ⟨Y.toArray⟩] 67
      have HT2 := (HT.out.below hb).below bK
      have HB1 := HB.out.trans (hb.mono HB.out.size)
      have HB2 := hide (HB1.trans (bK.mono HB1.size))
      have RKH := hide RK
      clear HB1 c0 c1 c2 c3 eX eY HK0 hb bK RA PX PY HT HB
      obtain ⟨nn, D, hown, hnn, hhas, hat⟩ := HT2
      have HH := hide hhas
      have HA := hide hat
      have hkl : (ts.take k).length = k := by rw [List.length_take, EN.out]; omega
      have HKL := hide hkl
      rw [hkl] at hnn
      have k0 := RK.cell 0 _ rfl
      have k1 := RK.cell 1 _ rfl
      have k2 := RK.cell 2 _ rfl
      have k3 := RK.cell 3 _ rfl
      have wfK : (Lit.int .i64 (k : Int)).wf = true := wf_small (by omega) (by omega)
      clear hhas hat hkl RK RKH
      cases hh : Maps.has D (keyL t) with
      | true =>
        have HD : Hid (RES = false) := show _ = _ by
          have h5 := HH.out (keyB t)
          rw [show Lit.string (keyB t) = keyL t from rfl, hh] at h5
          obtain ⟨j, s, h6, h7, h8⟩ := has_found (by rw [EN.out]; omega) HE.out KO.out h5.symm
          exact HM.out.trans (all_no hlt (row_same ET.out h7 h6 h8))
        go_wp2_with (at_lookup; refine wpList_lookup_own_ok_int _ rfl _ _ 61 rfl 67 3 .i64 keyed Try.underlying61 Try.underlying3 (Try.zeroValue3 _) (w.heap.size + 1) nn D rfl hown _ _ rfl HK.out ?_; intro c0 hat0 hwc; rw [hh]; refine Hid.out ?_)
        refine hide ?_
        clear hat0 hwc hh
        go_wp2
        exact bodyPost_ret (v := .tuple #[.map none, .bool false]) (by simp [results, Try.results29, go_sem]) rfl ⟨_, by rw [HD.out], (fun h => by rw [HD.out] at h; cases h), HB2.out⟩
      | false =>
        have HN := hide hh
        have HE2 : Hid (∀ j, j < k + 1 → rowT ts j = true) := fun j hj => by
          by_cases ej : j = k
          · subst ej
            have h5 := HH.out (keyB t)
            rw [show Lit.string (keyB t) = keyL t from rfl, HN.out] at h5
            exact row_good ET.out EI.out (has_same (by rw [EN.out]; omega) HE.out KO.out h5.symm)
          · exact HE.out j (by omega)
        go_wp2_with (at_lookup; refine wpList_lookup_own_ok_int _ rfl _ _ 61 rfl 67 3 .i64 keyed Try.underlying61 Try.underlying3 (Try.zeroValue3 _) (w.heap.size + 1) nn D rfl hown _ _ rfl HK.out ?_; intro c0 hat0 hwc; rw [hh]; refine Hid.out ?_)
        refine hide ?_
        clear hat0 hwc hh
        go_wp2_with (at_mapUpdate; refine wpList_mapUpdate_own _ rfl _ _ _ 61 rfl 67 3 keyed Try.underlying61 _ (w.heap.size + 1) nn D rfl hown (by unfold maxLen; omega) _ _ _ rfl rfl HK.out (.lit (.int .i64 (k : Int))) [] (plainElem_int Try.underlying3 wfK) ?_; intro w3 hown3 hgrow3; refine Hid.out ?_)
        have hmap := hown.isMap
        rw [show (k : Int) = ((ts.take k).length : Int) by rw [HKL.out]] at hown3
        have TP := tmap_put (w := w3) hmap (by rw [HKL.out]; exact hnn) HH.out HA.out HN.out hown3
        have ek : ts.take k ++ [t] = ts.take (k + 1) := by rw [List.take_add_one, ET.out]; rfl
        rw [ek] at TP
        have TP2 := hide TP
        have HB3 := hide (HB2.out.trans ((Below.refl w.heap.size _).grown hgrow3 HB2.out.size (fun j e => by cases e; omega)))
        clear TP ek hmap hown3 hgrow3 hown HB2
        refine hide ?_
        go_wp2
        exact ⟨⟨k + 1, by omega, by go_num, HE2, TP2, HB3⟩, by simp [intOf]; omega⟩
theorem implTab (ts : List At) (B : Nat) (v : Value) (w : World) (h : TRow w B v ts) :
    Calls Try.prog 43 #[.agg #[v]] w fun e w' => e = .returned (.bool (tabB ts)) ∧ Below w.heap.size w w' := by
  have bV : Below w.heap.size w (w.alloc (.cells #[v] 34)) := (Below.refl _ _).alloc (Nat.le_refl _) _
  have H := hide (h.below bV)
  have BW := hide bV
  obtain ⟨a, cap, off, rfl, _⟩ := h
  clear bV
  go_enter Try.func43, Try.ntmps43
  go_wp2_with fail
  refine (placesOf ts B _ _ H.out).mono ?_
  rintro e u ⟨mv, rfl, -, hb⟩
  replace BW := hide (BW.out.trans (hb.mono BW.out.size))
  clear hb
  go_wp2
  go_ret
  exact ⟨rfl, BW.out⟩
end Go.Proofs.Ytagfgbkclopoeaa.Tab
namespace Go.Proofs.Ytagfgbkclopoeaa.Tab
set_option linter.unusedVariables false
open Go.ChangeShapes Go.WideShapes Go.ChangeAt Go.RowKit Go.Shelf IntS Pol Rng
def valOf (regs loads ins : List Int) (t : At) (vals : List Int) : Int := if t.kd = 1 then atI regs t.k else if t.kd = 2 then atI loads t.k else if t.kd = 3 then atI ins t.k else Wrd.wdo t.k (evalP t.x vals) (evalP t.y vals)
def valsGo (regs loads ins : List Int) : List At → List Int → List Int
  | [], vals => vals
  | t :: r, vals => valsGo regs loads ins r (vals ++ [valOf regs loads ins t vals])
theorem valsGo_app (regs loads ins : List Int) : ∀ (a b : List At) (vals : List Int), valsGo regs loads ins (a ++ b) vals = valsGo regs loads ins b (valsGo regs loads ins a vals)
  | [], b, vals => rfl
  | t :: a, b, vals => valsGo_app regs loads ins a b _
theorem vals_next {regs loads ins : List Int} {ts : List At} {k : Nat} {t : At} (h : ts[k]? = some t) : valsGo regs loads ins (ts.take (k + 1)) [] = valsGo regs loads ins (ts.take k) [] ++ [valOf regs loads ins t (valsGo regs loads ins (ts.take k) [])] := by
  rw [List.take_add_one, h, valsGo_app]
  rfl
theorem valsGo_len (regs loads ins : List Int) : ∀ (a : List At) (vals : List Int), (valsGo regs loads ins a vals).length = vals.length + a.length
  | [], vals => rfl
  | t :: a, vals => by
    show (valsGo regs loads ins a _).length = _
    rw [valsGo_len]
    simp
    omega
theorem own_row {w : World} {base : Nat} {v : Value} {xs : List Int} (h : IntS.Own w base v xs) : ∃ B, Row w B v xs := by
  by_cases e : v = .slice none 0 0
  · subst e
    obtain ⟨hl, h0 | ⟨g, cap, cur, hv, _⟩⟩ := h
    · have : xs = [] := List.length_eq_zero_iff.1 h0.2
      subst this
      exact ⟨0, (nil_row w 0).row⟩
    · cases hv
  · obtain ⟨g, cap, e1, _, _, W⟩ := h.form e
    exact ⟨g, W.row⟩
theorem own_below {w w' : World} {base : Nat} {v : Value} {xs : List Int} (h : IntS.Own w base v xs) (hb : Below w.heap.size w w') : IntS.Own w' base v xs := Srt.owns_mild (B := 0) h (Mild.of_below hb)
/-- An int appended to a list of ints that the call made, nil too. -/
theorem wpList_pushV {w : World} {ops : Array Oper} {rest : List Oper} {o : Oper} {a : Act} {Q : Exit → Act → World → Prop} (hgd : o.guard = none) (s x : Operand)
    (ho : o.op = .call { callee := .builtin .append, args := #[s, x], argTypes := #[49, 49] })
    (base : Nat) (v : Value) (xs : List Int) (hs : a.eval s = v) (hown : IntS.Own w base v xs) (hb : base ≤ w.heap.size)
    (ad : Addr) (y : Int) (hx : a.eval x = .slice (some ad) 1 1) (hc : w.cell? (ad.add 0) = some (.int .i64 y)) (hl : xs.length ≤ 1000000)
    (h : ∀ (v' : Value) (w' : World), Hid (IntS.Own w' base v' (xs ++ [y])) → Hid (Below base w w') → wpList Try.prog ops Q rest (a.put o.dst v') w') : wpList Try.prog ops Q (o :: rest) a w := by
  obtain ⟨i0, hi, hz, hsz, hby⟩ := info_int
  have hlt := hown.lt
  refine wpList_append_own w hgd s x 49 ho base 3 i0 (.int .i64 0) 1 8 Try.underlying49 hi hz hsz hby rfl (by decide) v xs.length (vals xs) hs hown ad 1 1 [.int .i64 y] hx rfl (fun j u hu => ?_) (fun u hu => by simp at hu; subst hu; rfl) (by unfold maxLen; omega) (by omega) hb fun v' w' h1 h2 h3 => ?_
  · match j, hu with
    | 0, hu => cases hu; exact hc
    | j + 1, hu => simp at hu
  · have g1 : IntS.Own w' base v' (xs ++ [y]) := by
      unfold IntS.Own
      rw [List.length_append, show vals (xs ++ [y]) = vals xs ++ [.int .i64 y] by simp [vals]]
      exact h1
    exact h v' w' g1 ((Below.refl base w).grown h2 hb (fun k e => (hlt k e).1))
end Go.Proofs.Ytagfgbkclopoeaa.Tab
