/-
  What a sum comes to: the program's partComesTo and PolEval, and the specification's PolEval.
-/
import Derived.Test.YtckhfpaicnjknaaGreatPolW
namespace Go.Proofs.YtckhfpaicnjknaaGreat.Pol
open Go.ChangeShapes Go.WideShapes Go.ChangeAt Go.RowKit IntS
def valAt (vals : List Int) (k : Int) : Int := if k < vals.length then vals.getD k.toNat 0 else 0
def evalP (ps : List Mono) (vals : List Int) : Int := if okP ps = true ∧ wordsB vals = true then sumVal vals ps 0 else 0
theorem mono_nil (vals : List Int) (c : Int) : monoVal vals [] c = c := rfl
theorem mono_step {vals at_ : List Int} {j : Nat} {y : Int} (h : at_[j]? = some y) (c : Int) : monoVal vals (at_.drop j) c = monoVal vals (at_.drop (j + 1)) (c * valAt vals y % 65536) := by
  rw [drop_cons h]
  rfl
theorem mono_zero (vals : List Int) : ∀ l : List Int, monoVal vals l 0 = 0
  | [] => rfl
  | k :: l => by rw [monoVal, Int.zero_mul]; exact mono_zero vals l
theorem mono_none {vals at_ : List Int} {j : Nat} {y : Int} (h : at_[j]? = some y) (c : Int) (hy : ¬ y < vals.length) : monoVal vals (at_.drop j) c = 0 := by
  rw [mono_step h]
  unfold valAt
  rw [if_neg hy, Int.mul_zero]
  exact mono_zero vals _
theorem mono_end {vals at_ : List Int} {j : Nat} (h : at_.length ≤ j) (c : Int) : monoVal vals (at_.drop j) c = c := by rw [List.drop_eq_nil_of_le h]; rfl
theorem sum_step {vals : List Int} {ps : List Mono} {k : Nat} {x : Mono} (h : ps[k]? = some x) (n : Int) : sumVal vals (ps.drop k) n = sumVal vals (ps.drop (k + 1)) ((n + monoVal vals x.2 x.1) % 65536) := by
  rw [drop_cons h]
  rfl
theorem sum_end {vals : List Int} {ps : List Mono} {k : Nat} (h : ps.length ≤ k) (n : Int) : sumVal vals (ps.drop k) n = n := by rw [List.drop_eq_nil_of_le h]; rfl
theorem eval_no {ps : List Mono} {vals : List Int} (h : ¬ (okP ps = true ∧ wordsB vals = true)) : evalP ps vals = 0 := if_neg h
theorem eval_yes {ps : List Mono} {vals : List Int} (h1 : okP ps = true) (h2 : wordsB vals = true) : evalP ps vals = sumVal vals ps 0 := if_pos ⟨h1, h2⟩
theorem val_bd {vals : List Int} (h : wordsB vals = true) (k : Int) : 0 ≤ valAt vals k ∧ valAt vals k < 65536 := by
  unfold valAt
  split
  · rw [List.getD_eq_getElem?_getD]
    cases hx : vals[k.toNat]? with
    | none => simp
    | some x => exact words_mem h x (List.mem_of_getElem? hx)
  · omega
theorem val_in {vals : List Int} {k : Nat} {x : Int} (h : vals[k]? = some x) : valAt vals k = x := by
  unfold valAt
  rw [if_pos (by have := (List.getElem?_eq_some_iff.1 h).1; omega), Int.toNat_natCast]
  exact getD_at h
theorem val_out {vals : List Int} {k : Int} (h : ¬ k < vals.length) : valAt vals k = 0 := if_neg h
theorem mono_bd {vals : List Int} : ∀ (l : List Int) (c : Int), 0 ≤ c → c < 65536 → 0 ≤ monoVal vals l c ∧ monoVal vals l c < 65536
  | [], c, h0, h1 => ⟨h0, h1⟩
  | k :: l, c, h0, h1 => by rw [monoVal]; exact mono_bd l _ (by omega) (by omega)
theorem ok_mono {ps : List Mono} {k : Nat} {x : Mono} (h : okP ps = true) (hx : ps[k]? = some x) : monoB x = true := by
  unfold okP at h
  simp only [Bool.and_eq_true] at h
  have := all_at h.2 (List.getElem?_eq_some_iff.1 hx).1
  unfold partAt at this
  simp only [Bool.and_eq_true] at this
  rw [getD_part hx] at this
  exact this.1
theorem mono_coef2 {c : Int} {at_ : List Int} (h : monoB (c, at_) = true) : 1 ≤ c ∧ c ≤ 65535 := by
  unfold monoB at h
  simp only [Bool.and_eq_true] at h
  exact of_decide_eq_true h.1.1
theorem mono_atom2 {c : Int} {at_ : List Int} (h : monoB (c, at_) = true) {j : Nat} {y : Int} (hy : at_[j]? = some y) : 0 ≤ y ∧ y < 200 := by
  unfold monoB at h
  simp only [Bool.and_eq_true] at h
  have := all_at h.2 (List.getElem?_eq_some_iff.1 hy).1
  simp only [Bool.and_eq_true] at this
  have h2 := this.1
  unfold atomAt at h2
  rw [getD_at hy] at h2
  exact of_decide_eq_true h2
set_option maxRecDepth 4000 in
set_option maxHeartbeats 8000000 in
theorem partComesTo (c : Int) (at_ vals : List Int) (B B' : Nat) (v v' : Value) (w : World) (h : Row w B v at_) (h' : Row w B' v' vals) (hm : monoB (c, at_) = true) (hw : wordsB vals = true) :
    Calls Tryz.prog 44 #[.agg #[.int .i64 c, v], v'] w fun e w' => e = .returned (.int .i64 (monoVal vals at_ c)) ∧ Below w.heap.size w w' := by
  obtain ⟨a, cap, off, rfl, h2, h3, hz, h4⟩ := h
  obtain ⟨a', cap', off', rfl, h2', h3', hz', h4'⟩ := h'
  unfold maxLen at h3 h3'
  clear hz hz'
  have bV : Below w.heap.size w (w.alloc (.cells #[.int .i64 c, .slice a at_.length cap] 55)) := (Below.refl _ _).alloc (Nat.le_refl _) _
  have BW := hide bV
  clear bV
  have HMo := hide hm
  have HWo := hide hw
  have c0 := mono_coef2 hm
  obtain ⟨R, eR⟩ : ∃ R, monoVal vals at_ c = R := ⟨_, rfl⟩
  rw [eR]
  have ER := hide eR
  clear eR hm hw
  obtain ⟨n, en⟩ : ∃ n, at_.length = n := ⟨_, rfl⟩
  have EN := hide en
  rw [en] at h2 BW ⊢
  have H4 := hide h4
  have H4' := hide h4'
  clear en h4 h4'
  go_enter Tryz.func44, Tryz.ntmps44
  by_cases n0 : n = 0
  · subst n0
    have HD : Hid (c = R) := show _ = _ by rw [← ER.out, List.length_eq_zero_iff.1 EN.out]; rfl
    go_wp2
    refine wp_loop_rounds 1 ?_
    rw [rounds_succ]
    go_wp2
    go_ret
    exact ⟨ret_int HD.out, BW.out⟩
  · obtain ⟨rfl, hc⟩ := H4.out.resolve_left (fun e => n0 (by rw [← EN.out, e]; rfl))
    have HC := hide hc
    clear hc H4
    go_wp2
    have bb := (Below.refl w.heap.size w).alloc (Nat.le_refl _) (.cells #[.int .i64 c, .slice (some ⟨B, off, none⟩) n cap] 55)
    have HV := hide (fun (k : Nat) (x : Int) (hx : at_[k]? = some x) => cell_below bb (HC.out k x hx))
    have HV' : Hid (vals = [] ∨ (a' = some ⟨B', off', none⟩ ∧ ∀ (i : Nat) x, vals[i]? = some x → (w.alloc (.cells #[.int .i64 c, .slice (some ⟨B, off, none⟩) n cap] 55)).cell? ⟨B', off' + i, none⟩ = some (.int .i64 x))) := H4'.out.imp id (fun q => ⟨q.1, fun i x hx => cell_below bb (q.2 i x hx)⟩)
    clear bb H4'
    generalize w.alloc (.cells #[.int .i64 c, .slice (some ⟨B, off, none⟩) n cap] 55) = V at BW HV HV' ⊢
    go_loopw [5, 13] (fun q i wr => ∃ (j : Nat) (r : Int), j ≤ n ∧ i = .int .i64 j ∧ q = .int .i64 r ∧ 0 ≤ r ∧ r < 65536 ∧ Hid (monoVal vals (at_.drop j) r = R) ∧ Hid (Below V.heap.size V wr)) (fun _ i _ => n - (intOf i).toNat)
    case atStart => exact ⟨0, c, by omega, rfl, rfl, by omega, by omega, ER, Below.refl _ _⟩
    case round =>
      obtain ⟨j, r, hj, rfl, rfl, r0, r1, HR, HB⟩ := hrel
      by_cases hlt : j < n
      case neg =>
        have HD : Hid (r = R) := (mono_end (by rw [EN.out]; omega) r).symm.trans HR.out
        go_wp2
        go_ret
        exact ⟨ret_int HD.out, BW.out.trans (HB.out.mono BW.out.size)⟩
      obtain ⟨y, ey⟩ : ∃ y, at_[j]? = some y := ⟨_, List.getElem?_eq_getElem (by rw [EN.out]; exact hlt)⟩
      have cy := cell_below HB.out (HV.out j y ey)
      obtain ⟨y0, y1⟩ := mono_atom2 HMo.out ey
      have lj : ((j : Nat) : Int) < (n : Nat) := by omega
      by_cases hin : y < vals.length
      case neg =>
        have HD : Hid (R = 0) := HR.out.symm.trans (mono_none ey r hin)
        have hin' : (vals.length : Int) ≤ y := by omega
        clear ey hin
        go_wp2
        go_ret
        exact ⟨ret_int HD.out.symm, BW.out.trans (HB.out.mono BW.out.size)⟩
      obtain ⟨m, rfl⟩ : ∃ m : Nat, y = m := ⟨y.toNat, (Int.toNat_of_nonneg y0).symm⟩
      obtain ⟨z, ez⟩ : ∃ z, vals[m]? = some z := ⟨_, List.getElem?_eq_getElem (by omega)⟩
      have hv := HV'.out.resolve_left (fun e => by rw [e] at ez; simp at ez)
      obtain ⟨rfl, hv⟩ := hv
      have cz := cell_below HB.out (hv m z ez)
      have HX0 := hide ((mono_step ey r).symm.trans HR.out)
      rw [val_in ez] at HX0
      obtain ⟨z0, z1⟩ := words_mem HWo.out z (List.mem_of_getElem? ez)
      have hin' : ¬ (vals.length : Int) ≤ (m : Nat) := by omega
      clear ey hv ez
      go_wp2_with fail
      refine (Wrd.implDo_mul r z _ r0 r1 z0 z1).mono ?_
      rintro e u ⟨rfl, hb⟩
      have HB2 := hide (HB.out.trans (hb.mono HB.out.size))
      have q0 : 0 ≤ r * z % 65536 ∧ r * z % 65536 < 65536 := by omega
      clear hb cy cz
      generalize r * z % 65536 = t at q0 HX0 ⊢
      go_wp2
      exact ⟨⟨j + 1, t, by omega, by go_num, by first | rfl | go_num, q0.1, q0.2, HX0, HB2⟩, by simp [intOf]; omega⟩
set_option maxRecDepth 4000 in
set_option maxHeartbeats 8000000 in
theorem implEval (ps : List Mono) (vals : List Int) (B B' : Nat) (v v' : Value) (w : World) (h : PRow w B v ps) (h' : Row w B' v' vals) :
    Calls Tryz.prog 16 #[.agg #[v], v'] w fun e w' => e = .returned (.int .i64 (evalP ps vals)) ∧ Below w.heap.size w w' := by
  have bV : Below w.heap.size w (w.alloc (.cells #[v] 25)) := (Below.refl _ _).alloc (Nat.le_refl _) _
  have z0 : (w.alloc (.cells #[v] 25)).cell? ⟨w.heap.size, 0, none⟩ = some v := by rw [World.cell?_alloc_new]; rfl
  have H := hide (h.below bV)
  have H' := hide (h'.below bV)
  have BW := hide bV
  obtain ⟨a, cap, off, rfl, h2, h3, _⟩ := h
  obtain ⟨a', cap', off', rfl, h2', h3', _⟩ := h'
  unfold maxLen at h3 h3'
  clear bV
  obtain ⟨R, eR⟩ : ∃ R, evalP ps vals = R := ⟨_, rfl⟩
  rw [eR]
  have ER := hide eR
  clear eR
  go_enter Tryz.func16, Tryz.ntmps16
  go_wp2_with fail
  generalize w.alloc (.cells #[.slice a ps.length cap] 25) = V0 at z0 H H' BW ⊢
  go_wp2_with fail
  refine (implOk ps B _ _ H.out).mono ?_
  rintro e V ⟨rfl, hb⟩
  have y0 := cell_below hb z0
  replace H := hide (H.out.below hb)
  replace H' := hide (H'.out.below hb)
  replace BW := hide (BW.out.trans (hb.mono BW.out.size))
  clear hb z0
  cases ok : okP ps with
  | false =>
    have HD : Hid (R = 0) := ER.out.symm.trans (eval_no (fun h => by rw [ok] at h; exact absurd h.1 (by decide)))
    clear ok
    go_wp2
    go_ret
    exact ⟨ret_int HD.out.symm, BW.out⟩
  | true =>
    have OK := hide ok
    clear ok
    go_wp2_with fail
    refine (allWords vals B' _ _ H'.out).mono ?_
    rintro e u ⟨rfl, rfl⟩
    cases wo : wordsB vals with
    | false =>
      have HD : Hid (R = 0) := ER.out.symm.trans (eval_no (fun h => by rw [wo] at h; exact absurd h.2 (by decide)))
      clear wo
      go_wp2
      go_ret
      exact ⟨ret_int HD.out.symm, BW.out⟩
    | true =>
      have WO := hide wo
      replace ER : Hid (sumVal vals ps 0 = R) := (eval_yes OK.out WO.out).symm.trans ER.out
      clear wo
      obtain ⟨n, en⟩ : ∃ n, ps.length = n := ⟨_, rfl⟩
      have EN := hide en
      have YY := hide y0
      rw [en] at h2 y0 YY H
      rw [en]
      clear en
      by_cases n0 : n = 0
      · subst n0
        have HD : Hid (R = 0) := show _ = _ by rw [← ER.out, List.length_eq_zero_iff.1 EN.out]; rfl
        go_wp2
        refine wp_loop_rounds 1 ?_
        rw [rounds_succ]
        go_wp2
        go_ret
        exact ⟨ret_int HD.out.symm, BW.out⟩
      obtain ⟨_, _, offa, ea, _, _, _, ha4⟩ := H.out
      obtain ⟨rfl, hc⟩ := ha4.resolve_left (fun e => n0 (by rw [← EN.out, e]; rfl))
      simp only [Value.slice.injEq] at ea
      obtain ⟨rfl, -, rfl⟩ := ea
      have HC := hide hc
      clear hc ha4 H
      go_wp2
      clear y0
      go_loopw [5, 19] (fun q i wr => ∃ (k : Nat) (r : Int), k ≤ n ∧ i = .int .i64 k ∧ q = .int .i64 r ∧ 0 ≤ r ∧ r < 65536 ∧ Hid (sumVal vals (ps.drop k) r = R) ∧ Hid (Below u.heap.size u wr)) (fun _ i _ => n - (intOf i).toNat)
      case atStart => exact ⟨0, 0, by omega, rfl, rfl, by omega, by omega, ER, Below.refl _ _⟩
      case round =>
        obtain ⟨k, r, hk, rfl, rfl, r0, r1, HR, HB⟩ := hrel
        by_cases hlt : k < n
        case neg =>
          have HD : Hid (r = R) := (sum_end (by rw [EN.out]; omega) r).symm.trans HR.out
          go_wp2
          go_ret
          exact ⟨ret_int HD.out, BW.out.trans (HB.out.mono BW.out.size)⟩
        obtain ⟨x, ex⟩ : ∃ x, ps[k]? = some x := ⟨_, List.getElem?_eq_getElem (by rw [EN.out]; exact hlt)⟩
        obtain ⟨c, at_⟩ := x
        obtain ⟨g1, s, b, g2, g3⟩ := HC.out k _ ex
        have cx := cell_below HB.out g1
        have sx := cell_below HB.out g2
        have RX := hide (g3.below HB.out)
        have MO := hide (ok_mono OK.out ex)
        have HX0 := hide ((sum_step (vals := vals) ex r).symm.trans HR.out)
        obtain ⟨qa, ca, oa, rfl, l2, l3, _, l4⟩ := g3
        simp only [] at cx sx RX HX0 l2 l4
        have lk : ((k : Nat) : Int) < (n : Nat) := by omega
        clear ex g1 g2
        clear l2 l3 l4
        have bX := (Below.refl wr.heap.size wr).alloc (Nat.le_refl _) (.cells #[.int .i64 c, .slice qa at_.length ca] 55)
        replace RX := hide (RX.out.below bX)
        have HU := hide (HB.out.trans (bX.mono HB.out.size))
        have RV := hide (H'.out.below HU.out)
        clear bX
        go_wp2_with fail
        refine (partComesTo c at_ vals b B' _ _ _ RX.out RV.out MO.out WO.out).mono ?_
        rintro e u2 ⟨rfl, hb⟩
        obtain ⟨c0, c1⟩ := mono_coef2 MO.out
        obtain ⟨m0, m1⟩ := mono_bd (vals := vals) at_ c (by omega) (by omega)
        replace HU := hide (HU.out.trans (hb.mono HU.out.size))
        clear hb RX RV cx sx c0 c1
        generalize monoVal vals at_ c = m at m0 m1 HX0 ⊢
        go_wp2_with fail
        refine (Wrd.implDo_add r m _ r0 r1 m0 m1).mono ?_
        rintro e u3 ⟨rfl, hb⟩
        replace HU := hide (HU.out.trans (hb.mono HU.out.size))
        have q0 : 0 ≤ (r + m) % 65536 ∧ (r + m) % 65536 < 65536 := by omega
        clear hb
        generalize (r + m) % 65536 = t at q0 HX0 ⊢
        go_wp2
        exact ⟨⟨k + 1, t, by omega, by go_num, by first | rfl | go_num, q0.1, q0.2, HX0, HU⟩, by simp [intOf]; omega⟩
end Go.Proofs.YtckhfpaicnjknaaGreat.Pol
