/-
  A sum so many times: the specification's PolScale.
-/
import Derived.Test.YtckhfpaicnjknaaGreatPolU
namespace Go.Proofs.YtckhfpaicnjknaaGreat.Pol
open Go.ChangeShapes Go.WideShapes Go.ChangeAt Go.RowKit IntS
def scaleL (n : Int) : List Mono → List Mono
  | [] => []
  | x :: r => if 0 < x.1 * n % 65536 then (x.1 * n % 65536, x.2) :: scaleL n r else scaleL n r
def scaleP (ps : List Mono) (n : Int) : List Mono := if okP ps = true ∧ Wrd.wok n = true then scaleL n ps else []
theorem scale_no {ps : List Mono} {n : Int} (h : ¬ (okP ps = true ∧ Wrd.wok n = true)) : scaleP ps n = [] := if_neg h
theorem scale_yes {ps : List Mono} {n : Int} (h1 : okP ps = true) (h2 : Wrd.wok n = true) : scaleP ps n = scaleL n ps := if_pos ⟨h1, h2⟩
theorem scale_keep {ps : List Mono} {n : Int} {k : Nat} {x : Mono} (h : ps[k]? = some x) (hc : 0 < x.1 * n % 65536) : scaleL n (ps.drop k) = (x.1 * n % 65536, x.2) :: scaleL n (ps.drop (k + 1)) := by rw [drop_cons h, scaleL, if_pos hc]
theorem scale_drop {ps : List Mono} {n : Int} {k : Nat} {x : Mono} (h : ps[k]? = some x) (hc : ¬ 0 < x.1 * n % 65536) : scaleL n (ps.drop k) = scaleL n (ps.drop (k + 1)) := by rw [drop_cons h, scaleL, if_neg hc]
theorem scale_end {ps : List Mono} {n : Int} {k : Nat} (h : ps.length ≤ k) : scaleL n (ps.drop k) = [] := by rw [List.drop_eq_nil_of_le h]; rfl
theorem scale_mem {n : Int} : ∀ (ps : List Mono) (x : Mono), x ∈ scaleL n ps → ∃ y ∈ ps, x.2 = y.2
  | [], x, h => by simp [scaleL] at h
  | y :: r, x, h => by
    rw [scaleL] at h
    split at h
    · rcases List.mem_cons.1 h with rfl | h
      · exact ⟨y, List.mem_cons_self .., rfl⟩
      · obtain ⟨z, hz, e⟩ := scale_mem r x h
        exact ⟨z, List.mem_cons_of_mem _ hz, e⟩
    · obtain ⟨z, hz, e⟩ := scale_mem r x h
      exact ⟨z, List.mem_cons_of_mem _ hz, e⟩
theorem scale_len {n : Int} : ∀ ps : List Mono, (scaleL n ps).length ≤ ps.length
  | [] => Nat.le_refl _
  | y :: r => by
    rw [scaleL]
    split
    · simp; exact scale_len r
    · exact Nat.le_trans (scale_len r) (by simp)
theorem ok_len {ps : List Mono} (h : okP ps = true) : ps.length ≤ 12 := by
  unfold okP at h
  simp only [Bool.and_eq_true] at h
  exact of_decide_eq_true h.1
theorem ok_atoms {ps : List Mono} (h : okP ps = true) {x : Mono} (hx : x ∈ ps) : x.2.length ≤ 4 := by
  obtain ⟨k, hk⟩ := List.getElem?_of_mem hx
  unfold okP at h
  simp only [Bool.and_eq_true] at h
  have := all_at h.2 (List.getElem?_eq_some_iff.1 hk).1
  unfold partAt at this
  simp only [Bool.and_eq_true] at this
  rw [getD_part hk] at this
  have h2 := this.1
  unfold monoB at h2
  simp only [Bool.and_eq_true] at h2
  exact of_decide_eq_true h2.1.2
/-- A slice of parts that the call made; their atoms are the argument's own lists. -/
structure ShareP (w : World) (lo : Nat) (L : List Mono) (vq : Option Addr) (vc : Nat) (cs : List (Int × Value)) (u : World) : Prop where
  own : OwnM u lo (.slice vq L.length vc) cs
  len : cs.length = L.length
  rows : ∀ (i : Nat) x, L[i]? = some x → ∃ s b, cs[i]? = some (x.1, s) ∧ Row w b s x.2
  bw : Below w.heap.size w u
  lo1 : w.heap.size ≤ lo
  lo2 : lo ≤ u.heap.size
theorem ShareP.below {w u u' : World} {lo : Nat} {L : List Mono} {vq : Option Addr} {vc : Nat} {cs : List (Int × Value)} (h : ShareP w lo L vq vc cs u) (hb : Below u.heap.size u u') : ShareP w lo L vq vc cs u' :=
  ⟨h.own.below hb, h.len, h.rows, h.bw.trans (hb.mono h.bw.size), h.lo1, Nat.le_trans h.lo2 hb.size⟩
theorem ShareP.read {w u : World} {lo : Nat} {L : List Mono} {vq : Option Addr} {vc : Nat} {cs : List (Int × Value)} (h : ShareP w lo L vq vc cs u) : ∃ B, PRow u B (.slice vq L.length vc) L := by
  by_cases hn : (Value.slice vq L.length vc) = .slice none 0 0
  · injection hn with e1 e2 e3
    subst e1 e3
    exact ⟨0, none, 0, 0, rfl, by omega, by unfold maxLen; omega, fun _ => rfl, Or.inl (List.length_eq_zero_iff.1 e2)⟩
  · obtain ⟨G, cap, e⟩ := h.own.form hn
    rw [h.len] at e
    injection e with e1 _ e3
    subst e1 e3
    obtain ⟨_, hc, hm, hb, hI, hcells, hsoft⟩ := h.own.cells
    refine ⟨G, some ⟨G, 0, none⟩, vc, 0, rfl, hc, hm, (fun h => by cases h), Or.inr ⟨rfl, fun i x hx => ?_⟩⟩
    obtain ⟨s, b, k1, k2⟩ := h.rows i x hx
    obtain ⟨c1, c2⟩ := hcells i _ k1
    rw [Nat.zero_add]
    exact ⟨c1, s, b, c2, k2.below h.bw⟩
theorem ShareP.next {w u u' : World} {lo : Nat} {L : List Mono} {vq : Option Addr} {vc G cap b m k : Nat} {cs : List (Int × Value)} {c : Int} {xs : List Int} {q : Option Addr} (h : ShareP w lo L vq vc cs u) (hr : Row w b (.slice q m k) xs)
    (ho : OwnM u' lo (.slice (some ⟨G, 0, none⟩) (cs.length + 1) cap) (cs ++ [(c, .slice q m k)])) (hg : u.grownBy u' (Value.slice vq L.length vc).ownBlock) : ShareP w lo (L ++ [(c, xs)]) (some ⟨G, 0, none⟩) cap (cs ++ [(c, .slice q m k)]) u' := by
  obtain ⟨T, ht, hT, _, _⟩ := ownBlock_turn h.own hg
  have := h.lo1
  refine ⟨by rw [List.length_append, ← h.len]; exact ho, by simp [h.len], fun i x hx => ?_, h.bw.trans (ht.below (by omega) h.bw.size), h.lo1, Nat.le_trans h.lo2 ht.size⟩
  by_cases e : i < L.length
  · rw [List.getElem?_append_left e] at hx
    obtain ⟨s, b2, k1, k2⟩ := h.rows i x hx
    exact ⟨s, b2, by rw [List.getElem?_append_left (by rw [h.len]; exact e)]; exact k1, k2⟩
  · have hi : i = L.length := by
      have := (List.getElem?_eq_some_iff.1 hx).1
      simp at this
      omega
    subst hi
    rw [List.getElem?_append_right (Nat.le_refl _), Nat.sub_self] at hx
    obtain rfl := Option.some.inj (show some (c, xs) = some x from hx)
    exact ⟨.slice q m k, b, by rw [← h.len, List.getElem?_append_right (Nat.le_refl _), Nat.sub_self]; rfl, hr⟩
theorem share_new {w u : World} (hb : Below w.heap.size w u) : ShareP w u.heap.size [] (some ⟨u.heap.size, 0, none⟩) 0 [] (u.alloc (.cells #[] 55)) :=
  ⟨⟨rfl, Or.inr ⟨u.heap.size, 0, #[], rfl, Nat.le_refl _, (MapKept.heap_alloc u _).1, Nat.le_refl _, by unfold maxLen; omega, rfl, rfl⟩⟩, rfl, fun i x hx => by simp at hx, hb.alloc hb.size _, hb.size, by simp⟩
set_option maxRecDepth 8000 in
set_option maxHeartbeats 8000000 in
theorem specScale (ps : List Mono) (m : Int) (B : Nat) (v : Value) (w : World) (h : PRow w B v ps) :
    Calls Tryz.prog 22 #[.agg #[v], .int .i64 m] w fun e w' => ∃ a l c, e = .returned (.agg #[.slice a l c]) ∧ WPoly w' w.heap.size w'.heap.size (.slice a l c) (scaleP ps m) ∧ Below w.heap.size w w' := by
  have bV : Below w.heap.size w ((w.alloc (.cells #[v] 25)).alloc (.cells #[.slice none 0 0] 25)) := ((Below.refl _ _).alloc (Nat.le_refl _) _).alloc (by simp) _
  have R0 := Rec.new (w.alloc (.cells #[v] 25)) [.slice none 0 0] 25
  rw [show (w.alloc (.cells #[v] 25)).heap.size = w.heap.size + 1 by simp] at R0
  have RR := hide R0
  have AA := hide ((Rec.new w [v] 25).alloc (.cells #[.slice none 0 0] 25))
  have H := hide (h.below bV)
  have HW := hide h
  have BW := hide bV
  obtain ⟨a, cap, off, rfl, h2, h3, _, h4⟩ := h
  unfold maxLen at h3
  clear bV R0
  obtain ⟨R, eR⟩ : ∃ R, scaleP ps m = R := ⟨_, rfl⟩
  rw [eR]
  have ER := hide eR
  clear eR
  go_enter Tryz.func22, Tryz.ntmps22
  go_wp2_with fail
  generalize ((w.alloc (.cells #[.slice a ps.length cap] 25)).alloc (.cells #[.slice none 0 0] 25)) = V0 at RR AA H BW ⊢
  have a0 := AA.out.cell 0 _ rfl
  go_wp2_with fail
  refine (specOk ps B _ _ H.out).mono ?_
  rintro e V ⟨rfl, hb⟩
  replace RR := hide (RR.out.below hb)
  replace AA := hide (AA.out.below hb)
  replace BW := hide (BW.out.trans (hb.mono BW.out.size))
  clear hb a0 H
  cases ok : okP ps with
  | false =>
    have HD : Hid (R = []) := ER.out.symm.trans (scale_no (fun h => by rw [ok] at h; exact absurd h.1 (by decide)))
    have r0 := RR.out.cell 0 _ rfl
    have s0 := RR.out.soft 0
    clear ok
    have B0 := hide (BW.out.setCell (p := ⟨w.heap.size + 1, 0, none⟩) (by show w.heap.size ≤ w.heap.size + 1; omega) (.slice none 0 0))
    have Z0 := hide (RR.out.set 0 (.slice none 0 0) (by simp) rfl)
    go_wp2
    generalize V.setCell ⟨w.heap.size + 1, 0, none⟩ (.slice none 0 0) = U at B0 Z0 ⊢
    have z0 := Z0.out.cell 0 _ rfl
    exact bodyPost_ret (v := .agg #[.slice none 0 0]) (by simp [results, Tryz.results22, go_sem, z0]) rfl ⟨none, 0, 0, rfl, by rw [HD.out]; exact WPoly.nil _ _ _, B0.out⟩
  | true =>
    have OK := hide ok
    clear ok
    go_wp2_with fail
    refine (Wrd.specOk m _).mono ?_
    rintro e u ⟨rfl, rfl⟩
    cases wo : Wrd.wok m with
    | false =>
      have HD : Hid (R = []) := ER.out.symm.trans (scale_no (fun h => by rw [wo] at h; exact absurd h.2 (by decide)))
      have r0 := RR.out.cell 0 _ rfl
      have s0 := RR.out.soft 0
      clear wo
      have B0 := hide (BW.out.setCell (p := ⟨w.heap.size + 1, 0, none⟩) (by show w.heap.size ≤ w.heap.size + 1; omega) (.slice none 0 0))
      have Z0 := hide (RR.out.set 0 (.slice none 0 0) (by simp) rfl)
      go_wp2
      generalize u.setCell ⟨w.heap.size + 1, 0, none⟩ (.slice none 0 0) = U at B0 Z0 ⊢
      have z0 := Z0.out.cell 0 _ rfl
      exact bodyPost_ret (v := .agg #[.slice none 0 0]) (by simp [results, Tryz.results22, go_sem, z0]) rfl ⟨none, 0, 0, rfl, by rw [HD.out]; exact WPoly.nil _ _ _, B0.out⟩
    | true =>
      have m01 : 0 ≤ m ∧ m < 65536 := by unfold Wrd.wok at wo; exact of_decide_eq_true wo
      replace ER : Hid (scaleL m ps = R) := (scale_yes OK.out wo).symm.trans ER.out
      clear wo
      obtain ⟨n, en⟩ : ∃ n, ps.length = n := ⟨_, rfl⟩
      have EN := hide en
      have H4 := hide h4
      rw [en] at h2 AA
      rw [en]
      clear en h4 HW
      have SH := hide (share_new BW.out)
      have BU : Hid (Below u.heap.size u (u.alloc (.cells #[] 55))) := (Below.refl _ _).alloc (Nat.le_refl _) _
      have a0 := AA.out.cell 0 _ rfl
      go_wp2_with fail
      generalize u.alloc (.cells #[] 55) = U at SH BU ⊢
      clear a0
      go_wp2
      go_loopw [5, 6] (fun q i wr => ∃ (k : Nat) (L : List Mono) (vq : Option Addr) (vc : Nat) (cs : List (Int × Value)), k ≤ n ∧ i = .int .i64 k ∧ q = .slice vq L.length vc ∧ Hid (ShareP w u.heap.size L vq vc cs wr) ∧ Hid (L ++ scaleL m (ps.drop k) = R) ∧ Hid (L.length ≤ k) ∧ Hid (Below u.heap.size u wr)) (fun _ i _ => n - (intOf i).toNat)
      case atStart => exact ⟨0, [], _, _, _, by omega, rfl, rfl, SH, ER, Nat.le_refl _, BU⟩
      case round =>
        obtain ⟨k, L, vq, vc, cs, hk, rfl, rfl, HS, HL, HN, HB⟩ := hrel
        clear SH BU
        have a0 := (AA.out.below HB.out).cell 0 _ rfl
        by_cases hlt : k < n
        case neg =>
          have HR : Hid (L = R) := show _ = _ by have := HL.out; rw [scale_end (by rw [EN.out]; omega), List.append_nil] at this; exact this
          obtain ⟨BL, RL⟩ := HS.out.read
          have L1 : Hid (L.length ≤ 1000) := show _ ≤ _ by have := HN.out; have := ok_len OK.out; have := EN.out; omega
          have L2 : Hid (∀ x ∈ L, x.2.length ≤ 1000000) := fun x hx => by
            rw [HR.out, ← ER.out] at hx
            obtain ⟨y, hy, e⟩ := scale_mem ps x hx
            have := ok_atoms OK.out hy
            rw [e]
            omega
          have RL' := hide RL
          clear RL
          go_wp2_with fail
          refine (l4Copy L BL _ _ RL'.out L1.out L2.out).mono ?_
          rintro e u2 ⟨qa, ql, qc, rfl, W2, hb⟩
          have HB2 := HB.out.trans (hb.mono HB.out.size)
          have RR2 := RR.out.below HB2
          have r0 := RR2.cell 0 _ rfl
          have s0 := RR2.soft 0
          have BB := BW.out.trans (HB2.mono BW.out.size)
          have B0 := hide (BB.setCell (p := ⟨w.heap.size + 1, 0, none⟩) (by show w.heap.size ≤ w.heap.size + 1; omega) (.slice qa ql qc))
          have Z0 := hide (RR2.set 0 (.slice qa ql qc) (by simp) rfl)
          have lu := RR.out.lt
          have W3 := W2.keep (w' := u2.setCell ⟨w.heap.size + 1, 0, none⟩ (.slice qa ql qc)) (Keep.of_turn ((Turn.refl (w.heap.size + 1) u2).setCell (p := ⟨w.heap.size + 1, 0, none⟩) rfl _)) (fun b h1 _ (h2 : b = _) => by have := HB.out.size; omega)
          have W4 := hide (W3.wide (lo' := w.heap.size) (hi' := (u2.setCell ⟨w.heap.size + 1, 0, none⟩ (.slice qa ql qc)).heap.size) (by have := HB.out.size; omega) (by simp [World.setCell]))
          clear W2 W3 HB2 RR2 BB hb lu a0
          go_wp2
          generalize u2.setCell ⟨w.heap.size + 1, 0, none⟩ (.slice qa ql qc) = U2 at B0 Z0 W4 ⊢
          have z0 := Z0.out.cell 0 _ rfl
          exact bodyPost_ret (v := .agg #[.slice qa ql qc]) (by simp [results, Tryz.results22, go_sem, z0]) rfl ⟨qa, ql, qc, rfl, by rw [← HR.out]; exact W4.out, B0.out⟩
        obtain ⟨x, ex⟩ : ∃ x, ps[k]? = some x := ⟨_, List.getElem?_eq_getElem (by rw [EN.out]; exact hlt)⟩
        have hc4 := H4.out.resolve_left (fun e => by rw [e] at ex; simp at ex)
        obtain ⟨rfl, hc⟩ := hc4
        obtain ⟨c, at_⟩ := x
        obtain ⟨g1, s, b, g2, g3⟩ := hc k _ ex
        have cx := cell_below HS.out.bw g1
        have sx := cell_below HS.out.bw g2
        have RX := hide g3
        have MO := ok_atoms OK.out (List.mem_of_getElem? ex)
        obtain ⟨c0, c1⟩ : 1 ≤ c ∧ c ≤ 65535 := by
          have h := OK.out
          unfold okP at h
          simp only [Bool.and_eq_true] at h
          have := all_at h.2 (List.getElem?_eq_some_iff.1 ex).1
          unfold partAt at this
          simp only [Bool.and_eq_true] at this
          rw [getD_part ex] at this
          have h2 := this.1
          unfold monoB at h2
          simp only [Bool.and_eq_true] at h2
          exact of_decide_eq_true h2.1.1
        have KE := hide (fun h0 => scale_keep (n := m) ex h0)
        have KD := hide (fun h0 => scale_drop (n := m) ex h0)
        obtain ⟨qa, ca, _, rfl, _⟩ := g3
        simp only [] at cx sx RX KE KD
        have lk : ((k : Nat) : Int) < (n : Nat) := by omega
        have lt1 : c * m ≤ 4294967296 := by
          have : c * m ≤ 65536 * 65536 := Int.mul_le_mul (by omega) (by omega) m01.1 (by omega)
          omega
        have lt0 : 0 ≤ c * m := Int.mul_nonneg (by omega) m01.1
        clear ex g1 g2 hc MO
        go_wp2_with fail
        refine (Wrd.specWrap (c * m) _).mono ?_
        rintro e u3 ⟨rfl, rfl⟩
        have q0 : 0 ≤ c * m % 65536 ∧ c * m % 65536 < 65536 := by omega
        clear lt0 lt1
        obtain ⟨t, et⟩ : ∃ t, c * m % 65536 = t := ⟨_, rfl⟩
        rw [et] at q0 KE KD ⊢
        clear et
        by_cases hp : 0 < t
        · have HL2 := hide (show (L ++ [(t, at_)]) ++ scaleL m (ps.drop (k + 1)) = R by
            have := HL.out
            rw [KE.out hp] at this
            rw [List.append_assoc]
            exact this)
          have bX : Below u3.heap.size u3 (u3.alloc (.cells #[.int .i64 t, .slice qa at_.length ca] 55)) := (Below.refl _ _).alloc (Nat.le_refl _) _
          have SA := hide (HS.out.below bX)
          have A1 : Hid ((u3.alloc (.cells #[.int .i64 t, .slice qa at_.length ca] 55)).cell? ((⟨u3.heap.size, 0, none⟩ : Addr).add 0) = some (.int .i64 t)) := show _ = _ by
            rw [Go.WideShapes.add_plain, World.cell?_alloc_new]
            rfl
          have A2 : Hid ((u3.alloc (.cells #[.int .i64 t, .slice qa at_.length ca] 55)).cell? ((⟨u3.heap.size, 0, none⟩ : Addr).add 1) = some (.slice qa at_.length ca)) := show _ = _ by
            rw [Go.WideShapes.add_plain, World.cell?_alloc_new]
            rfl
          have A3 : Hid (cs.length ≤ 1000000) := show _ ≤ _ by have := HS.out.len; have := HN.out; have := ok_len OK.out; have := EN.out; omega
          have HB4 := hide (HB.out.trans (bX.mono HB.out.size))
          clear bX
          go_wp2_with (at_builtin; refine wpList_pushM rfl _ _ rfl u.heap.size (.slice vq L.length vc) cs rfl SA.out.own SA.out.lo2 ⟨u3.heap.size, 0, none⟩ t qa at_.length ca rfl A1.out A2.out A3.out ?_; intro G cap4 u4 hO hg)
          have NX := hide (SA.out.next (xs := at_) RX.out hO.out hg.out)
          obtain ⟨T, hT, hTl, _, _⟩ := ownBlock_turn SA.out.own hg.out
          have HB5 := hide (HB4.out.trans (hT.below hTl HB4.out.size))
          have LE : Hid (cs.length + 1 = (L ++ [(t, at_)]).length) := show _ = _ by rw [List.length_append, SA.out.len]; rfl
          have NL : Hid ((L ++ [(t, at_)]).length ≤ k + 1) := show _ ≤ _ by rw [List.length_append]; have := HN.out; simp; exact this
          clear hT hTl hO hg SA A1 A2 A3
          rw [LE.out]
          exact ⟨⟨k + 1, L ++ [(t, at_)], _, _, _, by omega, by go_num, rfl, NX, HL2, NL, HB5⟩, by simp [intOf]; omega⟩
        · have HL2 := hide (show L ++ scaleL m (ps.drop (k + 1)) = R by
            have := HL.out
            rw [KD.out (by omega)] at this
            exact this)
          have NL : Hid (L.length ≤ k + 1) := Nat.le_succ_of_le HN.out
          go_wp2
          exact ⟨⟨k + 1, L, vq, vc, cs, by omega, by go_num, rfl, HS, HL2, NL, HB⟩, by simp [intOf]; omega⟩
end Go.Proofs.YtckhfpaicnjknaaGreat.Pol
