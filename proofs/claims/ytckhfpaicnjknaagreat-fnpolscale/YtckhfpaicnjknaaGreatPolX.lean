/-
  A sum with a part more: the specification's l4Plus.
-/
import Derived.Test.YtckhfpaicnjknaaGreatPolZ
namespace Go.Proofs.YtckhfpaicnjknaaGreat.Pol
set_option linter.unusedVariables false
open Go.ChangeShapes Go.WideShapes Go.ChangeAt Go.RowKit IntS
def plusL (m : Mono) : Bool → List Mono → List Mono
  | d, [] => if d = true then [] else [m]
  | d, x :: r => if ordA m.2 x.2 < 0 then (if d = true then x :: plusL m true r else m :: x :: plusL m true r) else if ordA m.2 x.2 = 0 then (if 0 < (x.1 + m.1) % 65536 then ((x.1 + m.1) % 65536, x.2) :: plusL m true r else plusL m true r) else x :: plusL m d r
theorem plus_end {m : Mono} {ps : List Mono} {k : Nat} {d : Bool} (h : ps.length ≤ k) : plusL m d (ps.drop k) = if d = true then [] else [m] := by rw [List.drop_eq_nil_of_le h, plusL]
theorem plus_new {m x : Mono} {ps : List Mono} {k : Nat} (h : ps[k]? = some x) (ho : ordA m.2 x.2 < 0) : plusL m false (ps.drop k) = m :: x :: plusL m true (ps.drop (k + 1)) := by rw [drop_cons h, plusL, if_pos ho, if_neg (by decide)]
theorem plus_old {m x : Mono} {ps : List Mono} {k : Nat} (h : ps[k]? = some x) (ho : ordA m.2 x.2 < 0) : plusL m true (ps.drop k) = x :: plusL m true (ps.drop (k + 1)) := by rw [drop_cons h, plusL, if_pos ho, if_pos rfl]
theorem plus_some {m x : Mono} {ps : List Mono} {k : Nat} {d : Bool} (h : ps[k]? = some x) (ho : ordA m.2 x.2 = 0) (hc : 0 < (x.1 + m.1) % 65536) : plusL m d (ps.drop k) = ((x.1 + m.1) % 65536, x.2) :: plusL m true (ps.drop (k + 1)) := by rw [drop_cons h, plusL, if_neg (by omega), if_pos ho, if_pos hc]
theorem plus_none {m x : Mono} {ps : List Mono} {k : Nat} {d : Bool} (h : ps[k]? = some x) (ho : ordA m.2 x.2 = 0) (hc : ¬ 0 < (x.1 + m.1) % 65536) : plusL m d (ps.drop k) = plusL m true (ps.drop (k + 1)) := by rw [drop_cons h, plusL, if_neg (by omega), if_pos ho, if_neg hc]
theorem plus_past {m x : Mono} {ps : List Mono} {k : Nat} {d : Bool} (h : ps[k]? = some x) (ho : 0 < ordA m.2 x.2) : plusL m d (ps.drop k) = x :: plusL m d (ps.drop (k + 1)) := by rw [drop_cons h, plusL, if_neg (by omega), if_neg (by omega)]
theorem plus_len {m : Mono} : ∀ (ps : List Mono) (d : Bool), (plusL m d ps).length ≤ ps.length + 1
  | [], d => by rw [plusL]; split <;> simp
  | x :: r, d => by
    have h1 := plus_len (m := m) r d
    have h2 := plus_true (m := m) r
    rw [plusL]
    split
    · split <;> simp <;> omega
    · split
      · split <;> simp <;> omega
      · simp; omega
where
  plus_true {m : Mono} : ∀ r : List Mono, (plusL m true r).length ≤ r.length
    | [] => by rw [plusL]; simp
    | x :: r => by
      have h2 := plus_true (m := m) r
      rw [plusL]
      split
      · rw [if_pos rfl]; simp; omega
      · split
        · split <;> simp <;> omega
        · simp; omega
/-- What the call has made so far, beside the part that came in. -/
structure PlusP (w : World) (mc : Int) (s : Value) (L : List Mono) (vq : Option Addr) (vc : Nat) (cs : List (Int × Value)) (u : World) : Prop where
  sh : ShareP w (w.heap.size + 1) L vq vc cs u
  box : Rec w.heap.size [.int .i64 mc, s] u
theorem PlusP.below {w u u' : World} {mc : Int} {s : Value} {L : List Mono} {vq : Option Addr} {vc : Nat} {cs : List (Int × Value)} (h : PlusP w mc s L vq vc cs u) (hb : Below u.heap.size u u') : PlusP w mc s L vq vc cs u' := ⟨h.sh.below hb, h.box.below hb⟩
theorem PlusP.next {w u u' : World} {mc : Int} {s : Value} {L : List Mono} {vq : Option Addr} {vc G cap b m k : Nat} {cs : List (Int × Value)} {c : Int} {xs : List Int} {q : Option Addr} (h : PlusP w mc s L vq vc cs u) (hr : Row w b (.slice q m k) xs)
    (ho : OwnM u' (w.heap.size + 1) (.slice (some ⟨G, 0, none⟩) (cs.length + 1) cap) (cs ++ [(c, .slice q m k)])) (hg : u.grownBy u' (Value.slice vq L.length vc).ownBlock) : PlusP w mc s (L ++ [(c, xs)]) (some ⟨G, 0, none⟩) cap (cs ++ [(c, .slice q m k)]) u' := by
  refine ⟨h.sh.next hr ho hg, ?_⟩
  obtain ⟨T, ht, hT, _, _⟩ := ownBlock_turn h.sh.own hg
  exact h.box.turn ht (by omega)
theorem plus_start {w : World} {mc : Int} {s : Value} : PlusP w mc s [] (some ⟨w.heap.size + 1, 0, none⟩) 0 [] ((w.alloc (.cells #[.int .i64 mc, s] 55)).alloc (.cells #[] 55)) := by
  have hs : (w.alloc (.cells #[.int .i64 mc, s] 55)).heap.size = w.heap.size + 1 := by simp
  have h := share_new (w := w) (u := w.alloc (.cells #[.int .i64 mc, s] 55)) ((Below.refl _ _).alloc (Nat.le_refl _) _)
  rw [hs] at h
  exact ⟨h, (Rec.new w [.int .i64 mc, s] 55).alloc _⟩
theorem len_app {L : List Mono} {n : Nat} (x : Mono) (h : n = L.length) : n + 1 = (L ++ [x]).length := by rw [List.length_append, h]; rfl
set_option maxRecDepth 8000 in
set_option maxHeartbeats 16000000 in
theorem l4Plus (ps : List Mono) (mc : Int) (ma : List Int) (B bm : Nat) (v s : Value) (w : World) (h : PRow w B v ps) (hm : Row w bm s ma) (hl : ps.length ≤ 1000) (hmc : 0 ≤ mc ∧ mc < 65536) (hx : ∀ x ∈ ps, 0 ≤ x.1 ∧ x.1 < 65536) :
    Calls Tryz.prog 33 #[v, .agg #[.int .i64 mc, s]] w fun e w' => ∃ B' a l c, e = .returned (.slice a l c) ∧ PRow w' B' (.slice a l c) (plusL (mc, ma) false ps) ∧ Below w.heap.size w w' := by
  have HM := hide hm
  have HX := hide hx
  obtain ⟨qm, cm, _, rfl, m2, m3, _⟩ := hm
  have P0 := hide (plus_start (w := w) (mc := mc) (s := .slice qm ma.length cm))
  obtain ⟨a, cap, off, rfl, h2, h3, _, h4⟩ := h
  unfold maxLen at h3
  clear m2 m3 hx
  obtain ⟨R, eR⟩ : ∃ R, plusL (mc, ma) false ps = R := ⟨_, rfl⟩
  rw [eR]
  have ER := hide eR
  obtain ⟨n, en⟩ : ∃ n, ps.length = n := ⟨_, rfl⟩
  have EN := hide en
  have H4 := hide h4
  rw [en] at h2 hl
  rw [en]
  clear en h4 eR
  go_enter Tryz.func33, Tryz.ntmps33
  go_wp2
  generalize ((w.alloc (.cells #[.int .i64 mc, .slice qm ma.length cm] 55)).alloc (.cells #[] 55)) = V at P0 ⊢
  go_loopw [5, 6, 7] (fun q d i wr => ∃ (k : Nat) (L : List Mono) (vq : Option Addr) (vc : Nat) (cs : List (Int × Value)) (df : Bool), k ≤ n ∧ q = .slice vq L.length vc ∧ d = .bool df ∧ i = .int .i64 k ∧ Hid (PlusP w mc (.slice qm ma.length cm) L vq vc cs wr) ∧ Hid (L ++ plusL (mc, ma) df (ps.drop k) = R) ∧ Hid (L.length ≤ 2 * k)) (fun _ _ i _ => n - (intOf i).toNat)
  case atStart => exact ⟨0, [], _, _, _, false, by omega, rfl, rfl, rfl, P0, ER, Nat.le_refl _⟩
  case round =>
    obtain ⟨k, L, vq, vc, cs, df, hk, rfl, rfl, rfl, PP, HL, HN⟩ := hrel
    clear P0
    by_cases hlt : k < n
    case neg =>
      have HR := hide (show L ++ (if df = true then [] else [(mc, ma)]) = R by have := HL.out; rw [plus_end (by rw [EN.out]; omega)] at this; exact this)
      have A3 : Hid (cs.length ≤ 1000000) := show _ ≤ _ by have := PP.out.sh.len; have := HN.out; omega
      clear HL HN
      cases df with
      | true =>
        have HR2 : Hid (L = R) := show _ = _ by have := HR.out; rw [if_pos rfl, List.append_nil] at this; exact this
        obtain ⟨BL, RL⟩ := PP.out.sh.read
        have RL' := hide RL
        clear RL
        go_wp2
        exact bodyPost_ret (v := .slice vq L.length vc) (by simp [results, Tryz.results33, go_sem]) rfl ⟨BL, vq, L.length, vc, rfl, by rw [← HR2.out]; exact RL'.out, PP.out.sh.bw⟩
      | false =>
        have HR2 : Hid (L ++ [(mc, ma)] = R) := show _ = _ by have := HR.out; rw [if_neg (by decide)] at this; exact this
        have m0 := PP.out.box.cell 0 _ rfl
        have m1 := PP.out.box.cell 1 _ rfl
        have bX : Below wr.heap.size wr (wr.alloc (.cells #[.int .i64 mc, .slice qm ma.length cm] 55)) := (Below.refl _ _).alloc (Nat.le_refl _) _
        have SA := hide (PP.out.below bX)
        have A1 : Hid ((wr.alloc (.cells #[.int .i64 mc, .slice qm ma.length cm] 55)).cell? ((⟨wr.heap.size, 0, none⟩ : Addr).add 0) = some (.int .i64 mc)) := show _ = _ by
          rw [Go.WideShapes.add_plain, World.cell?_alloc_new]
          rfl
        have A2 : Hid ((wr.alloc (.cells #[.int .i64 mc, .slice qm ma.length cm] 55)).cell? ((⟨wr.heap.size, 0, none⟩ : Addr).add 1) = some (.slice qm ma.length cm)) := show _ = _ by
          rw [Go.WideShapes.add_plain, World.cell?_alloc_new]
          rfl
        clear bX
        go_wp2_with (at_builtin; refine wpList_pushM rfl _ _ rfl (w.heap.size + 1) (.slice vq L.length vc) cs rfl SA.out.sh.own SA.out.sh.lo2 ⟨wr.heap.size, 0, none⟩ mc qm ma.length cm rfl A1.out A2.out A3.out ?_; intro G cap4 u4 hO hg; have NX := hide (SA.out.next (xs := ma) HM.out hO.out hg.out))
        have LE := hide (len_app (mc, ma) SA.out.sh.len)
        clear hO hg SA A1 A2
        rw [LE.out]
        clear LE
        obtain ⟨BL, RL⟩ := NX.out.sh.read
        have RL' := hide RL
        clear RL m0 m1
        go_wp2
        exact bodyPost_ret (v := .slice (some ⟨G, 0, none⟩) (L ++ [(mc, ma)]).length cap4) (by simp [results, Tryz.results33, go_sem]) rfl ⟨BL, _, _, _, rfl, by rw [← HR2.out]; exact RL'.out, NX.out.sh.bw⟩
    obtain ⟨x, ex⟩ : ∃ x, ps[k]? = some x := ⟨_, List.getElem?_eq_getElem (by rw [EN.out]; exact hlt)⟩
    obtain ⟨rfl, hc⟩ := H4.out.resolve_left (fun e => by rw [e] at ex; simp at ex)
    obtain ⟨c0, c1⟩ := HX.out x (List.mem_of_getElem? ex)
    obtain ⟨c, at_⟩ := x
    obtain ⟨g1, s, b, g2, g3⟩ := hc k _ ex
    have G1 := hide g1
    have RX := hide g3
    have KN := hide (fun h0 => plus_new (m := (mc, ma)) ex h0)
    have KO := hide (fun h0 => plus_old (m := (mc, ma)) ex h0)
    have KS := hide (fun h0 h1 => plus_some (m := (mc, ma)) (d := df) ex h0 h1)
    have KZ := hide (fun h0 h1 => plus_none (m := (mc, ma)) (d := df) ex h0 h1)
    have KP := hide (fun h0 => plus_past (m := (mc, ma)) (d := df) ex h0)
    obtain ⟨qa, ca, _, rfl, _⟩ := g3
    have G2 := hide g2
    have sx := cell_below PP.out.sh.bw g2
    simp only [] at sx RX KN KO KS KZ KP G1 G2 c0 c1
    clear g1 g2 ex hc
    have m0 := PP.out.box.cell 0 _ rfl
    have m1 := PP.out.box.cell 1 _ rfl
    have lk : ((k : Nat) : Int) < (n : Nat) := by omega
    have DR : Below wr.heap.size wr wr.drew := (Below.refl _ _).drew
    have PD := hide (PP.out.below DR)
    have RXD := hide (RX.out.below PD.out.sh.bw)
    have RMD := hide (HM.out.below PD.out.sh.bw)
    clear DR
    go_wp2_with fail
    refine region_tail 7 (by kernel_rfl) (by kernel_rfl) ?_
    simp only [List.take_succ_cons, List.take_zero, List.drop_succ_cons, List.drop_zero]
    repeat still_step
    refine wpStill_nil ?_
    go_wp2_with fail
    refine (l4Order ma at_ bm b _ _ _ RMD.out RXD.out).mono ?_
    rintro e u ⟨rfl, hb⟩
    have PU := hide (PD.out.below hb)
    clear hb PD RXD RMD PP sx m0 m1
    obtain ⟨od, eo⟩ : ∃ od, ordA ma at_ = od := ⟨_, rfl⟩
    rw [eo] at KN KO KS KZ KP ⊢
    clear eo
    have A3 : Hid (cs.length ≤ 1000000) := show _ ≤ _ by have := PU.out.sh.len; have := HN.out; omega
    have cx := cell_below PU.out.sh.bw G1.out
    have sx := cell_below PU.out.sh.bw G2.out
    have m0 := PU.out.box.cell 0 _ rfl
    have m1 := PU.out.box.cell 1 _ rfl
    by_cases o1 : od < 0
    · have oz : (od == 0) = false := beq_eq_false_iff_ne.2 (by omega)
      cases df with
      | true =>
        have HL2 := hide (show (L ++ [(c, at_)]) ++ plusL (mc, ma) true (ps.drop (k + 1)) = R by
          have := HL.out
          rw [KO.out o1] at this
          rw [List.append_assoc]
          exact this)
        have NL : Hid ((L ++ [(c, at_)]).length ≤ 2 * (k + 1)) := show _ ≤ _ by rw [List.length_append]; have := HN.out; simp; omega
        clear KN KO KS KZ KP
        have bX : Below u.heap.size u (u.alloc (.cells #[.int .i64 c, .slice qa at_.length ca] 55)) := (Below.refl _ _).alloc (Nat.le_refl _) _
        have SA := hide (PU.out.below bX)
        have A1 : Hid ((u.alloc (.cells #[.int .i64 c, .slice qa at_.length ca] 55)).cell? ((⟨u.heap.size, 0, none⟩ : Addr).add 0) = some (.int .i64 c)) := show _ = _ by
          rw [Go.WideShapes.add_plain, World.cell?_alloc_new]
          rfl
        have A2 : Hid ((u.alloc (.cells #[.int .i64 c, .slice qa at_.length ca] 55)).cell? ((⟨u.heap.size, 0, none⟩ : Addr).add 1) = some (.slice qa at_.length ca)) := show _ = _ by
          rw [Go.WideShapes.add_plain, World.cell?_alloc_new]
          rfl
        clear bX
        go_wp2_with (at_builtin; refine wpList_pushM rfl _ _ rfl (w.heap.size + 1) (.slice vq L.length vc) cs rfl SA.out.sh.own SA.out.sh.lo2 ⟨u.heap.size, 0, none⟩ c qa at_.length ca rfl A1.out A2.out A3.out ?_; intro G cap4 u4 hO hg; have NX := hide (SA.out.next (xs := at_) RX.out hO.out hg.out))
        have LE := hide (len_app (c, at_) SA.out.sh.len)
        clear hO hg SA A1 A2
        rw [LE.out]
        clear LE
        clear cx sx m0 m1
        go_wp2
        exact ⟨⟨k + 1, L ++ [(c, at_)], _, _, _, true, by omega, rfl, rfl, by go_num, NX, HL2, NL⟩, by simp [intOf]; omega⟩
      | false =>
        have HL2 := hide (show ((L ++ [(mc, ma)]) ++ [(c, at_)]) ++ plusL (mc, ma) true (ps.drop (k + 1)) = R by
          have := HL.out
          rw [KN.out o1] at this
          rw [List.append_assoc, List.append_assoc]
          exact this)
        have NL : Hid (((L ++ [(mc, ma)]) ++ [(c, at_)]).length ≤ 2 * (k + 1)) := show _ ≤ _ by rw [List.length_append, List.length_append]; have := HN.out; simp; omega
        clear KN KO KS KZ KP
        have bX : Below u.heap.size u (u.alloc (.cells #[.int .i64 mc, .slice qm ma.length cm] 55)) := (Below.refl _ _).alloc (Nat.le_refl _) _
        have SA := hide (PU.out.below bX)
        have A1 : Hid ((u.alloc (.cells #[.int .i64 mc, .slice qm ma.length cm] 55)).cell? ((⟨u.heap.size, 0, none⟩ : Addr).add 0) = some (.int .i64 mc)) := show _ = _ by
          rw [Go.WideShapes.add_plain, World.cell?_alloc_new]
          rfl
        have A2 : Hid ((u.alloc (.cells #[.int .i64 mc, .slice qm ma.length cm] 55)).cell? ((⟨u.heap.size, 0, none⟩ : Addr).add 1) = some (.slice qm ma.length cm)) := show _ = _ by
          rw [Go.WideShapes.add_plain, World.cell?_alloc_new]
          rfl
        clear bX
        go_wp2_with (at_builtin; refine wpList_pushM rfl _ _ rfl (w.heap.size + 1) (.slice vq L.length vc) cs rfl SA.out.sh.own SA.out.sh.lo2 ⟨u.heap.size, 0, none⟩ mc qm ma.length cm rfl A1.out A2.out A3.out ?_; intro G cap4 u4 hO hg; have NX := hide (SA.out.next (xs := ma) HM.out hO.out hg.out); refine Hid.out ?_)
        have LE := hide (len_app (mc, ma) SA.out.sh.len)
        clear hO hg SA A1 A2
        rw [LE.out]
        clear LE
        clear cx sx m0 m1
        refine hide ?_
        have cx4 := cell_below NX.out.sh.bw G1.out
        have sx4 := cell_below NX.out.sh.bw G2.out
        generalize (L ++ [(mc, ma)]) = L2 at NX HL2 NL ⊢
        generalize cs ++ [(mc, .slice qm ma.length cm)] = cs2 at NX
        replace A3 : Hid (cs2.length ≤ 1000000) := show _ ≤ _ by have := NX.out.sh.len; have := NL.out; rw [List.length_append] at this; omega
        have bX : Below u4.heap.size u4 (u4.alloc (.cells #[.int .i64 c, .slice qa at_.length ca] 55)) := (Below.refl _ _).alloc (Nat.le_refl _) _
        have SA := hide (NX.out.below bX)
        have A1 : Hid ((u4.alloc (.cells #[.int .i64 c, .slice qa at_.length ca] 55)).cell? ((⟨u4.heap.size, 0, none⟩ : Addr).add 0) = some (.int .i64 c)) := show _ = _ by
          rw [Go.WideShapes.add_plain, World.cell?_alloc_new]
          rfl
        have A2 : Hid ((u4.alloc (.cells #[.int .i64 c, .slice qa at_.length ca] 55)).cell? ((⟨u4.heap.size, 0, none⟩ : Addr).add 1) = some (.slice qa at_.length ca)) := show _ = _ by
          rw [Go.WideShapes.add_plain, World.cell?_alloc_new]
          rfl
        clear bX
        go_wp2_with (at_builtin; refine wpList_pushM rfl _ _ rfl (w.heap.size + 1) (.slice (some ⟨G, 0, none⟩) L2.length cap4) cs2 rfl SA.out.sh.own SA.out.sh.lo2 ⟨u4.heap.size, 0, none⟩ c qa at_.length ca rfl A1.out A2.out A3.out ?_; intro G5 cap5 u5 hO hg; have NX5 := hide (SA.out.next (xs := at_) RX.out hO.out hg.out))
        have LE := hide (len_app (c, at_) SA.out.sh.len)
        clear hO hg SA A1 A2
        rw [LE.out]
        clear LE
        clear cx4 sx4
        go_wp2
        exact ⟨⟨k + 1, L2 ++ [(c, at_)], _, _, _, true, by omega, rfl, rfl, by go_num, NX5, HL2, NL⟩, by simp [intOf]; omega⟩
    by_cases o2 : od = 0
    · subst o2
      have DR : Below u.heap.size u u.drew := (Below.refl _ _).drew
      have PD := hide (PU.out.below DR)
      clear DR
      obtain ⟨t, et⟩ : ∃ t, (c + mc) % 65536 = t := ⟨_, rfl⟩
      have t0 : 0 ≤ t ∧ t < 65536 := by omega
      have ct : 0 ≤ c + mc ∧ c + mc < 131072 := by omega
      rw [et] at KS KZ
      cases df with
      | true =>
        go_wp2_with fail
        refine region_tail 8 (by kernel_rfl) (by kernel_rfl) ?_
        simp only [List.take_succ_cons, List.take_zero, List.drop_succ_cons, List.drop_zero]
        repeat still_step
        refine wpStill_nil ?_
        go_wp2_with fail
        refine (Wrd.specWrap (c + mc) _).mono ?_
        rintro e u2 ⟨rfl, rfl⟩
        rw [et]
        clear cx sx m0 m1 ct
        have sx := cell_below PD.out.sh.bw G2.out
        generalize u.drew = U at PD sx ⊢
        by_cases hp : 0 < t
        · have HL2 := hide (show (L ++ [(t, at_)]) ++ plusL (mc, ma) true (ps.drop (k + 1)) = R by
            have := HL.out
            rw [KS.out trivial hp] at this
            rw [List.append_assoc]
            exact this)
          have NL : Hid ((L ++ [(t, at_)]).length ≤ 2 * (k + 1)) := show _ ≤ _ by rw [List.length_append]; have := HN.out; simp; omega
          clear KN KO KS KZ KP et
          have bX : Below U.heap.size U (U.alloc (.cells #[.int .i64 t, .slice qa at_.length ca] 55)) := (Below.refl _ _).alloc (Nat.le_refl _) _
          have SA := hide (PD.out.below bX)
          have A1 : Hid ((U.alloc (.cells #[.int .i64 t, .slice qa at_.length ca] 55)).cell? ((⟨U.heap.size, 0, none⟩ : Addr).add 0) = some (.int .i64 t)) := show _ = _ by
            rw [Go.WideShapes.add_plain, World.cell?_alloc_new]
            rfl
          have A2 : Hid ((U.alloc (.cells #[.int .i64 t, .slice qa at_.length ca] 55)).cell? ((⟨U.heap.size, 0, none⟩ : Addr).add 1) = some (.slice qa at_.length ca)) := show _ = _ by
            rw [Go.WideShapes.add_plain, World.cell?_alloc_new]
            rfl
          clear bX
          go_wp2_with (at_builtin; refine wpList_pushM rfl _ _ rfl (w.heap.size + 1) (.slice vq L.length vc) cs rfl SA.out.sh.own SA.out.sh.lo2 ⟨U.heap.size, 0, none⟩ t qa at_.length ca rfl A1.out A2.out A3.out ?_; intro G cap4 u4 hO hg; have NX := hide (SA.out.next (xs := at_) RX.out hO.out hg.out))
          have LE := hide (len_app (t, at_) SA.out.sh.len)
          clear hO hg SA A1 A2
          rw [LE.out]
          clear LE
          clear sx
          go_wp2
          exact ⟨⟨k + 1, L ++ [(t, at_)], _, _, _, true, by omega, rfl, rfl, by go_num, NX, HL2, NL⟩, by simp [intOf]; omega⟩
        · have HL2 := hide (show L ++ plusL (mc, ma) true (ps.drop (k + 1)) = R by
            have := HL.out
            rw [KZ.out trivial (by omega)] at this
            exact this)
          have NL : Hid (L.length ≤ 2 * (k + 1)) := show _ ≤ _ by have := HN.out; omega
          clear KN KO KS KZ KP et
          go_wp2
          exact ⟨⟨k + 1, L, vq, vc, cs, true, by omega, rfl, rfl, by go_num, PD, HL2, NL⟩, by simp [intOf]; omega⟩
      | false =>
        go_wp2_with fail
        refine region_tail 8 (by kernel_rfl) (by kernel_rfl) ?_
        simp only [List.take_succ_cons, List.take_zero, List.drop_succ_cons, List.drop_zero]
        repeat still_step
        refine wpStill_nil ?_
        go_wp2_with fail
        refine (Wrd.specWrap (c + mc) _).mono ?_
        rintro e u2 ⟨rfl, rfl⟩
        rw [et]
        clear cx sx m0 m1 ct
        have sx := cell_below PD.out.sh.bw G2.out
        generalize u.drew = U at PD sx ⊢
        by_cases hp : 0 < t
        · have HL2 := hide (show (L ++ [(t, at_)]) ++ plusL (mc, ma) true (ps.drop (k + 1)) = R by
            have := HL.out
            rw [KS.out trivial hp] at this
            rw [List.append_assoc]
            exact this)
          have NL : Hid ((L ++ [(t, at_)]).length ≤ 2 * (k + 1)) := show _ ≤ _ by rw [List.length_append]; have := HN.out; simp; omega
          clear KN KO KS KZ KP et
          have bX : Below U.heap.size U (U.alloc (.cells #[.int .i64 t, .slice qa at_.length ca] 55)) := (Below.refl _ _).alloc (Nat.le_refl _) _
          have SA := hide (PD.out.below bX)
          have A1 : Hid ((U.alloc (.cells #[.int .i64 t, .slice qa at_.length ca] 55)).cell? ((⟨U.heap.size, 0, none⟩ : Addr).add 0) = some (.int .i64 t)) := show _ = _ by
            rw [Go.WideShapes.add_plain, World.cell?_alloc_new]
            rfl
          have A2 : Hid ((U.alloc (.cells #[.int .i64 t, .slice qa at_.length ca] 55)).cell? ((⟨U.heap.size, 0, none⟩ : Addr).add 1) = some (.slice qa at_.length ca)) := show _ = _ by
            rw [Go.WideShapes.add_plain, World.cell?_alloc_new]
            rfl
          clear bX
          go_wp2_with (at_builtin; refine wpList_pushM rfl _ _ rfl (w.heap.size + 1) (.slice vq L.length vc) cs rfl SA.out.sh.own SA.out.sh.lo2 ⟨U.heap.size, 0, none⟩ t qa at_.length ca rfl A1.out A2.out A3.out ?_; intro G cap4 u4 hO hg; have NX := hide (SA.out.next (xs := at_) RX.out hO.out hg.out))
          have LE := hide (len_app (t, at_) SA.out.sh.len)
          clear hO hg SA A1 A2
          rw [LE.out]
          clear LE
          clear sx
          go_wp2
          exact ⟨⟨k + 1, L ++ [(t, at_)], _, _, _, true, by omega, rfl, rfl, by go_num, NX, HL2, NL⟩, by simp [intOf]; omega⟩
        · have HL2 := hide (show L ++ plusL (mc, ma) true (ps.drop (k + 1)) = R by
            have := HL.out
            rw [KZ.out trivial (by omega)] at this
            exact this)
          have NL : Hid (L.length ≤ 2 * (k + 1)) := show _ ≤ _ by have := HN.out; omega
          clear KN KO KS KZ KP et
          go_wp2
          exact ⟨⟨k + 1, L, vq, vc, cs, true, by omega, rfl, rfl, by go_num, PD, HL2, NL⟩, by simp [intOf]; omega⟩
    · have oz : (od == 0) = false := beq_eq_false_iff_ne.2 o2
      have HL2 := hide (show (L ++ [(c, at_)]) ++ plusL (mc, ma) df (ps.drop (k + 1)) = R by
        have := HL.out
        rw [KP.out (by omega)] at this
        rw [List.append_assoc]
        exact this)
      have NL : Hid ((L ++ [(c, at_)]).length ≤ 2 * (k + 1)) := show _ ≤ _ by rw [List.length_append]; have := HN.out; simp; omega
      clear KN KO KS KZ KP
      cases df with
      | true =>
        have bX : Below u.heap.size u (u.alloc (.cells #[.int .i64 c, .slice qa at_.length ca] 55)) := (Below.refl _ _).alloc (Nat.le_refl _) _
        have SA := hide (PU.out.below bX)
        have A1 : Hid ((u.alloc (.cells #[.int .i64 c, .slice qa at_.length ca] 55)).cell? ((⟨u.heap.size, 0, none⟩ : Addr).add 0) = some (.int .i64 c)) := show _ = _ by
          rw [Go.WideShapes.add_plain, World.cell?_alloc_new]
          rfl
        have A2 : Hid ((u.alloc (.cells #[.int .i64 c, .slice qa at_.length ca] 55)).cell? ((⟨u.heap.size, 0, none⟩ : Addr).add 1) = some (.slice qa at_.length ca)) := show _ = _ by
          rw [Go.WideShapes.add_plain, World.cell?_alloc_new]
          rfl
        clear bX
        go_wp2_with (at_builtin; refine wpList_pushM rfl _ _ rfl (w.heap.size + 1) (.slice vq L.length vc) cs rfl SA.out.sh.own SA.out.sh.lo2 ⟨u.heap.size, 0, none⟩ c qa at_.length ca rfl A1.out A2.out A3.out ?_; intro G cap4 u4 hO hg; have NX := hide (SA.out.next (xs := at_) RX.out hO.out hg.out))
        have LE := hide (len_app (c, at_) SA.out.sh.len)
        clear hO hg SA A1 A2
        rw [LE.out]
        clear LE
        clear cx sx m0 m1
        go_wp2
        exact ⟨⟨k + 1, L ++ [(c, at_)], _, _, _, true, by omega, rfl, rfl, by go_num, NX, HL2, NL⟩, by simp [intOf]; omega⟩
      | false =>
        have bX : Below u.heap.size u (u.alloc (.cells #[.int .i64 c, .slice qa at_.length ca] 55)) := (Below.refl _ _).alloc (Nat.le_refl _) _
        have SA := hide (PU.out.below bX)
        have A1 : Hid ((u.alloc (.cells #[.int .i64 c, .slice qa at_.length ca] 55)).cell? ((⟨u.heap.size, 0, none⟩ : Addr).add 0) = some (.int .i64 c)) := show _ = _ by
          rw [Go.WideShapes.add_plain, World.cell?_alloc_new]
          rfl
        have A2 : Hid ((u.alloc (.cells #[.int .i64 c, .slice qa at_.length ca] 55)).cell? ((⟨u.heap.size, 0, none⟩ : Addr).add 1) = some (.slice qa at_.length ca)) := show _ = _ by
          rw [Go.WideShapes.add_plain, World.cell?_alloc_new]
          rfl
        clear bX
        go_wp2_with (at_builtin; refine wpList_pushM rfl _ _ rfl (w.heap.size + 1) (.slice vq L.length vc) cs rfl SA.out.sh.own SA.out.sh.lo2 ⟨u.heap.size, 0, none⟩ c qa at_.length ca rfl A1.out A2.out A3.out ?_; intro G cap4 u4 hO hg; have NX := hide (SA.out.next (xs := at_) RX.out hO.out hg.out))
        have LE := hide (len_app (c, at_) SA.out.sh.len)
        clear hO hg SA A1 A2
        rw [LE.out]
        clear LE
        clear cx sx m0 m1
        go_wp2
        exact ⟨⟨k + 1, L ++ [(c, at_)], _, _, _, false, by omega, rfl, rfl, by go_num, NX, HL2, NL⟩, by simp [intOf]; omega⟩
end Go.Proofs.YtckhfpaicnjknaaGreat.Pol
