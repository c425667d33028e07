/-
  A sum with a part more: the specification's l4Plus.
  Both sums together: the specification's PolAdd.
  Two lists of atoms as one, in order: the specification's l4Merge.
-/
import Derived.Test.YtggilenddbobnaaGreatAl
import Derived.Test.YtggilenddbobnaaGreatJ06
namespace Go.Proofs.YtggilenddbobnaaGreat.Pol
set_option linter.unusedVariables false
open Go.ChangeShapes Go.WideShapes Go.ChangeAt Go.RowKit IntS
def plusL (m : Mono) : Bool → List Mono → List Mono
 | d, [] => if d = true then [] else [m]
 | d, x :: r => if ordA m.2 x.2 < 0 then (if d = true then x :: plusL m true r else m :: x :: plusL m true r) else if ordA m.2 x.2 = 0 then (if 0 < (x.1 + m.1) % 65536 then ((x.1 + m.1) % 65536, x.2) :: plusL m true r else plusL m true r) else x :: plusL m d r
theorem plus_end {m : Mono} {ps : List Mono} {k : Nat} {d : Bool} (h : ps.length ≤ k) : plusL m d (ps.drop k) = if d = true then [] else [m] := by rw [List.drop_eq_nil_of_le h, plusL]
theorem plus_new {m x : Mono} {ps : List Mono} {k : Nat} (h : ps[k]? = some x) (ho : ordA m.2 x.2 < 0) : plusL m false (ps.drop k) = m :: x :: plusL m true (ps.drop (k + 1)) := by rw [drop_cons h, plusL, if_pos ho, if_neg (by decide)]
theorem plus_old {m x : Mono} {ps : List Mono} {k : Nat} (h : ps[k]? = some x) (ho : ordA m.2 x.2 < 0) : plusL m true (ps.drop k) = x :: plusL m true (ps.drop (k + 1)) := by rw [drop_cons h, plusL, if_pos ho, if_pos rfl]
theorem plus_some {m x : Mono} {ps : List Mono} {k : Nat} {d : Bool} (h : ps[k]? = some x) (ho : ordA m.2 x.2 = 0) (hc : 0 < (x.1 + m.1) % 65536) : plusL m d (ps.drop k) = ((x.1 + m.1) % 65536, x.2) :: plusL m true (ps.drop (k + 1)) := by rw [drop_cons h, plusL, if_neg (by omega), if_pos ho, if_pos hc]
theorem plus_none {m x : Mono} {ps : List Mono} {k : Nat} {d : Bool} (h : ps[k]? = some x) (ho : ordA m.2 x.2 = 0) (hc : ¬ 0 < (x.1 + m.1) % 65536) : plusL m d (ps.drop k) = plusL m true (ps.drop (k + 1)) := by rw [drop_cons h, plusL, if_neg (by omega), if_pos ho, if_neg hc]
theorem plus_past {m x : Mono} {ps : List Mono} {k : Nat} {d : Bool} (h : ps[k]? = some x) (ho : 0 < ordA m.2 x.2) : plusL m d (ps.drop k) = x :: plusL m d (ps.drop (k + 1)) := by rw [drop_cons h, plusL, if_neg (by omega), if_neg (by omega)]
theorem plus_len {m : Mono} : ∀ (ps : List Mono) (d : Bool), (plusL m d ps).length ≤ ps.length + 1
 | [], d => by rw [plusL]; split <;> simp
 | x :: r, d => by
  have h1 := plus_len (m := m) r d
  have h2 := plus_true (m := m) r
  rw [plusL]
  split
  · split <;> simp <;> omega
  · split
    · split <;> simp <;> omega
    · simp; omega
where
 plus_true {m : Mono} : ∀ r : List Mono, (plusL m true r).length ≤ r.length
  | [] => by rw [plusL]; simp
  | x :: r => by
   have h2 := plus_true (m := m) r
   rw [plusL]
   split
   · rw [if_pos rfl]; simp; omega
   · split
     · split <;> simp <;> omega
     · simp; omega
/-- What the call has made so far, beside the part that came in. -/
structure PlusP (w : World) (mc : Int) (s : Value) (L : List Mono) (vq : Option Addr) (vc : Nat) (cs : List (Int × Value)) (u : World) : Prop where
 sh : ShareP w (w.heap.size + 1) L vq vc cs u
 box : Rec w.heap.size [.int .i64 mc, s] u
theorem PlusP.below {w u u' : World} {mc : Int} {s : Value} {L : List Mono} {vq : Option Addr} {vc : Nat} {cs : List (Int × Value)} (h : PlusP w mc s L vq vc cs u) (hb : Below u.heap.size u u') : PlusP w mc s L vq vc cs u' := ⟨h.sh.below hb, h.box.below hb⟩
theorem PlusP.next {w u u' : World} {mc : Int} {s : Value} {L : List Mono} {vq : Option Addr} {vc G cap b m k : Nat} {cs : List (Int × Value)} {c : Int} {xs : List Int} {q : Option Addr} (h : PlusP w mc s L vq vc cs u) (hr : Row w b (.slice q m k) xs)
 (ho : OwnM u' (w.heap.size + 1) (.slice (some ⟨G, 0, none⟩) (cs.length + 1) cap) (cs ++ [(c, .slice q m k)])) (hg : u.grownBy u' (Value.slice vq L.length vc).ownBlock) : PlusP w mc s (L ++ [(c, xs)]) (some ⟨G, 0, none⟩) cap (cs ++ [(c, .slice q m k)]) u' := by
 refine ⟨h.sh.next hr ho hg, ?_⟩
 obtain ⟨T, ht, hT, _, _⟩ := ownBlock_turn h.sh.own hg
 exact h.box.turn ht (by omega)
theorem plus_start {w : World} {mc : Int} {s : Value} : PlusP w mc s [] (some ⟨w.heap.size + 1, 0, none⟩) 0 [] ((w.alloc (.cells #[.int .i64 mc, s] 82)).alloc (.cells #[] 82)) := by
 have hs : (w.alloc (.cells #[.int .i64 mc, s] 82)).heap.size = w.heap.size + 1 := by simp
 have h := share_new (w := w) (u := w.alloc (.cells #[.int .i64 mc, s] 82)) ((Below.refl _ _).alloc (Nat.le_refl _) _)
 rw [hs] at h
 exact ⟨h, (Rec.new w [.int .i64 mc, s] 82).alloc _⟩
theorem len_app {L : List Mono} {n : Nat} (x : Mono) (h : n = L.length) : n + 1 = (L ++ [x]).length := by rw [List.length_append, h]; rfl
set_option maxRecDepth 8000 in
set_option maxHeartbeats 16000000 in
theorem l4Plus (ps : List Mono) (mc : Int) (ma : List Int) (B bm : Nat) (v s : Value) (w : World) (h : PRow w B v ps) (hm : Row w bm s ma) (hl : ps.length ≤ 1000) (hmc : 0 ≤ mc ∧ mc < 65536) (hx : ∀ x ∈ ps, 0 ≤ x.1 ∧ x.1 < 65536) :
 Calls Tryz.prog 105 #[v, .agg #[.int .i64 mc, s]] w fun e w' => ∃ B' a l c, e = .returned (.slice a l c) ∧ PRow w' B' (.slice a l c) (plusL (mc, ma) false ps) ∧ Below w.heap.size w w' := by
 have HM := hide hm
 have HX := hide hx
 obtain ⟨qm, cm, _, rfl, m2, m3, _⟩ := hm
 have P0 := hide (plus_start (w := w) (mc := mc) (s := .slice qm ma.length cm))
 obtain ⟨a, cap, off, rfl, h2, h3, _, h4⟩ := h
 unfold maxLen at h3
 clear m2 m3 hx
 obtain ⟨R, eR⟩ : ∃ R, plusL (mc, ma) false ps = R := ⟨_, rfl⟩
 rw [eR]
 have ER := hide eR
 obtain ⟨n, en⟩ : ∃ n, ps.length = n := ⟨_, rfl⟩
 have EN := hide en
 have H4 := hide h4
 rw [en] at h2 hl
 rw [en]
 clear en h4 eR
 go_enter Tryz.func105, Tryz.ntmps105
 go_wp2
 generalize ((w.alloc (.cells #[.int .i64 mc, .slice qm ma.length cm] 82)).alloc (.cells #[] 82)) = V at P0 ⊢
 go_loopw [5, 6, 7] (fun q d i wr => ∃ (k : Nat) (L : List Mono) (vq : Option Addr) (vc : Nat) (cs : List (Int × Value)) (df : Bool), k ≤ n ∧ q = .slice vq L.length vc ∧ d = .bool df ∧ i = .int .i64 k ∧ Hid (PlusP w mc (.slice qm ma.length cm) L vq vc cs wr) ∧ Hid (L ++ plusL (mc, ma) df (ps.drop k) = R) ∧ Hid (L.length ≤ 2 * k)) (fun _ _ i _ => n - (intOf i).toNat)
 case atStart => exact ⟨0, [], _, _, _, false, by omega, rfl, rfl, rfl, P0, ER, Nat.le_refl _⟩
 case round =>
  obtain ⟨k, L, vq, vc, cs, df, hk, rfl, rfl, rfl, PP, HL, HN⟩ := hrel
  clear P0
  by_cases hlt : k < n
  case neg =>
   have HR := hide (show L ++ (if df = true then [] else [(mc, ma)]) = R by have := HL.out; rw [plus_end (by rw [EN.out]; omega)] at this; exact this)
   have A3 : Hid (cs.length ≤ 1000000) := show _ ≤ _ by have := PP.out.sh.len; have := HN.out; omega
   clear HL HN
   cases df with
   | true =>
    have HR2 : Hid (L = R) := show _ = _ by have := HR.out; rw [if_pos rfl, List.append_nil] at this; exact this
    obtain ⟨BL, RL⟩ := PP.out.sh.read
    have RL' := hide RL
    clear RL
    go_wp2
    exact bodyPost_ret (v := .slice vq L.length vc) (by simp [results, Tryz.results105, go_sem]) rfl ⟨BL, vq, L.length, vc, rfl, by rw [← HR2.out]; exact RL'.out, PP.out.sh.bw⟩
   | false =>
    have HR2 : Hid (L ++ [(mc, ma)] = R) := show _ = _ by have := HR.out; rw [if_neg (by decide)] at this; exact this
    have m0 := PP.out.box.cell 0 _ rfl
    have m1 := PP.out.box.cell 1 _ rfl
    have bX : Below wr.heap.size wr (wr.alloc (.cells #[.int .i64 mc, .slice qm ma.length cm] 82)) := (Below.refl _ _).alloc (Nat.le_refl _) _
    have SA := hide (PP.out.below bX)
    have A1 : Hid ((wr.alloc (.cells #[.int .i64 mc, .slice qm ma.length cm] 82)).cell? ((⟨wr.heap.size, 0, none⟩ : Addr).add 0) = some (.int .i64 mc)) := show _ = _ by
     rw [Go.WideShapes.add_plain, World.cell?_alloc_new]
     rfl
    have A2 : Hid ((wr.alloc (.cells #[.int .i64 mc, .slice qm ma.length cm] 82)).cell? ((⟨wr.heap.size, 0, none⟩ : Addr).add 1) = some (.slice qm ma.length cm)) := show _ = _ by
     rw [Go.WideShapes.add_plain, World.cell?_alloc_new]
     rfl
    clear bX
    go_wp2_with (at_builtin; refine wpList_pushM rfl _ _ rfl (w.heap.size + 1) (.slice vq L.length vc) cs rfl SA.out.sh.own SA.out.sh.lo2 ⟨wr.heap.size, 0, none⟩ mc qm ma.length cm rfl A1.out A2.out A3.out ?_; intro G cap4 u4 hO hg; have NX := hide (SA.out.next (xs := ma) HM.out hO.out hg.out))
    have LE := hide (len_app (mc, ma) SA.out.sh.len)
    clear hO hg SA A1 A2
    rw [LE.out]
    clear LE
    obtain ⟨BL, RL⟩ := NX.out.sh.read
    have RL' := hide RL
    clear RL m0 m1
    go_wp2
    exact bodyPost_ret (v := .slice (some ⟨G, 0, none⟩) (L ++ [(mc, ma)]).length cap4) (by simp [results, Tryz.results105, go_sem]) rfl ⟨BL, _, _, _, rfl, by rw [← HR2.out]; exact RL'.out, NX.out.sh.bw⟩
  obtain ⟨x, ex⟩ : ∃ x, ps[k]? = some x := ⟨_, List.getElem?_eq_getElem (by rw [EN.out]; exact hlt)⟩
  obtain ⟨rfl, hc⟩ := H4.out.resolve_left (fun e => by rw [e] at ex; simp at ex)
  obtain ⟨c0, c1⟩ := HX.out x (List.mem_of_getElem? ex)
  obtain ⟨c, at_⟩ := x
  obtain ⟨g1, s, b, g2, g3⟩ := hc k _ ex
  have G1 := hide g1
  have RX := hide g3
  have KN := hide (fun h0 => plus_new (m := (mc, ma)) ex h0)
  have KO := hide (fun h0 => plus_old (m := (mc, ma)) ex h0)
  have KS := hide (fun h0 h1 => plus_some (m := (mc, ma)) (d := df) ex h0 h1)
  have KZ := hide (fun h0 h1 => plus_none (m := (mc, ma)) (d := df) ex h0 h1)
  have KP := hide (fun h0 => plus_past (m := (mc, ma)) (d := df) ex h0)
  obtain ⟨qa, ca, _, rfl, _⟩ := g3
  have G2 := hide g2
  have sx := cell_below PP.out.sh.bw g2
  simp only [] at sx RX KN KO KS KZ KP G1 G2 c0 c1
  clear g1 g2 ex hc
  have m0 := PP.out.box.cell 0 _ rfl
  have m1 := PP.out.box.cell 1 _ rfl
  have lk : ((k : Nat) : Int) < (n : Nat) := by omega
  have DR : Below wr.heap.size wr wr.drew := (Below.refl _ _).drew
  have PD := hide (PP.out.below DR)
  have RXD := hide (RX.out.below PD.out.sh.bw)
  have RMD := hide (HM.out.below PD.out.sh.bw)
  clear DR
  go_wp2_with fail
  refine region_tail 7 (by kernel_rfl) (by kernel_rfl) ?_
  simp only [List.take_succ_cons, List.take_zero, List.drop_succ_cons, List.drop_zero]
  repeat still_step
  refine wpStill_nil ?_
  go_wp2_with fail
  refine (l4Order ma at_ bm b _ _ _ RMD.out RXD.out).mono ?_
  rintro e u ⟨rfl, hb⟩
  have PU := hide (PD.out.below hb)
  clear hb PD RXD RMD PP sx m0 m1
  obtain ⟨od, eo⟩ : ∃ od, ordA ma at_ = od := ⟨_, rfl⟩
  rw [eo] at KN KO KS KZ KP ⊢
  clear eo
  have A3 : Hid (cs.length ≤ 1000000) := show _ ≤ _ by have := PU.out.sh.len; have := HN.out; omega
  have cx := cell_below PU.out.sh.bw G1.out
  have sx := cell_below PU.out.sh.bw G2.out
  have m0 := PU.out.box.cell 0 _ rfl
  have m1 := PU.out.box.cell 1 _ rfl
  by_cases o1 : od < 0
  · have oz : (od == 0) = false := beq_eq_false_iff_ne.2 (by omega)
    cases df with
    | true =>
     have HL2 := hide (show (L ++ [(c, at_)]) ++ plusL (mc, ma) true (ps.drop (k + 1)) = R by
      have := HL.out
      rw [KO.out o1] at this
      rw [List.append_assoc]
      exact this)
     have NL : Hid ((L ++ [(c, at_)]).length ≤ 2 * (k + 1)) := show _ ≤ _ by rw [List.length_append]; have := HN.out; simp; omega
     clear KN KO KS KZ KP
     have bX : Below u.heap.size u (u.alloc (.cells #[.int .i64 c, .slice qa at_.length ca] 82)) := (Below.refl _ _).alloc (Nat.le_refl _) _
     have SA := hide (PU.out.below bX)
     have A1 : Hid ((u.alloc (.cells #[.int .i64 c, .slice qa at_.length ca] 82)).cell? ((⟨u.heap.size, 0, none⟩ : Addr).add 0) = some (.int .i64 c)) := show _ = _ by
      rw [Go.WideShapes.add_plain, World.cell?_alloc_new]
      rfl
     have A2 : Hid ((u.alloc (.cells #[.int .i64 c, .slice qa at_.length ca] 82)).cell? ((⟨u.heap.size, 0, none⟩ : Addr).add 1) = some (.slice qa at_.length ca)) := show _ = _ by
      rw [Go.WideShapes.add_plain, World.cell?_alloc_new]
      rfl
     clear bX
     go_wp2_with (at_builtin; refine wpList_pushM rfl _ _ rfl (w.heap.size + 1) (.slice vq L.length vc) cs rfl SA.out.sh.own SA.out.sh.lo2 ⟨u.heap.size, 0, none⟩ c qa at_.length ca rfl A1.out A2.out A3.out ?_; intro G cap4 u4 hO hg; have NX := hide (SA.out.next (xs := at_) RX.out hO.out hg.out))
     have LE := hide (len_app (c, at_) SA.out.sh.len)
     clear hO hg SA A1 A2
     rw [LE.out]
     clear LE
     clear cx sx m0 m1
     go_wp2
     exact ⟨⟨k + 1, L ++ [(c, at_)], _, _, _, true, by omega, rfl, rfl, by go_num, NX, HL2, NL⟩, by simp [intOf]; omega⟩
    | false =>
     have HL2 := hide (show ((L ++ [(mc, ma)]) ++ [(c, at_)]) ++ plusL (mc, ma) true (ps.drop (k + 1)) = R by
      have := HL.out
      rw [KN.out o1] at this
      rw [List.append_assoc, List.append_assoc]
      exact this)
     have NL : Hid (((L ++ [(mc, ma)]) ++ [(c, at_)]).length ≤ 2 * (k + 1)) := show _ ≤ _ by rw [List.length_append, List.length_append]; have := HN.out; simp; omega
     clear KN KO KS KZ KP
     have bX : Below u.heap.size u (u.alloc (.cells #[.int .i64 mc, .slice qm ma.length cm] 82)) := (Below.refl _ _).alloc (Nat.le_refl _) _
     have SA := hide (PU.out.below bX)
     have A1 : Hid ((u.alloc (.cells #[.int .i64 mc, .slice qm ma.length cm] 82)).cell? ((⟨u.heap.size, 0, none⟩ : Addr).add 0) = some (.int .i64 mc)) := show _ = _ by
      rw [Go.WideShapes.add_plain, World.cell?_alloc_new]
      rfl
     have A2 : Hid ((u.alloc (.cells #[.int .i64 mc, .slice qm ma.length cm] 82)).cell? ((⟨u.heap.size, 0, none⟩ : Addr).add 1) = some (.slice qm ma.length cm)) := show _ = _ by
      rw [Go.WideShapes.add_plain, World.cell?_alloc_new]
      rfl
     clear bX
     go_wp2_with (at_builtin; refine wpList_pushM rfl _ _ rfl (w.heap.size + 1) (.slice vq L.length vc) cs rfl SA.out.sh.own SA.out.sh.lo2 ⟨u.heap.size, 0, none⟩ mc qm ma.length cm rfl A1.out A2.out A3.out ?_; intro G cap4 u4 hO hg; have NX := hide (SA.out.next (xs := ma) HM.out hO.out hg.out); refine Hid.out ?_)
     have LE := hide (len_app (mc, ma) SA.out.sh.len)
     clear hO hg SA A1 A2
     rw [LE.out]
     clear LE
     clear cx sx m0 m1
     refine hide ?_
     have cx4 := cell_below NX.out.sh.bw G1.out
     have sx4 := cell_below NX.out.sh.bw G2.out
     generalize (L ++ [(mc, ma)]) = L2 at NX HL2 NL ⊢
     generalize cs ++ [(mc, .slice qm ma.length cm)] = cs2 at NX
     replace A3 : Hid (cs2.length ≤ 1000000) := show _ ≤ _ by have := NX.out.sh.len; have := NL.out; rw [List.length_append] at this; omega
     have bX : Below u4.heap.size u4 (u4.alloc (.cells #[.int .i64 c, .slice qa at_.length ca] 82)) := (Below.refl _ _).alloc (Nat.le_refl _) _
     have SA := hide (NX.out.below bX)
     have A1 : Hid ((u4.alloc (.cells #[.int .i64 c, .slice qa at_.length ca] 82)).cell? ((⟨u4.heap.size, 0, none⟩ : Addr).add 0) = some (.int .i64 c)) := show _ = _ by
      rw [Go.WideShapes.add_plain, World.cell?_alloc_new]
      rfl
     have A2 : Hid ((u4.alloc (.cells #[.int .i64 c, .slice qa at_.length ca] 82)).cell? ((⟨u4.heap.size, 0, none⟩ : Addr).add 1) = some (.slice qa at_.length ca)) := show _ = _ by
      rw [Go.WideShapes.add_plain, World.cell?_alloc_new]
      rfl
     clear bX
     go_wp2_with (at_builtin; refine wpList_pushM rfl _ _ rfl (w.heap.size + 1) (.slice (some ⟨G, 0, none⟩) L2.length cap4) cs2 rfl SA.out.sh.own SA.out.sh.lo2 ⟨u4.heap.size, 0, none⟩ c qa at_.length ca rfl A1.out A2.out A3.out ?_; intro G5 cap5 u5 hO hg; have NX5 := hide (SA.out.next (xs := at_) RX.out hO.out hg.out))
     have LE := hide (len_app (c, at_) SA.out.sh.len)
     clear hO hg SA A1 A2
     rw [LE.out]
     clear LE
     clear cx4 sx4
     go_wp2
     exact ⟨⟨k + 1, L2 ++ [(c, at_)], _, _, _, true, by omega, rfl, rfl, by go_num, NX5, HL2, NL⟩, by simp [intOf]; omega⟩
  by_cases o2 : od = 0
  · subst o2
    have DR : Below u.heap.size u u.drew := (Below.refl _ _).drew
    have PD := hide (PU.out.below DR)
    clear DR
    obtain ⟨t, et⟩ : ∃ t, (c + mc) % 65536 = t := ⟨_, rfl⟩
    have t0 : 0 ≤ t ∧ t < 65536 := by omega
    have ct : 0 ≤ c + mc ∧ c + mc < 131072 := by omega
    rw [et] at KS KZ
    cases df with
    | true =>
     go_wp2_with fail
     refine region_tail 8 (by kernel_rfl) (by kernel_rfl) ?_
     simp only [List.take_succ_cons, List.take_zero, List.drop_succ_cons, List.drop_zero]
     repeat still_step
     refine wpStill_nil ?_
     go_wp2_with fail
     refine (Wrd.specWrap (c + mc) _).mono ?_
     rintro e u2 ⟨rfl, rfl⟩
     rw [et]
     clear cx sx m0 m1 ct
     have sx := cell_below PD.out.sh.bw G2.out
     generalize u.drew = U at PD sx ⊢
     by_cases hp : 0 < t
     · have HL2 := hide (show (L ++ [(t, at_)]) ++ plusL (mc, ma) true (ps.drop (k + 1)) = R by
        have := HL.out
        rw [KS.out trivial hp] at this
        rw [List.append_assoc]
        exact this)
       have NL : Hid ((L ++ [(t, at_)]).length ≤ 2 * (k + 1)) := show _ ≤ _ by rw [List.length_append]; have := HN.out; simp; omega
       clear KN KO KS KZ KP et
       have bX : Below U.heap.size U (U.alloc (.cells #[.int .i64 t, .slice qa at_.length ca] 82)) := (Below.refl _ _).alloc (Nat.le_refl _) _
       have SA := hide (PD.out.below bX)
       have A1 : Hid ((U.alloc (.cells #[.int .i64 t, .slice qa at_.length ca] 82)).cell? ((⟨U.heap.size, 0, none⟩ : Addr).add 0) = some (.int .i64 t)) := show _ = _ by
        rw [Go.WideShapes.add_plain, World.cell?_alloc_new]
        rfl
       have A2 : Hid ((U.alloc (.cells #[.int .i64 t, .slice qa at_.length ca] 82)).cell? ((⟨U.heap.size, 0, none⟩ : Addr).add 1) = some (.slice qa at_.length ca)) := show _ = _ by
        rw [Go.WideShapes.add_plain, World.cell?_alloc_new]
        rfl
       clear bX
       go_wp2_with (at_builtin; refine wpList_pushM rfl _ _ rfl (w.heap.size + 1) (.slice vq L.length vc) cs rfl SA.out.sh.own SA.out.sh.lo2 ⟨U.heap.size, 0, none⟩ t qa at_.length ca rfl A1.out A2.out A3.out ?_; intro G cap4 u4 hO hg; have NX := hide (SA.out.next (xs := at_) RX.out hO.out hg.out))
       have LE := hide (len_app (t, at_) SA.out.sh.len)
       clear hO hg SA A1 A2
       rw [LE.out]
       clear LE
       clear sx
       go_wp2
       exact ⟨⟨k + 1, L ++ [(t, at_)], _, _, _, true, by omega, rfl, rfl, by go_num, NX, HL2, NL⟩, by simp [intOf]; omega⟩
     · have HL2 := hide (show L ++ plusL (mc, ma) true (ps.drop (k + 1)) = R by
        have := HL.out
        rw [KZ.out trivial (by omega)] at this
        exact this)
       have NL : Hid (L.length ≤ 2 * (k + 1)) := show _ ≤ _ by have := HN.out; omega
       clear KN KO KS KZ KP et
       go_wp2
       exact ⟨⟨k + 1, L, vq, vc, cs, true, by omega, rfl, rfl, by go_num, PD, HL2, NL⟩, by simp [intOf]; omega⟩
    | false =>
     go_wp2_with fail
     refine region_tail 8 (by kernel_rfl) (by kernel_rfl) ?_
     simp only [List.take_succ_cons, List.take_zero, List.drop_succ_cons, List.drop_zero]
     repeat still_step
     refine wpStill_nil ?_
     go_wp2_with fail
     refine (Wrd.specWrap (c + mc) _).mono ?_
     rintro e u2 ⟨rfl, rfl⟩
     rw [et]
     clear cx sx m0 m1 ct
     have sx := cell_below PD.out.sh.bw G2.out
     generalize u.drew = U at PD sx ⊢
     by_cases hp : 0 < t
     · have HL2 := hide (show (L ++ [(t, at_)]) ++ plusL (mc, ma) true (ps.drop (k + 1)) = R by
        have := HL.out
        rw [KS.out trivial hp] at this
        rw [List.append_assoc]
        exact this)
       have NL : Hid ((L ++ [(t, at_)]).length ≤ 2 * (k + 1)) := show _ ≤ _ by rw [List.length_append]; have := HN.out; simp; omega
       clear KN KO KS KZ KP et
       have bX : Below U.heap.size U (U.alloc (.cells #[.int .i64 t, .slice qa at_.length ca] 82)) := (Below.refl _ _).alloc (Nat.le_refl _) _
       have SA := hide (PD.out.below bX)
       have A1 : Hid ((U.alloc (.cells #[.int .i64 t, .slice qa at_.length ca] 82)).cell? ((⟨U.heap.size, 0, none⟩ : Addr).add 0) = some (.int .i64 t)) := show _ = _ by
        rw [Go.WideShapes.add_plain, World.cell?_alloc_new]
        rfl
       have A2 : Hid ((U.alloc (.cells #[.int .i64 t, .slice qa at_.length ca] 82)).cell? ((⟨U.heap.size, 0, none⟩ : Addr).add 1) = some (.slice qa at_.length ca)) := show _ = _ by
        rw [Go.WideShapes.add_plain, World.cell?_alloc_new]
        rfl
       clear bX
       go_wp2_with (at_builtin; refine wpList_pushM rfl _ _ rfl (w.heap.size + 1) (.slice vq L.length vc) cs rfl SA.out.sh.own SA.out.sh.lo2 ⟨U.heap.size, 0, none⟩ t qa at_.length ca rfl A1.out A2.out A3.out ?_; intro G cap4 u4 hO hg; have NX := hide (SA.out.next (xs := at_) RX.out hO.out hg.out))
       have LE := hide (len_app (t, at_) SA.out.sh.len)
       clear hO hg SA A1 A2
       rw [LE.out]
       clear LE
       clear sx
       go_wp2
       exact ⟨⟨k + 1, L ++ [(t, at_)], _, _, _, true, by omega, rfl, rfl, by go_num, NX, HL2, NL⟩, by simp [intOf]; omega⟩
     · have HL2 := hide (show L ++ plusL (mc, ma) true (ps.drop (k + 1)) = R by
        have := HL.out
        rw [KZ.out trivial (by omega)] at this
        exact this)
       have NL : Hid (L.length ≤ 2 * (k + 1)) := show _ ≤ _ by have := HN.out; omega
       clear KN KO KS KZ KP et
       go_wp2
       exact ⟨⟨k + 1, L, vq, vc, cs, true, by omega, rfl, rfl, by go_num, PD, HL2, NL⟩, by simp [intOf]; omega⟩
  · have oz : (od == 0) = false := beq_eq_false_iff_ne.2 o2
    have HL2 := hide (show (L ++ [(c, at_)]) ++ plusL (mc, ma) df (ps.drop (k + 1)) = R by
     have := HL.out
     rw [KP.out (by omega)] at this
     rw [List.append_assoc]
     exact this)
    have NL : Hid ((L ++ [(c, at_)]).length ≤ 2 * (k + 1)) := show _ ≤ _ by rw [List.length_append]; have := HN.out; simp; omega
    clear KN KO KS KZ KP
    cases df with
    | true =>
     have bX : Below u.heap.size u (u.alloc (.cells #[.int .i64 c, .slice qa at_.length ca] 82)) := (Below.refl _ _).alloc (Nat.le_refl _) _
     have SA := hide (PU.out.below bX)
     have A1 : Hid ((u.alloc (.cells #[.int .i64 c, .slice qa at_.length ca] 82)).cell? ((⟨u.heap.size, 0, none⟩ : Addr).add 0) = some (.int .i64 c)) := show _ = _ by
      rw [Go.WideShapes.add_plain, World.cell?_alloc_new]
      rfl
     have A2 : Hid ((u.alloc (.cells #[.int .i64 c, .slice qa at_.length ca] 82)).cell? ((⟨u.heap.size, 0, none⟩ : Addr).add 1) = some (.slice qa at_.length ca)) := show _ = _ by
      rw [Go.WideShapes.add_plain, World.cell?_alloc_new]
      rfl
     clear bX
     go_wp2_with (at_builtin; refine wpList_pushM rfl _ _ rfl (w.heap.size + 1) (.slice vq L.length vc) cs rfl SA.out.sh.own SA.out.sh.lo2 ⟨u.heap.size, 0, none⟩ c qa at_.length ca rfl A1.out A2.out A3.out ?_; intro G cap4 u4 hO hg; have NX := hide (SA.out.next (xs := at_) RX.out hO.out hg.out))
     have LE := hide (len_app (c, at_) SA.out.sh.len)
     clear hO hg SA A1 A2
     rw [LE.out]
     clear LE
     clear cx sx m0 m1
     go_wp2
     exact ⟨⟨k + 1, L ++ [(c, at_)], _, _, _, true, by omega, rfl, rfl, by go_num, NX, HL2, NL⟩, by simp [intOf]; omega⟩
    | false =>
     have bX : Below u.heap.size u (u.alloc (.cells #[.int .i64 c, .slice qa at_.length ca] 82)) := (Below.refl _ _).alloc (Nat.le_refl _) _
     have SA := hide (PU.out.below bX)
     have A1 : Hid ((u.alloc (.cells #[.int .i64 c, .slice qa at_.length ca] 82)).cell? ((⟨u.heap.size, 0, none⟩ : Addr).add 0) = some (.int .i64 c)) := show _ = _ by
      rw [Go.WideShapes.add_plain, World.cell?_alloc_new]
      rfl
     have A2 : Hid ((u.alloc (.cells #[.int .i64 c, .slice qa at_.length ca] 82)).cell? ((⟨u.heap.size, 0, none⟩ : Addr).add 1) = some (.slice qa at_.length ca)) := show _ = _ by
      rw [Go.WideShapes.add_plain, World.cell?_alloc_new]
      rfl
     clear bX
     go_wp2_with (at_builtin; refine wpList_pushM rfl _ _ rfl (w.heap.size + 1) (.slice vq L.length vc) cs rfl SA.out.sh.own SA.out.sh.lo2 ⟨u.heap.size, 0, none⟩ c qa at_.length ca rfl A1.out A2.out A3.out ?_; intro G cap4 u4 hO hg; have NX := hide (SA.out.next (xs := at_) RX.out hO.out hg.out))
     have LE := hide (len_app (c, at_) SA.out.sh.len)
     clear hO hg SA A1 A2
     rw [LE.out]
     clear LE
     clear cx sx m0 m1
     go_wp2
     exact ⟨⟨k + 1, L ++ [(c, at_)], _, _, _, false, by omega, rfl, rfl, by go_num, NX, HL2, NL⟩, by simp [intOf]; omega⟩
end Go.Proofs.YtggilenddbobnaaGreat.Pol
namespace Go.Proofs.YtggilenddbobnaaGreat.Pol
set_option linter.unusedVariables false
open Go.ChangeShapes Go.WideShapes Go.ChangeAt Go.RowKit IntS
def addL : List Mono → List Mono → List Mono
 | l, [] => l
 | l, m :: r => addL (plusL m false l) r
def addB (ps qs : List Mono) : Bool := if okP ps = true ∧ okP qs = true then fitB (addL ps qs) else false
def addP (ps qs : List Mono) : List Mono := if okP ps = true ∧ okP qs = true then fitP (addL ps qs) else []
theorem add_no {ps qs : List Mono} (h : ¬ (okP ps = true ∧ okP qs = true)) : addB ps qs = false ∧ addP ps qs = [] := ⟨if_neg h, if_neg h⟩
theorem add_yes {ps qs : List Mono} (h1 : okP ps = true) (h2 : okP qs = true) : addB ps qs = fitB (addL ps qs) ∧ addP ps qs = fitP (addL ps qs) := ⟨if_pos ⟨h1, h2⟩, if_pos ⟨h1, h2⟩⟩
theorem add_next {l qs : List Mono} {k : Nat} {x : Mono} (h : qs[k]? = some x) : addL l (qs.drop k) = addL (plusL x false l) (qs.drop (k + 1)) := by rw [drop_cons h, addL]
theorem add_end {l qs : List Mono} {k : Nat} (h : qs.length ≤ k) : addL l (qs.drop k) = l := by rw [List.drop_eq_nil_of_le h, addL]
def Words (ps : List Mono) : Prop := ∀ x ∈ ps, 0 ≤ x.1 ∧ x.1 < 65536
theorem ok_words {ps : List Mono} (h : okP ps = true) : Words ps := fun x hx => by
 obtain ⟨k, hk⟩ := List.getElem?_of_mem hx
 unfold okP at h
 simp only [Bool.and_eq_true] at h
 have := all_at h.2 (List.getElem?_eq_some_iff.1 hk).1
 unfold partAt at this
 simp only [Bool.and_eq_true] at this
 rw [getD_part hk] at this
 have h2 := this.1
 unfold monoB at h2
 simp only [Bool.and_eq_true] at h2
 have := of_decide_eq_true h2.1.1
 omega
theorem Words.cons {x : Mono} {r : List Mono} (hx : 0 ≤ x.1 ∧ x.1 < 65536) (h : Words r) : Words (x :: r) := fun y hy => by
 rcases List.mem_cons.1 hy with rfl | hy
 · exact hx
 · exact h y hy
theorem Words.head {x : Mono} {r : List Mono} (h : Words (x :: r)) : 0 ≤ x.1 ∧ x.1 < 65536 := h x (List.mem_cons_self ..)
theorem Words.tail {x : Mono} {r : List Mono} (h : Words (x :: r)) : Words r := fun y hy => h y (List.mem_cons_of_mem _ hy)
theorem plus_words {m : Mono} (hm : 0 ≤ m.1 ∧ m.1 < 65536) : ∀ (ps : List Mono) (d : Bool), Words ps → Words (plusL m d ps)
 | [], d, _ => by
  rw [plusL]
  split
  · intro x hx; simp at hx
  · exact Words.cons hm (fun x hx => by simp at hx)
 | x :: r, d, h => by
  have h1 := plus_words hm r d h.tail
  have h2 := plus_words hm r true h.tail
  rw [plusL]
  split
  · split
    · exact Words.cons h.head h2
    · exact Words.cons hm (Words.cons h.head h2)
  · split
    · split
      · exact Words.cons (by show 0 ≤ (x.1 + m.1) % 65536 ∧ (x.1 + m.1) % 65536 < 65536; omega) h2
      · exact h2
    · exact Words.cons h.head h1
set_option maxRecDepth 8000 in
set_option maxHeartbeats 16000000 in
theorem specAdd (ps qs : List Mono) (B B' : Nat) (v v' : Value) (w : World) (h : PRow w B v ps) (h' : PRow w B' v' qs) :
 Calls Tryz.prog 78 #[.agg #[v], .agg #[v']] w fun e w' => ∃ a l c, e = .returned (.tuple #[.agg #[.slice a l c], .bool (addB ps qs)]) ∧ WPoly w' w.heap.size w'.heap.size (.slice a l c) (addP ps qs) ∧ Below w.heap.size w w' := by
 have bV : Below w.heap.size w (((w.alloc (.cells #[v] 35)).alloc (.cells #[v'] 35)).alloc (.cells #[.slice none 0 0] 35)) := (((Below.refl _ _).alloc (Nat.le_refl _) _).alloc (by simp) _).alloc (by simp; omega) _
 have R0 := Rec.new ((w.alloc (.cells #[v] 35)).alloc (.cells #[v'] 35)) [.slice none 0 0] 35
 rw [show ((w.alloc (.cells #[v] 35)).alloc (.cells #[v'] 35)).heap.size = w.heap.size + 2 by simp] at R0
 have Q0 := (Rec.new (w.alloc (.cells #[v] 35)) [v'] 35).alloc (.cells #[.slice none 0 0] 35)
 rw [show (w.alloc (.cells #[v] 35)).heap.size = w.heap.size + 1 by simp] at Q0
 have RR := hide R0
 have QQ := hide Q0
 have AA := hide (((Rec.new w [v] 35).alloc (.cells #[v'] 35)).alloc (.cells #[.slice none 0 0] 35))
 have HW := hide h
 have HW' := hide h'
 have H := hide (h.below bV)
 have BW := hide bV
 obtain ⟨a, cap, off, rfl, h2, h3, _, h4⟩ := h
 obtain ⟨a', cap', off', rfl, h2', h3', _, h4'⟩ := h'
 unfold maxLen at h3 h3'
 clear bV R0 Q0 h4
 obtain ⟨R, eR⟩ : ∃ R, addP ps qs = R := ⟨_, rfl⟩
 obtain ⟨T, eT⟩ : ∃ T, addB ps qs = T := ⟨_, rfl⟩
 rw [eR, eT]
 have ER := hide eR
 have ET := hide eT
 clear eR eT
 go_enter Tryz.func78, Tryz.ntmps78
 go_wp2_with fail
 generalize (((w.alloc (.cells #[.slice a ps.length cap] 35)).alloc (.cells #[.slice a' qs.length cap'] 35)).alloc (.cells #[.slice none 0 0] 35)) = V0 at RR QQ AA H BW ⊢
 have a0 := AA.out.cell 0 _ rfl
 go_wp2_with fail
 refine (specOk ps B _ _ H.out).mono ?_
 rintro e V ⟨rfl, hb⟩
 replace RR := hide (RR.out.below hb)
 replace QQ := hide (QQ.out.below hb)
 replace AA := hide (AA.out.below hb)
 replace BW := hide (BW.out.trans (hb.mono BW.out.size))
 clear hb a0 H
 cases ok : okP ps with
 | false =>
  have hf := add_no (ps := ps) (qs := qs) (fun h => by rw [ok] at h; exact absurd h.1 (by decide))
  have HD := hide (ER.out.symm.trans hf.2)
  obtain rfl := ET.out.symm.trans hf.1
  have r0 := RR.out.cell 0 _ rfl
  have s0 := RR.out.soft 0
  clear ok hf
  have B0 := hide (BW.out.setCell (p := ⟨w.heap.size + 2, 0, none⟩) (by show w.heap.size ≤ w.heap.size + 2; omega) (.slice none 0 0))
  have Z0 := hide (RR.out.set 0 (.slice none 0 0) (by simp) rfl)
  go_wp2
  generalize V.setCell ⟨w.heap.size + 2, 0, none⟩ (.slice none 0 0) = U at B0 Z0 ⊢
  have z0 := Z0.out.cell 0 _ rfl
  exact bodyPost_ret (v := .tuple #[.agg #[.slice none 0 0], .bool false]) (by simp [results, Tryz.results78, go_sem, z0]) rfl ⟨none, 0, 0, rfl, by rw [HD.out]; exact WPoly.nil _ _ _, B0.out⟩
 | true =>
  have OK := hide ok
  have H' := hide (HW'.out.below BW.out)
  clear ok
  have a0 := QQ.out.cell 0 _ rfl
  go_wp2_with fail
  refine (specOk qs B' _ _ H'.out).mono ?_
  rintro e u ⟨rfl, hb⟩
  replace RR := hide (RR.out.below hb)
  replace QQ := hide (QQ.out.below hb)
  replace AA := hide (AA.out.below hb)
  replace BW := hide (BW.out.trans (hb.mono BW.out.size))
  clear hb a0 H'
  cases ok' : okP qs with
  | false =>
   have hf := add_no (ps := ps) (qs := qs) (fun h => by rw [ok'] at h; exact absurd h.2 (by decide))
   have HD := hide (ER.out.symm.trans hf.2)
   obtain rfl := ET.out.symm.trans hf.1
   have r0 := RR.out.cell 0 _ rfl
   have s0 := RR.out.soft 0
   clear ok' hf
   have B0 := hide (BW.out.setCell (p := ⟨w.heap.size + 2, 0, none⟩) (by show w.heap.size ≤ w.heap.size + 2; omega) (.slice none 0 0))
   have Z0 := hide (RR.out.set 0 (.slice none 0 0) (by simp) rfl)
   go_wp2
   generalize u.setCell ⟨w.heap.size + 2, 0, none⟩ (.slice none 0 0) = U at B0 Z0 ⊢
   have z0 := Z0.out.cell 0 _ rfl
   exact bodyPost_ret (v := .tuple #[.agg #[.slice none 0 0], .bool false]) (by simp [results, Tryz.results78, go_sem, z0]) rfl ⟨none, 0, 0, rfl, by rw [HD.out]; exact WPoly.nil _ _ _, B0.out⟩
  | true =>
   have hf := add_yes OK.out ok'
   have HD := hide (hf.2.symm.trans ER.out)
   have HT := hide (hf.1.symm.trans ET.out)
   have OK' := hide ok'
   clear ok' hf ER ET
   obtain ⟨n, en⟩ : ∃ n, qs.length = n := ⟨_, rfl⟩
   have EN := hide en
   have H4 := hide h4'
   rw [en] at h2' QQ
   rw [en]
   clear en h4' HW'
   have H := hide (HW.out.below BW.out)
   clear HW
   have a0 := AA.out.cell 0 _ rfl
   go_wp2
   clear a0
   go_loopw [6, 7] (fun q i wr => ∃ (k l c BB : Nat) (L : List Mono) (vq : Option Addr), k ≤ n ∧ i = .int .i64 k ∧ q = .slice vq l c ∧ Hid (PRow wr BB (.slice vq l c) L) ∧ Hid (addL L (qs.drop k) = addL ps qs) ∧ Hid (L.length ≤ ps.length + k) ∧ Hid (Words L) ∧ Hid (Below u.heap.size u wr)) (fun _ i _ => n - (intOf i).toNat)
   case atStart => exact ⟨0, _, _, B, ps, _, by omega, rfl, rfl, H, rfl, Nat.le_refl _, ok_words OK.out, Below.refl _ _⟩
   case round =>
    obtain ⟨k, ll, lc, BB, L, vq, hk, rfl, rfl, HS, HL, HN, HV, HB⟩ := hrel
    clear H
    have a0 := (QQ.out.below HB.out).cell 0 _ rfl
    by_cases hlt : k < n
    case neg =>
     have HR : Hid (L = addL ps qs) := show _ = _ by have := HL.out; rw [add_end (by rw [EN.out]; omega)] at this; exact this
     go_wp2_with fail
     refine (l4Fit L BB _ _ HS.out).mono ?_
     rintro e u2 ⟨qa, ql, qc, rfl, W2, hb⟩
     have HB2 := HB.out.trans (hb.mono HB.out.size)
     have RR2 := RR.out.below HB2
     have r0 := RR2.cell 0 _ rfl
     have s0 := RR2.soft 0
     have BB2 := BW.out.trans (HB2.mono BW.out.size)
     have B0 := hide (BB2.setCell (p := ⟨w.heap.size + 2, 0, none⟩) (by show w.heap.size ≤ w.heap.size + 2; omega) (.slice qa ql qc))
     have Z0 := hide (RR2.set 0 (.slice qa ql qc) (by simp) rfl)
     have lu := RR.out.lt
     have W3 := W2.keep (w' := u2.setCell ⟨w.heap.size + 2, 0, none⟩ (.slice qa ql qc)) (Keep.of_turn ((Turn.refl (w.heap.size + 2) u2).setCell (p := ⟨w.heap.size + 2, 0, none⟩) rfl _)) (fun b h1 _ (h2 : b = _) => by have := HB.out.size; omega)
     have W4 := hide (W3.wide (lo' := w.heap.size) (hi' := (u2.setCell ⟨w.heap.size + 2, 0, none⟩ (.slice qa ql qc)).heap.size) (by have := HB.out.size; omega) (by simp [World.setCell]))
     have E1 : Hid (fitB L = T) := show _ = _ by rw [HR.out]; exact HT.out
     have E2 : Hid (fitP L = R) := show _ = _ by rw [HR.out]; exact HD.out
     clear W2 W3 HB2 RR2 BB2 hb lu a0
     go_wp2
     generalize u2.setCell ⟨w.heap.size + 2, 0, none⟩ (.slice qa ql qc) = U2 at B0 Z0 W4 ⊢
     have z0 := Z0.out.cell 0 _ rfl
     exact bodyPost_ret (v := .tuple #[.agg #[.slice qa ql qc], .bool (fitB L)]) (by simp [results, Tryz.results78, go_sem, z0]) rfl ⟨qa, ql, qc, by rw [E1.out], by rw [← E2.out]; exact W4.out, B0.out⟩
    obtain ⟨x, ex⟩ : ∃ x, qs[k]? = some x := ⟨_, List.getElem?_eq_getElem (by rw [EN.out]; exact hlt)⟩
    obtain ⟨rfl, hc⟩ := H4.out.resolve_left (fun e => by rw [e] at ex; simp at ex)
    have C0 := hide (ok_words OK'.out x (List.mem_of_getElem? ex))
    have HL2 := hide ((add_next (l := L) ex).symm.trans HL.out)
    obtain ⟨c, at_⟩ := x
    obtain ⟨g1, s, b, g2, g3⟩ := hc k _ ex
    have BU := BW.out.trans (HB.out.mono BW.out.size)
    have cx := cell_below BU g1
    have sx := cell_below BU g2
    have RX := hide (g3.below BU)
    obtain ⟨qa, ca, _, rfl, _⟩ := g3
    simp only [] at cx sx RX C0
    have lk : ((k : Nat) : Int) < (n : Nat) := by omega
    have L1 : Hid (L.length ≤ 1000) := show _ ≤ _ by have := HN.out; have := ok_len OK.out; have := ok_len OK'.out; have := EN.out; omega
    clear ex g1 g2 hc BU
    go_wp2_with fail
    refine (l4Plus L c at_ BB b _ _ _ HS.out RX.out L1.out C0.out HV.out).mono ?_
    rintro e u2 ⟨B2, qa2, ql2, qc2, rfl, P2, hb⟩
    have HB2 := hide (HB.out.trans (hb.mono HB.out.size))
    have NL : Hid ((plusL (c, at_) false L).length ≤ ps.length + (k + 1)) := show _ ≤ _ by have := plus_len (m := (c, at_)) L false; have := HN.out; omega
    have NV : Hid (Words (plusL (c, at_) false L)) := plus_words C0.out L false HV.out
    have P3 := hide P2
    clear hb a0 cx sx P2
    go_wp2
    exact ⟨⟨k + 1, ql2, qc2, B2, plusL (c, at_) false L, qa2, by omega, by go_num, rfl, P3, HL2, NL, NV, HB2⟩, by simp [intOf]; omega⟩
end Go.Proofs.YtggilenddbobnaaGreat.Pol
namespace Go.Proofs.YtggilenddbobnaaGreat.Pol
set_option linter.unusedVariables false
open Go.ChangeShapes Go.WideShapes Go.ChangeAt Go.RowKit IntS
def mergeL : List Int → List Int → List Int
 | xs, [] => xs
 | [], y :: r => y :: mergeL [] r
 | x :: s, y :: r => if x ≤ y then x :: mergeL s (y :: r) else y :: mergeL (x :: s) r
termination_by xs ys => xs.length + ys.length
theorem merge_nil (xs : List Int) : mergeL xs [] = xs := by cases xs <;> rw [mergeL]
theorem merge_end {xs ys : List Int} {i k : Nat} (h : ys.length ≤ k) : mergeL (xs.drop i) (ys.drop k) = xs.drop i := by rw [List.drop_eq_nil_of_le h, merge_nil]
theorem merge_take {xs ys : List Int} {i k : Nat} {x y : Int} (hx : xs[i]? = some x) (hy : ys[k]? = some y) (h : x ≤ y) : mergeL (xs.drop i) (ys.drop k) = x :: mergeL (xs.drop (i + 1)) (ys.drop k) := by
 rw [drop_cons hx, drop_cons hy, mergeL, if_pos h]
theorem merge_put {xs ys : List Int} {i k : Nat} {x y : Int} (hx : xs[i]? = some x) (hy : ys[k]? = some y) (h : ¬ x ≤ y) : mergeL (xs.drop i) (ys.drop k) = y :: mergeL (xs.drop i) (ys.drop (k + 1)) := by
 rw [drop_cons hx, drop_cons hy, mergeL, if_neg h]
theorem merge_rest {xs ys : List Int} {i k : Nat} {y : Int} (hx : xs.length ≤ i) (hy : ys[k]? = some y) : mergeL (xs.drop i) (ys.drop k) = y :: mergeL (xs.drop i) (ys.drop (k + 1)) := by
 rw [List.drop_eq_nil_of_le hx, drop_cons hy, mergeL]
theorem merge_len : ∀ xs ys : List Int, (mergeL xs ys).length = xs.length + ys.length
 | xs, [] => by rw [merge_nil]; rfl
 | [], y :: r => by rw [mergeL, List.length_cons, merge_len [] r]; simp
 | x :: s, y :: r => by
  rw [mergeL]
  split
  · rw [List.length_cons, merge_len s (y :: r)]; simp; omega
  · rw [List.length_cons, merge_len (x :: s) r]; simp; omega
termination_by xs ys => xs.length + ys.length
/-- A row of ints appended to a list that the call made. -/
theorem wpList_join {w : World} {ops : Array Oper} {rest : List Oper} {o : Oper} {a : Act} {Q : Exit → Act → World → Prop} (hgd : o.guard = none) (s x : Operand)
 (ho : o.op = .call { callee := .builtin .append, args := #[s, x], argTypes := #[73, 73] })
 (lo b cap0 : Nat) (ys : List Int) (hs : a.eval s = .slice (some ⟨b, 0, none⟩) ys.length cap0) (hown : IntS.Own w lo (.slice (some ⟨b, 0, none⟩) ys.length cap0) ys) (hlo : lo ≤ w.heap.size)
 (v : Value) (B : Nat) (xs : List Int) (hx : a.eval x = v) (hr : Row w B v xs) (hl : xs.length ≤ 1000000) (hl2 : ys.length ≤ 1000000)
 (h : ∀ (g' cap' : Nat) (w' : World), Hid (Row w' g' (.slice (some ⟨g', 0, none⟩) (ys ++ xs).length cap') (ys ++ xs)) → Hid (Turn b w w') →
  wpList Tryz.prog ops Q rest (a.put o.dst (.slice (some ⟨g', 0, none⟩) (ys ++ xs).length cap')) w') : wpList Tryz.prog ops Q (o :: rest) a w := by
 obtain ⟨i0, hi, hz, hsz, hby⟩ := info_int
 have key (ad : Addr) (m c : Nat) (hv : v = .slice (some ad) m c) (hm : xs.length = m) (hc : ∀ j u, (vals xs)[j]? = some u → w.cell? (ad.add j) = some u) : wpList Tryz.prog ops Q (o :: rest) a w := by
  subst hm
  refine wpList_append_own w hgd s x 73 ho lo 3 i0 (.int .i64 0) 1 8 Tryz.underlying73 hi hz hsz hby rfl (by decide) (.slice (some ⟨b, 0, none⟩) ys.length cap0) ys.length (vals ys) hs hown ad xs.length c (vals xs) (hx.trans hv) (by rw [vals_len]; omega) hc (fun u hu => ?_) (by unfold maxLen; omega) (by omega) hlo (fun v' w' h1 h2 h3 => ?_)
  · obtain ⟨y, _, rfl⟩ := List.mem_map.1 hu
    rfl
  · have hne : ¬ v' = .slice none 0 0 := fun e => by cases (h3.1 e).1
    have h1' : IntS.Own w' lo v' (ys ++ xs) := by
     unfold IntS.Own
     rw [List.length_append, show vals (ys ++ xs) = vals ys ++ vals xs by simp [vals]]
     exact h1
    obtain ⟨g', cap', rfl, k1, k2, k3⟩ := h1'.form hne
    exact h g' cap' w' (hide k3.row) (hide (Turn.of_grown h2))
 obtain ⟨a0, cap, off, hv, h2, h3, hz0, h4⟩ := hr
 cases a0 with
 | none =>
  have hc0 := hz0 rfl
  subst hc0
  have hx0 : xs = [] := List.length_eq_zero_iff.1 (by omega)
  subst hx0
  refine wpList_append_own_none hgd s x 73 ho lo 3 i0 1 Tryz.underlying73 hi (.slice (some ⟨b, 0, none⟩) ys.length cap0) ys.length (vals ys) hs hown (hx.trans hv) ?_
  obtain ⟨g', cap', e, k1, k2, k3⟩ := hown.form (fun e => by cases e)
  cases e
  have := h b cap0 w (hide (by rw [List.append_nil]; exact k3.row)) (hide (Turn.refl _ _))
  rw [List.append_nil] at this
  exact this
 | some ad =>
  rcases h4 with h4 | ⟨h4, h5⟩
  · subst h4
    exact key ad 0 cap hv rfl (fun j u hu => by simp [vals] at hu)
  · refine key ad xs.length cap hv rfl (fun j u hu => ?_)
    cases h4
    rw [Go.WideShapes.add_plain]
    simp only [vals, List.getElem?_map, Option.map_eq_some_iff] at hu
    obtain ⟨y, hy, rfl⟩ := hu
    exact h5 j y hy
end Go.Proofs.YtggilenddbobnaaGreat.Pol
