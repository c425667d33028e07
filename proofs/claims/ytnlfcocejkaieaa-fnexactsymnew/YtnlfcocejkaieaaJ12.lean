/-
  The registers at the beginning: the specification's SymNew.
  Whether all atoms of a sum are below a number: the program's PolUnder and the specification's.
  How two sums stand: the program's orderOfParts, slices.CompareFunc with it, its PolOrder, and the specification's PolOrder.
  Which atoms are ok, and the specification's TabOk.
-/
import Derived.Test.YtnlfcocejkaieaaJ11
import Derived.Test.YtnlfcocejkaieaaJ05
import Derived.Test.YtnlfcocejkaieaaJ06
import Derived.Test.YtnlfcocejkaieaaJ10
namespace Go.Proofs.Ytnlfcocejkaieaa.Sym
set_option linter.unusedVariables false
set_option linter.unusedSimpArgs false
open Go.ChangeShapes Go.WideShapes Go.ChangeAt Go.RowKit IntS Pol Tab
theorem alloc_below (u : World) (o : Obj) : Below u.heap.size u (u.alloc o) := (Below.refl _ _).alloc (Nat.le_refl _) o
/-- What SymNew tells. -/
def NewR (w : World) (e : Ending) (w' : World) : Prop := ∃ q cap q2 cap2 ss l h, e = .returned (.tuple #[.agg #[.slice q 4 cap], .slice q2 4 cap2]) ∧ Regs w' w.heap.size q cap q2 cap2 ss l h 4 4 ∧ Below w.heap.size w w'
theorem grown_below {u u' : World} {lo n cap : Nat} {q : Option Addr} (hq : q = none ∨ ∃ G, q = some ⟨G, 0, none⟩ ∧ lo ≤ G) (hs : lo ≤ u.heap.size) (gr : u.grownBy u' (Value.slice q n cap).ownBlock) : Below lo u u' := by
  obtain ⟨T, ht, hT⟩ := Flat.grown_turn gr (hq.imp id (fun ⟨G, e, _⟩ => ⟨G, e⟩))
  refine ht.below ?_ hs
  rcases hT with hT | hT
  · rcases hq with e | ⟨G, e, hl⟩
    · rw [e] at hT; cases hT
    · rw [e] at hT
      injection hT with e1
      injection e1 with e2
      omega
  · omega
theorem rec_low {Z lo : Nat} {cs : List Value} {u u' : World} (h : Rec Z cs u) (hb : Below lo u u') (hz : Z < lo) : Rec Z cs u' := by
  have e := hb.block Z hz
  exact ⟨Nat.lt_of_lt_of_le h.lt hb.size, fun i v hv => (World.cell?_of_block (w := u) (a := ⟨Z, i, none⟩) e).trans (h.cell i v hv), fun i => (World.frozen?_of_block (w := u) (a := ⟨Z, i, none⟩) e).trans (h.soft i)⟩
theorem Regs.low {w : World} {lo lo' cap cap2 k ks : Nat} {q q2 : Option Addr} {ss : List Value} {l h : Nat → Nat} (H : Regs w lo q cap q2 cap2 ss l h k ks) (hl : lo' ≤ lo) : Regs w lo' q cap q2 cap2 ss l h k ks := by
  refine ⟨⟨H.a.1, H.a.2.imp id (fun ⟨g, c, cur, e, hb, r⟩ => ⟨g, c, cur, e, Nat.le_trans hl hb, r⟩)⟩, ⟨⟨H.s.own.1, H.s.own.2.imp id (fun ⟨g, c, cur, e, hb, r⟩ => ⟨g, c, cur, e, Nat.le_trans hl hb, r⟩)⟩, H.s.len, fun i p hi => ?_, H.s.inc⟩, H.ne, H.far⟩
  obtain ⟨s, k1, k2, k4, k5, k7, k8⟩ := H.s.rows i p hi
  exact ⟨s, k1, k2, Nat.le_trans hl k4, k5, k7, k8⟩
set_option maxRecDepth 8000 in
set_option maxHeartbeats 8000000 in
theorem specSymNew (w : World) : Calls Try.prog 4 #[] w (NewR w) := by
  have FI : Hid (∀ q cap q2 cap2 ss l h u, Regs u (w.heap.size + 1 + 1) q cap q2 cap2 ss l h 4 4 → Below w.heap.size w u → NewR w (.returned (.tuple #[.agg #[.slice q 4 cap], .slice q2 4 cap2])) u) := fun q cap q2 cap2 ss l h u h1 h2 => ⟨q, cap, q2, cap2, ss, l, h, rfl, h1.low (by omega), h2⟩
  obtain ⟨R, eR⟩ : ∃ R, NewR w = R := ⟨_, rfl⟩
  rw [eR] at FI ⊢
  clear eR
  have A0 := (Rec.new w [.slice none 0 0] 24).alloc (.cells #[.slice none 0 0] 24)
  have X0 := Rec.new (w.alloc (.cells #[.slice none 0 0] 24)) [.slice none 0 0] 24
  rw [show (w.alloc (.cells #[.slice none 0 0] 24)).heap.size = w.heap.size + 1 by simp] at X0
  obtain ⟨W2, e2⟩ : ∃ W2, (w.alloc (.cells #[.slice none 0 0] 24)).alloc (.cells #[.slice none 0 0] 24) = W2 := ⟨_, rfl⟩
  have S2 : W2.heap.size = w.heap.size + 1 + 1 := by rw [← e2]; simp
  have B2 : Below w.heap.size w W2 := by rw [← e2]; exact ((Below.refl _ _).alloc (Nat.le_refl _) _).alloc (by simp) _
  rw [e2] at A0 X0
  have bo := alloc_below W2 (.cells #[] 35)
  have RG0 : Regs (W2.alloc (.cells #[] 35)) (w.heap.size + 1 + 1) none 0 (some ⟨w.heap.size + 1 + 1, 0, none⟩) 0 [] (fun _ => 0) (fun _ => 0) 0 0 := by
    refine ⟨⟨rfl, Or.inl ⟨rfl, rfl⟩⟩, ⟨⟨rfl, Or.inr ⟨w.heap.size + 1 + 1, 0, #[], rfl, Nat.le_refl _, ?_, Nat.le_refl _, by unfold maxLen; omega, by simp, by simp⟩⟩, rfl, fun i t h => by simp [regsS] at h, fun i j _ h => by simp [regsS] at h⟩, (fun G G' e => by cases e), (fun G e => by cases e)⟩
    rw [← S2]
    exact (MapKept.heap_alloc W2 _).1
  have RG := hide RG0
  have RA := hide (And.intro (A0.below bo) (X0.below bo))
  have BW := hide (B2.trans (bo.mono B2.size))
  have E2 := hide e2
  clear RG0 A0 X0 B2 bo S2 e2
  go_enter Try.func4, Try.ntmps4
  go_wp2
  have BWs : Hid (Below w.heap.size w (((w.alloc (.cells #[.slice none 0 0] 24)).alloc (.cells #[.slice none 0 0] 24)).alloc (.cells #[] 35))) := show Below _ _ _ by rw [E2.out]; exact BW.out
  rw [← E2.out] at RG RA
  clear BW E2 W2
  go_loopw [3, 4] (fun rs i wr => ∃ (k cap cap2 : Nat) (q q2 : Option Addr) (ss : List Value) (l h : Nat → Nat), k ≤ 4 ∧ i = .int .i64 k ∧ rs = .slice q2 k cap2 ∧ Hid (Regs wr (w.heap.size + 1 + 1) q cap q2 cap2 ss l h k k) ∧ Hid (Rec w.heap.size [.slice none 0 0] wr ∧ Rec (w.heap.size + 1) [.slice q k cap] wr) ∧ Hid (Below w.heap.size w wr)) (fun _ i _ => 4 - (intOf i).toNat)
  case atStart => exact ⟨0, 0, 0, none, some ⟨w.heap.size + 1 + 1, 0, none⟩, [], fun _ => 0, fun _ => 0, by omega, rfl, rfl, RG, RA, BWs⟩
  case round =>
    clear RG RA BWs
    obtain ⟨k, cap, cap2, q, q2, ss, l, h, hk, rfl, rfl, RG, RA, BW⟩ := hrel
    by_cases hlt : k < 4
    case neg =>
      obtain rfl : k = 4 := by omega
      have x0 := RA.out.2.cell 0 _ rfl
      have y0 := RA.out.1.cell 0 _ rfl
      have s0 := RA.out.1.soft 0
      have tn : Turn w.heap.size wr (wr.setCell ⟨w.heap.size, 0, none⟩ (.slice q 4 cap)) := (Turn.refl w.heap.size wr).setCell (p := ⟨w.heap.size, 0, none⟩) rfl _
      have FX := hide (FI.out _ _ _ _ _ _ _ _ (RG.out.turn tn (Or.inl (by omega))) (BW.out.trans (tn.below (Nat.le_refl _) BW.out.size)))
      have z0 := (RA.out.1.set 0 (.slice q 4 cap) (by simp) rfl).cell 0 _ rfl
      clear tn RG RA BW FI
      go_wp2
      exact bodyPost_ret (v := .tuple #[.agg #[.slice q 4 cap], .slice q2 4 cap2]) (by simp [results, Try.results4, go_sem, z0]) rfl FX.out
    have lk : ((k : Nat) : Int) < 4 := by omega
    have bo := alloc_below wr (.cells #[.int .i64 1, .int .i64 k, .slice none 0 0, .slice none 0 0] 37)
    have x0 := RA.out.2.cell 0 _ rfl
    have LW : w.heap.size + 1 + 1 ≤ wr.heap.size := RA.out.2.lt
    have H1 := RG.out.below bo
    have cc (j : Nat) (v : Value) (hv : (#[.int .i64 1, .int .i64 (k : Int), .slice none 0 0, .slice none 0 0] : Array Value)[j]? = some v) : (wr.alloc (.cells #[.int .i64 1, .int .i64 k, .slice none 0 0, .slice none 0 0] 37)).cell? ((⟨wr.heap.size, 0, none⟩ : Addr).add j) = some v := by
      rw [Go.WideShapes.add_plain, Nat.zero_add]
      rw [← hv]
      exact World.cell?_alloc_new wr #[.int .i64 1, .int .i64 (k : Int), .slice none 0 0, .slice none 0 0] 37 j
    obtain ⟨g9, c9, u9, hrun, ho9, hor9, hlt9, gr⟩ := run_pushT (ty := 22) H1.a (regC_len k) (by omega) (Nat.le_trans LW bo.size) ⟨wr.heap.size, 0, none⟩ 1 k none 0 0 none 0 0 (cc 0 _ rfl) (cc 1 _ rfl) (cc 2 _ rfl) (cc 3 _ rfl)
    have BG := grown_below (lo := w.heap.size + 1 + 1) (H1.q_form.imp id (fun ⟨G, e, h1, _⟩ => ⟨G, e, h1⟩)) (Nat.le_trans LW bo.size) gr
    have R9 := hide (H1.addA ho9 hor9 gr)
    have A9 := hide (And.intro (rec_low (RA.out.1.below bo) BG (by omega)) (rec_low (RA.out.2.below bo) BG (by omega)))
    have BW9 := hide ((BW.out.trans (bo.mono BW.out.size)).trans (BG.mono (by omega)))
    have L9 : Hid (w.heap.size + 1 + 1 ≤ u9.heap.size) := Nat.le_trans (Nat.le_trans LW bo.size) BG.size
    clear H1 cc ho9 hor9 hlt9 gr BG RG RA BW bo LW
    go_wp2_with (at_builtin; refine Flat.push_list rfl _ _ rfl rfl rfl hrun ?_; refine Hid.out ?_)
    have w0 := A9.out.2.cell 0 _ rfl
    have v0 := A9.out.2.soft 0
    have tn : Turn (w.heap.size + 1) u9 (u9.setCell ⟨w.heap.size + 1, 0, none⟩ (.slice (some ⟨g9, 0, none⟩) (k + 1) c9)) := (Turn.refl (w.heap.size + 1) u9).setCell (p := ⟨w.heap.size + 1, 0, none⟩) rfl _
    have R10 := hide (R9.out.turn tn (Or.inl (by omega)))
    have A10 := hide (And.intro (A9.out.1.turn tn (by omega)) (A9.out.2.set 0 (.slice (some ⟨g9, 0, none⟩) (k + 1) c9) (by simp) rfl))
    have BW10 := hide (BW9.out.trans (tn.below (by omega) BW9.out.size))
    have L10 : Hid (w.heap.size + 1 + 1 ≤ (u9.setCell ⟨w.heap.size + 1, 0, none⟩ (.slice (some ⟨g9, 0, none⟩) (k + 1) c9)).heap.size) := Nat.le_trans L9.out tn.size
    clear R9 A9 BW9 L9 tn hrun x0
    refine hide ?_
    go_wp2_with fail
    generalize u9.setCell ⟨w.heap.size + 1, 0, none⟩ (.slice (some ⟨g9, 0, none⟩) (k + 1) c9) = u10 at R10 A10 BW10 L10 ⊢
    refine (specAtom (k : Int) u10).mono ?_
    rintro e u11 ⟨a, la, ca, rfl, WP, hb⟩
    have bo := alloc_below u11 (.cells #[.slice a la ca] 35)
    have H2 := (R10.out.below hb).below bo
    have CN : (u11.alloc (.cells #[.slice a la ca] 35)).cell? ((⟨u11.heap.size, 0, none⟩ : Addr).add 0) = some (.slice a la ca) := by
      rw [Go.WideShapes.add_plain]
      exact World.cell?_alloc_new u11 #[.slice a la ca] 35 0
    have el := regsS_len k
    have OS := H2.s.own
    rw [el] at OS
    obtain ⟨g2, c2, u12, hrun, ho2, hor2, hlt2, gr⟩ := run_pushS (ty := 25) OS (by rw [H2.s.len, el]) (by omega) (Nat.le_trans (Nat.le_trans L10.out hb.size) bo.size) ⟨u11.heap.size, 0, none⟩ a la ca CN
    have BG := grown_below (lo := w.heap.size + 1 + 1) (H2.s.q_form.imp (fun e => e.1) (fun ⟨G, e⟩ => ⟨G, e, (H2.s.q_lt e).1⟩)) (Nat.le_trans (Nat.le_trans L10.out hb.size) bo.size) gr
    have R12 := hide (H2.addS (WP.below bo) L10.out hb.size bo.size (fun i hi => by
      obtain ⟨p, hp⟩ : ∃ p, (regsS k)[i]? = some p := ⟨_, List.getElem?_eq_getElem (by rw [el]; exact hi)⟩
      obtain ⟨_, _, _, _, _, k7, _⟩ := R10.out.s.rows i p hp
      exact k7) (fun G e => (R10.out.s.q_lt e).2) (fun G e => by
      rcases R10.out.q_form with e4 | ⟨G4, e4, _, g4⟩
      · rw [e] at e4; cases e4
      · rw [e] at e4
        injection e4 with e5
        injection e5 with e6
        omega) ho2 hor2 gr)
    have A12 := hide (And.intro (rec_low ((A10.out.1.below hb).below bo) BG (by omega)) (rec_low ((A10.out.2.below hb).below bo) BG (by omega)))
    have BW12 := hide (((BW10.out.trans (hb.mono BW10.out.size)).trans (bo.mono (Nat.le_trans BW10.out.size hb.size))).trans (BG.mono (by omega)))
    clear H2 CN OS ho2 hor2 hlt2 gr BG R10 A10 BW10 L10 WP hb bo el
    go_wp2_with (at_builtin; refine Flat.push_list rfl _ _ rfl rfl rfl hrun ?_)
    exact ⟨⟨k + 1, c9, c2, some ⟨g9, 0, none⟩, some ⟨g2, 0, none⟩, _, _, _, by omega, by go_num, rfl, R12, A12, BW12⟩, by simp [intOf]; omega⟩
end Go.Proofs.Ytnlfcocejkaieaa.Sym
namespace Go.Proofs.Ytnlfcocejkaieaa.Pol
open Go.ChangeShapes Go.WideShapes Go.ChangeAt Go.RowKit IntS
def rowAt (ps : List Mono) (n : Int) (i : Nat) : Bool := (List.range (ps.getD i (0, [])).2.length).all fun j => decide ((ps.getD i (0, [])).2.getD j 0 < n)
theorem under_rows (ps : List Mono) (n : Int) : underB ps n = (List.range ps.length).all (rowAt ps n) := rfl
theorem row_no {ps : List Mono} {n : Int} {k j : Nat} {c x : Int} {at_ : List Int} (h : ps[k]? = some (c, at_)) (hx : at_[j]? = some x) (hn : n ≤ x) : rowAt ps n k = false := by
  unfold rowAt
  rw [getD_part h]
  exact all_no (k := j) (List.getElem?_eq_some_iff.1 hx).1 (by rw [getD_at hx]; exact decide_eq_false (by omega))
theorem row_yes {ps : List Mono} {n : Int} {k : Nat} {c : Int} {at_ : List Int} (h : ps[k]? = some (c, at_)) (hx : ∀ (j : Nat) x, at_[j]? = some x → x < n) : rowAt ps n k = true := by
  unfold rowAt
  rw [getD_part h]
  exact all_yes fun j hj => by
    rw [getD_at (List.getElem?_eq_getElem hj)]
    exact decide_eq_true (hx j _ (List.getElem?_eq_getElem hj))
set_option maxRecDepth 4000 in
set_option maxHeartbeats 8000000 in
theorem implUnder (ps : List Mono) (q : Int) (B : Nat) (v : Value) (w : World) (h : PRow w B v ps) :
    Calls Try.prog 41 #[.agg #[v], .int .i64 q] w fun e w' => e = .returned (.bool (underB ps q)) ∧ Below w.heap.size w w' := by
  obtain ⟨a, cap, off, rfl, h2, h3, hz, h4⟩ := h
  unfold maxLen at h3
  clear hz
  have bV : Below w.heap.size w (w.alloc (.cells #[.slice a ps.length cap] 35)) := (Below.refl _ _).alloc (Nat.le_refl _) _
  have BW := hide bV
  clear bV
  have HM := hide (under_rows ps q)
  obtain ⟨RES, eRES⟩ : ∃ r, underB ps q = r := ⟨_, rfl⟩
  rw [eRES]
  replace HM := hide (eRES.symm.trans HM.out)
  clear eRES
  obtain ⟨n, en⟩ : ∃ n, ps.length = n := ⟨_, rfl⟩
  have EN := hide en
  rw [en] at h2 BW HM ⊢
  have H4 := hide h4
  clear en h4
  go_enter Try.func41, Try.ntmps41
  by_cases h0 : n = 0
  · subst h0
    have HD : Hid (RES = true) := HM.out.trans rfl
    go_wp2
    refine wp_loop_rounds 1 ?_
    rw [rounds_succ]
    go_wp2
    go_ret
    exact ⟨ret_bool HD.out.symm, BW.out⟩
  · obtain ⟨rfl, hc⟩ := H4.out.resolve_left (fun e => h0 (by rw [← EN.out, e]; rfl))
    have HC := hide hc
    clear hc H4
    go_wp2
    have ZZ : Hid ((w.alloc (.cells #[.slice (some ⟨B, off, none⟩) n cap] 35)).cell? ⟨w.heap.size, 0, none⟩ = some (.slice (some ⟨B, off, none⟩) n cap)) := show _ = _ by rw [World.cell?_alloc_new]; rfl
    have HV : Hid (∀ (i : Nat) x, ps[i]? = some x → (w.alloc (.cells #[.slice (some ⟨B, off, none⟩) n cap] 35)).cell? ⟨B, off + i * 2, none⟩ = some (.int .i64 x.1) ∧ ∃ s b, (w.alloc (.cells #[.slice (some ⟨B, off, none⟩) n cap] 35)).cell? ⟨B, off + i * 2 + 1, none⟩ = some s ∧ Row (w.alloc (.cells #[.slice (some ⟨B, off, none⟩) n cap] 35)) b s x.2) := fun i x hx => by
      obtain ⟨g1, s, b, g2, g3⟩ := HC.out i x hx
      have bb := (Below.refl w.heap.size w).alloc (Nat.le_refl _) (.cells #[.slice (some ⟨B, off, none⟩) n cap] 35)
      exact ⟨cell_below bb g1, s, b, cell_below bb g2, g3.below bb⟩
    generalize w.alloc (.cells #[.slice (some ⟨B, off, none⟩) n cap] 35) = V at BW HV ZZ ⊢
    go_loopw [12] (fun i wr => ∃ k : Nat, k ≤ n ∧ i = .int .i64 k ∧ Hid (∀ j, j < k → rowAt ps q j = true) ∧ Hid (Below V.heap.size V wr)) (fun i _ => n - (intOf i).toNat)
    case atStart => exact ⟨0, by omega, rfl, fun j hj => by omega, Below.refl _ _⟩
    case round =>
      obtain ⟨k, hk, rfl, HE, HB⟩ := hrel
      have z0 := cell_below HB.out ZZ.out
      by_cases hlt : k < n
      case neg =>
        have HD : Hid (RES = true) := HM.out.trans (all_yes fun j hj => HE.out j (by omega))
        go_wp2
        go_ret
        exact ⟨ret_bool HD.out.symm, BW.out.trans (HB.out.mono BW.out.size)⟩
      obtain ⟨x, ex⟩ : ∃ x, ps[k]? = some x := ⟨_, List.getElem?_eq_getElem (by rw [EN.out]; exact hlt)⟩
      obtain ⟨c, at_⟩ := x
      obtain ⟨g1, s, b, g2, g3⟩ := HV.out k _ ex
      have cx := cell_below HB.out g1
      have sx := cell_below HB.out g2
      replace g3 := g3.below HB.out
      have EX := hide ex
      obtain ⟨qa, ca, oa, rfl, l2, l3, _, l4⟩ := g3
      unfold maxLen at l3
      simp only [] at cx sx l2 l4
      have lk : ((k : Nat) : Int) < (n : Nat) := by omega
      have NX : Hid (rowAt ps q k = true → ∀ j, j < k + 1 → rowAt ps q j = true) := fun hr j hj => by
        by_cases ej : j = k
        · subst ej; exact hr
        · exact HE.out j (by omega)
      clear ex g1 g2
      obtain ⟨m, em⟩ : ∃ m, at_.length = m := ⟨_, rfl⟩
      have EM := hide em
      rw [em] at sx l2
      have L4 := hide l4
      clear em l4
      by_cases m0 : m = 0
      · subst m0
        have HX := hide (NX.out (row_yes EX.out (fun j y hy => by rw [List.length_eq_zero_iff.1 EM.out] at hy; simp at hy)))
        have BX := hide (HB.out.trans (((Below.refl wr.heap.size wr).alloc (Nat.le_refl _) (.cells #[.int .i64 c, .slice qa 0 ca] 53)).mono HB.out.size))
        go_wp2
        refine wp_loop_rounds 1 ?_
        rw [rounds_succ]
        go_wp2
        exact ⟨⟨k + 1, by omega, by go_num, HX, BX⟩, by simp [intOf]; omega⟩
      · obtain ⟨rfl, hc2⟩ := L4.out.resolve_left (fun e => m0 (by rw [← EM.out, e]; rfl))
        have bX := (Below.refl wr.heap.size wr).alloc (Nat.le_refl _) (.cells #[.int .i64 c, .slice (some ⟨b, oa, none⟩) m ca] 53)
        have HC2 := hide (fun (j : Nat) (y : Int) (hy : at_[j]? = some y) => cell_below bX (hc2 j y hy))
        have BX := hide (HB.out.trans (bX.mono HB.out.size))
        clear hc2 L4 bX
        go_wp2
        generalize wr.alloc (.cells #[.int .i64 c, .slice (some ⟨b, oa, none⟩) m ca] 53) = U at HC2 BX ⊢
        clear cx sx z0
        go_loopw [19] (fun i w2 => ∃ j : Nat, j ≤ m ∧ i = .int .i64 j ∧ Hid (∀ (t : Nat) y, t < j → at_[t]? = some y → y < q) ∧ w2 = U) (fun i _ => m - (intOf i).toNat)
        case atStart => exact ⟨0, by omega, rfl, fun t y ht => by omega, rfl⟩
        case round =>
          obtain ⟨j, hj, rfl, HT, rfl⟩ := hrel
          by_cases jlt : j < m
          · obtain ⟨y, ey⟩ : ∃ y, at_[j]? = some y := ⟨_, List.getElem?_eq_getElem (by rw [EM.out]; exact jlt)⟩
            have cy := HC2.out j y ey
            have EY := hide ey
            have lj : ((j : Nat) : Int) < (m : Nat) := by omega
            clear ey
            by_cases hb : q ≤ y
            · have HD : Hid (RES = false) := HM.out.trans (all_no (k := k) hlt (row_no EX.out EY.out hb))
              go_wp2
              go_ret
              exact ⟨ret_bool HD.out.symm, BW.out.trans (BX.out.mono BW.out.size)⟩
            · have HX : Hid (∀ (t : Nat) z, t < j + 1 → at_[t]? = some z → z < q) := fun t z ht hz => by
                by_cases et : t = j
                · subst et
                  rw [EY.out] at hz
                  obtain rfl := Option.some.inj hz
                  omega
                · exact HT.out t z (by omega) hz
              go_wp2
              exact ⟨⟨j + 1, by omega, by go_num, HX, trivial⟩, by simp [intOf]; omega⟩
          · have HX := hide (NX.out (row_yes EX.out (fun t y hy => HT.out t y (by have := (List.getElem?_eq_some_iff.1 hy).1; rw [EM.out] at this; omega) hy)))
            go_wp2
            exact ⟨⟨k + 1, by omega, by go_num, HX, BX⟩, by simp [intOf]; omega⟩
end Go.Proofs.Ytnlfcocejkaieaa.Pol
namespace Go.Proofs.Ytnlfcocejkaieaa.Pol
open Go.ChangeShapes Go.WideShapes Go.ChangeAt Go.RowKit IntS
def ordPart (x y : Mono) : Int := if ordA x.2 y.2 ≠ 0 then ordA x.2 y.2 else cmpI x.1 y.1
theorem part_atoms {x y : Mono} (h : ordA x.2 y.2 ≠ 0) : ordPart x y = ordA x.2 y.2 := if_pos h
theorem part_coef {x y : Mono} (h : ordA x.2 y.2 = 0) : ordPart x y = cmpI x.1 y.1 := if_neg (fun h2 => h2 h)
theorem ordM_cons (x y : Mono) (xs ys : List Mono) : ordM (x :: xs) (y :: ys) = if ordPart x y ≠ 0 then ordPart x y else ordM xs ys := by
  rw [ordM]
  unfold ordPart cmpI
  by_cases h : ordA x.2 y.2 ≠ 0
  · simp [h]
  · rw [if_neg h, if_neg h]
    by_cases h1 : x.1 < y.1
    · simp [h1]
    · by_cases h2 : y.1 < x.1
      · simp [h1, h2]
      · simp [h1, h2]
theorem ordM_ne {ps rs : List Mono} {k : Nat} {x y : Mono} (hx : ps[k]? = some x) (hy : rs[k]? = some y) (h : ordPart x y ≠ 0) : ordM (ps.drop k) (rs.drop k) = ordPart x y := by
  rw [drop_cons hx, drop_cons hy, ordM_cons, if_pos h]
theorem ordM_eq {ps rs : List Mono} {k : Nat} {x y : Mono} (hx : ps[k]? = some x) (hy : rs[k]? = some y) (h : ordPart x y = 0) : ordM (ps.drop k) (rs.drop k) = ordM (ps.drop (k + 1)) (rs.drop (k + 1)) := by
  rw [drop_cons hx, drop_cons hy, ordM_cons, if_neg (fun h2 => h2 h)]
theorem ordM_end {ps rs : List Mono} {k : Nat} (ha : ps.length ≤ k) (hb : rs.length ≤ k) : ordM (ps.drop k) (rs.drop k) = 0 := by
  rw [List.drop_eq_nil_of_le ha, List.drop_eq_nil_of_le hb]
  rfl
theorem ordP_same {a b : List Mono} (h : a.length = b.length) : ordP a b = ordM a b := by unfold ordP; rw [if_neg (by omega), if_neg (by omega)]
theorem ordP_lt {a b : List Mono} (h : a.length < b.length) : ordP a b = -1 := by unfold ordP; rw [if_pos h]
theorem ordP_gt {a b : List Mono} (h : b.length < a.length) : ordP a b = 1 := by unfold ordP; rw [if_neg (by omega), if_pos h]
end Go.Proofs.Ytnlfcocejkaieaa.Pol
namespace Go.Proofs.Ytnlfcocejkaieaa.Tab
set_option linter.unusedVariables false
open Go.ChangeShapes Go.WideShapes Go.ChangeAt Go.RowKit IntS Pol
def bareB (t : At) : Bool := decide (t.x.length = 0) && decide (t.y.length = 0)
/-- Whether an atom is ok behind so many. -/
def atomB (t : At) (n : Int) : Bool := if t.kd = 1 then inI t.k 0 3 && bareB t else if t.kd = 2 ∨ t.kd = 3 then inI t.k 0 199 && bareB t else if t.kd = 4 then inI t.k 1 5 && okP t.x && okP t.y && underB t.x n && underB t.y n else false
theorem atom_reg {t : At} {n : Int} (h : t.kd = 1) : atomB t n = (inI t.k 0 3 && bareB t) := if_pos h
theorem atom_in {t : At} {n : Int} (h : t.kd = 2 ∨ t.kd = 3) : atomB t n = (inI t.k 0 199 && bareB t) := by unfold atomB; rw [if_neg (by omega), if_pos h]
theorem atom_do {t : At} {n : Int} (h : t.kd = 4) : atomB t n = (inI t.k 1 5 && okP t.x && okP t.y && underB t.x n && underB t.y n) := by unfold atomB; rw [if_neg (by omega), if_neg (by omega), if_pos h]
theorem atom_no {t : At} {n : Int} (h1 : t.kd ≠ 1) (h2 : t.kd ≠ 2) (h3 : t.kd ≠ 3) (h4 : t.kd ≠ 4) : atomB t n = false := by unfold atomB; rw [if_neg h1, if_neg (by omega), if_neg h4]
def sameB (s t : At) : Bool := decide (s.kd = t.kd) && decide (s.k = t.k) && decide (ordP s.x t.x = 0) && decide (ordP s.y t.y = 0)
theorem prow_max {w : World} {B : Nat} {q : Option Addr} {c : Nat} {ps : List Mono} {n : Nat} (h : PRow w B (.slice q n c) ps) : ps.length ≤ maxLen := by
  obtain ⟨a, cap, off, h1, h2, h3, _⟩ := h
  omega
end Go.Proofs.Ytnlfcocejkaieaa.Tab
