/-
  One atom more: the specification's l5Put and TabPut.
  Lists of words: the program's allWords and the specification's l1Words.
-/
import Derived.Test.YtagfgbkclopoeaaJ15
import Derived.Test.YtagfgbkclopoeaaJ05
namespace Go.Proofs.Ytagfgbkclopoeaa.Tab
set_option linter.unusedVariables false
set_option linter.unusedSimpArgs false
open Go.ChangeShapes Go.WideShapes Go.ChangeAt Go.RowKit IntS Pol Push
/-- Whether an atom is there. -/
def thereB (ts : List At) (a : At) : Bool := ts.any fun s => sameB s a
def putT (ts : List At) (a : At) : List At := if atomB a ts.length = true ∧ thereB ts a = false ∧ ts.length ≠ 200 then ts ++ [a] else ts
def putN (ts : List At) (a : At) : Int := if atomB a ts.length = true then (if thereB ts a = true then (ts.findIdx fun s => sameB s a) else if ts.length = 200 then -1 else ts.length) else -1
theorem put_bad {ts : List At} {a : At} (h : atomB a ts.length = false) : putT ts a = ts ∧ putN ts a = -1 := by
  unfold putT putN
  rw [h]
  simp
theorem put_there {ts : List At} {a s : At} {k : Nat} (h : atomB a ts.length = true) (hs : ts[k]? = some s) (he : sameB s a = true) (hno : ∀ (j : Nat) s', j < k → ts[j]? = some s' → sameB s' a = false) : putT ts a = ts ∧ putN ts a = k := by
  have ht : thereB ts a = true := List.any_eq_true.2 ⟨s, List.mem_of_getElem? hs, he⟩
  obtain ⟨hk, rfl⟩ := List.getElem?_eq_some_iff.1 hs
  have hi : (ts.findIdx fun s => sameB s a) = k := by
    refine (List.findIdx_eq hk).2 ⟨he, fun j hj => ?_⟩
    exact hno j _ hj (List.getElem?_eq_getElem (by omega))
  unfold putT putN
  rw [h, ht, hi]
  simp
theorem there_no {ts : List At} {a : At} (hno : ∀ (j : Nat) s', j < ts.length → ts[j]? = some s' → sameB s' a = false) : thereB ts a = false := by
  unfold thereB
  rw [List.any_eq_false]
  intro s hs
  obtain ⟨j, hj⟩ := List.getElem?_of_mem hs
  rw [hno j s (List.getElem?_eq_some_iff.1 hj).1 hj]
  decide
theorem put_full {ts : List At} {a : At} (h : atomB a ts.length = true) (hno : thereB ts a = false) (hl : ts.length = 200) : putT ts a = ts ∧ putN ts a = -1 := by
  unfold putT putN
  rw [h, hno, hl]
  simp
theorem put_new {ts : List At} {a : At} (h : atomB a ts.length = true) (hno : thereB ts a = false) (hl : ts.length ≠ 200) : putT ts a = ts ++ [a] ∧ putN ts a = ts.length := by
  unfold putT putN
  rw [h, hno]
  simp [hl]
theorem OTab.apart {w w' : World} {lo cap T : Nat} {q : Option Addr} {cs : List C4} {l m h : Nat → Nat} {ts : List At} (H : OTab w lo q cap cs l m h ts) (ht : Turn T w w') (hG : ∀ G, q = some ⟨G, 0, none⟩ → G ≠ T) (hR : ∀ i, i < ts.length → T < l i ∨ h i ≤ T) : OTab w' lo q cap cs l m h ts := by
  refine ⟨?_, H.len, fun i t hi => ?_, H.inc⟩
  · obtain ⟨h1, h0 | ⟨g, cap', cur, hv, hb, hh, rest⟩⟩ := H.own
    · exact ⟨h1, Or.inl h0⟩
    · have hg : g < w.heap.size := by rcases Nat.lt_or_ge g w.heap.size with h' | h'; exact h'; rw [Array.getElem?_eq_none h'] at hh; cases hh
      injection hv with e1 e2 e3
      exact ⟨h1, Or.inr ⟨g, cap', cur, by rw [e1, e2, e3], hb, (ht.block g hg (hG g e1)).trans hh, rest⟩⟩
  · obtain ⟨sx, sy, k1, k2, k3, k4, k5, k6, k7, k8⟩ := H.rows i t hi
    have := hR i (List.getElem?_eq_some_iff.1 hi).1
    exact ⟨sx, sy, k1, k2.keep (Keep.of_turn ht) (fun b h1 h2 (h3 : b = _) => by omega), k3.keep (Keep.of_turn ht) (fun b h1 h2 (h3 : b = _) => by omega), k4, k5, k6, Nat.le_trans k7 ht.size, k8⟩
theorem OTab.hi {w : World} {lo cap : Nat} {q : Option Addr} {cs : List C4} {l m h : Nat → Nat} {ts : List At} (H : OTab w lo q cap cs l m h ts) {i : Nat} (hi : i < ts.length) : h i ≤ w.heap.size := by
  obtain ⟨sx, sy, k1, k2, k3, k4, k5, k6, k7, k8⟩ := H.rows i _ (List.getElem?_eq_getElem hi)
  exact k7
def putP (ts : List At) (a : At) : List At := if tabB ts = true then putT ts a else []
def putK (ts : List At) (a : At) : Int := if tabB ts = true then putN ts a else -1
set_option maxRecDepth 8000 in
set_option maxHeartbeats 16000000 in
theorem l5Put (ts : List At) (a : At) (lo cap : Nat) (q : Option Addr) (cs : List C4) (l m hh : Nat → Nat) (qx : Option Addr) (cx : Nat) (qy : Option Addr) (cy bx b : Nat) (w : World) (H : OTab w lo q cap cs l m hh ts) (hlo : lo ≤ w.heap.size) (hx : PRow w bx (.slice qx a.x.length cx) a.x) (hy : PRow w b (.slice qy a.y.length cy) a.y) (hl : ts.length ≤ 200) :
    Calls Try.prog 25 #[.agg #[.slice q ts.length cap], .agg #[.int .i64 a.kd, .int .i64 a.k, .slice qx a.x.length cx, .slice qy a.y.length cy]] w fun e w' => ∃ q' cap' cs' l' m' h', e = .returned (.tuple #[.agg #[.slice q' (putT ts a).length cap'], .int .i64 (putN ts a)]) ∧ OTab w' lo q' cap' cs' l' m' h' (putT ts a) ∧ Below lo w w' := by
  have T := Three.new w [.slice q ts.length cap] [.int .i64 a.kd, .int .i64 a.k, .slice qx a.x.length cx, .slice qy a.y.length cy] [.slice none 0 0] 34 42 34
  have bn : Below w.heap.size w (((w.alloc (.cells #[.slice q ts.length cap] 34)).alloc (.cells #[.int .i64 a.kd, .int .i64 a.k, .slice qx a.x.length cx, .slice qy a.y.length cy] 42)).alloc (.cells #[.slice none 0 0] 34)) := T.bw
  obtain ⟨B, hT⟩ := H.read
  have hmx : ∃ cc, (cap = cc) ∧ ts.length ≤ cc ∧ cc ≤ maxLen := by
    obtain ⟨_, _, _, e, e2, e3, _⟩ := hT
    injection e with _ _ e4
    exact ⟨_, e4, e2, e3⟩
  obtain ⟨_, rfl, h2, h3⟩ := hmx
  unfold maxLen at h3
  have HT := hide (H.below bn)
  have TR := hide (hT.below bn)
  have HX := hide (hx.below bn)
  have HY := hide (hy.below bn)
  have T3 := hide T
  have HH : Hid (∀ i, i < ts.length → hh i ≤ w.heap.size) := fun i hi => H.hi hi
  have HG : Hid (∀ G, q = some ⟨G, 0, none⟩ → lo ≤ G ∧ G < w.heap.size) := fun G e => H.q_lt e
  clear T bn hx hy hT H
  go_enter Try.func25, Try.ntmps25
  go_wp2_with fail
  generalize (((w.alloc (.cells #[.slice q ts.length cap] 34)).alloc (.cells #[.int .i64 a.kd, .int .i64 a.k, .slice qx a.x.length cx, .slice qy a.y.length cy] 42)).alloc (.cells #[.slice none 0 0] 34)) = V at T3 HT TR HX HY ⊢
  have t0 := T3.out.a.cell 0 _ rfl
  have a0 := T3.out.z.cell 0 _ rfl
  have a1 := T3.out.z.cell 1 _ rfl
  have a2 := T3.out.z.cell 2 _ rfl
  have a3 := T3.out.z.cell 3 _ rfl
  go_wp2_with fail
  refine (l5Atom a (ts.length : Int) qx cx qy cy bx b _ HX.out HY.out).mono ?_
  rintro e u1 ⟨rfl, hb⟩
  clear t0 a0 a1 a2 a3
  replace T3 := hide (T3.out.below hb)
  replace HT := hide (HT.out.below hb)
  replace TR := hide (TR.out.below hb)
  replace HX := hide (HX.out.below hb)
  replace HY := hide (HY.out.below hb)
  clear hb
  by_cases e1 : atomB a ts.length = true
  case neg =>
    rw [Bool.not_eq_true] at e1
    have PE := hide (put_bad e1)
    rw [e1]
    clear e1
    have t0 := T3.out.a.cell 0 _ rfl
    have o0 := T3.out.o.cell 0 _ rfl
    have s0 := T3.out.o.soft 0
    have TN : Turn (w.heap.size + 1 + 1) u1 (u1.setCell ⟨w.heap.size + 1 + 1, 0, none⟩ (.slice q ts.length cap)) := (Turn.refl _ u1).setCell (p := ⟨w.heap.size + 1 + 1, 0, none⟩) rfl _
    have ZF := hide (T3.out.o.set 0 (.slice q ts.length cap) (by simp) rfl)
    have BF := hide ((T3.out.bw.trans (TN.below (by omega) T3.out.bw.size)).mono hlo)
    have OF := hide (HT.out.apart TN (fun G e => by have := (HG.out G e).2; omega) (fun i hi => Or.inr (by have := HH.out i hi; omega)))
    clear TN T3 HT TR HX HY
    go_wp2
    generalize u1.setCell ⟨w.heap.size + 1 + 1, 0, none⟩ (.slice q ts.length cap) = y9 at ZF BF OF ⊢
    have z9 := ZF.out.cell 0 _ rfl
    rw [PE.out.1, PE.out.2]
    first | exact bodyPost_ret (v := .tuple #[.agg #[.slice q ts.length cap], .int .i64 (-1)]) (by simp [results, Try.results25, go_sem, z9]) rfl ⟨q, cap, cs, l, m, hh, rfl, OF.out, BF.out⟩ | exact bodyPost_ret (v := .tuple #[.agg #[.slice q ts.length cap], .int .i64 (-1)]) (by simp [results, Try.results25, go_sem, z9]) rfl ⟨q, cap, rfl, ⟨cs, l, m, hh, OF.out⟩, BF.out⟩
  have E1 := hide e1
  rw [e1]
  clear e1
  go_wp2
  go_loopw [6] (fun i wr => ∃ k : Nat, k ≤ ts.length ∧ i = .int .i64 k ∧ Hid (∀ (j : Nat) s, j < k → ts[j]? = some s → sameB s a = false) ∧ Hid (Below u1.heap.size u1 wr)) (fun i _ => ts.length - (intOf i).toNat)
  case atStart => exact ⟨0, by omega, rfl, (fun j s hj _ => absurd hj (by omega)), Below.refl _ _⟩
  case round =>
    obtain ⟨k, hk, rfl, HN, HB⟩ := hrel
    replace T3 := hide (T3.out.below HB.out)
    replace HT := hide (HT.out.below HB.out)
    replace TR := hide (TR.out.below HB.out)
    replace HX := hide (HX.out.below HB.out)
    replace HY := hide (HY.out.below HB.out)
    have t0 := T3.out.a.cell 0 _ rfl
    by_cases hlt : k < ts.length
    · obtain ⟨s, et⟩ : ∃ s, ts[k]? = some s := ⟨_, List.getElem?_eq_getElem hlt⟩
      have TR2 := TR.out
      obtain ⟨q0, cap0, off, e0, _, _, _, h4⟩ := TR2
      injection e0 with e01 _ e03
      subst e01 e03
      obtain ⟨rfl, hc⟩ := h4.resolve_left (fun e => by rw [e] at et; simp at et)
      obtain ⟨c0, c1, qx', cx', bx', qy', cy', b', c2, px, c3, py⟩ := hc k s et
      have ET := hide et
      have lk : ((k : Nat) : Int) < (ts.length : Nat) := by omega
      clear et hc
      have bA : Below wr.heap.size wr wr.drew := (Below.refl _ _).drew
      go_wp2_with fail
      have PX := hide (px.below bA)
      have PY := hide (py.below bA)
      have C4 : Hid (wr.drew.cell? ⟨B, off + k * 4, none⟩ = some (.int .i64 s.kd) ∧ wr.drew.cell? ⟨B, off + k * 4 + 1, none⟩ = some (.int .i64 s.k) ∧ wr.drew.cell? ⟨B, off + k * 4 + 2, none⟩ = some (.slice qx' s.x.length cx') ∧ wr.drew.cell? ⟨B, off + k * 4 + 3, none⟩ = some (.slice qy' s.y.length cy')) := ⟨c0, c1, c2, c3⟩
      have HB1 := hide (HB.out.trans (bA.mono HB.out.size))
      replace T3 := hide (T3.out.below bA)
      replace HT := hide (HT.out.below bA)
      replace TR := hide (TR.out.below bA)
      replace HX := hide (HX.out.below bA)
      replace HY := hide (HY.out.below bA)
      refine (wpIn_wide (n := 0)).1 ?_
      refine PhaseIn.region (S := fun w' => Rec w.heap.size [.slice (some ⟨B, off, none⟩) ts.length cap] w' ∧ Rec (w.heap.size + 1) [.int .i64 a.kd, .int .i64 a.k, .slice qx a.x.length cx, .slice qy a.y.length cy] w' ∧ w'.cell? ⟨B, off + k * 4, none⟩ = some (.int .i64 s.kd) ∧ w'.cell? ⟨B, off + k * 4 + 1, none⟩ = some (.int .i64 s.k) ∧ w'.cell? ⟨B, off + k * 4 + 2, none⟩ = some (.slice qx' s.x.length cx') ∧ w'.cell? ⟨B, off + k * 4 + 3, none⟩ = some (.slice qy' s.y.length cy')) 7 (by kernel_rfl) ?_
      generalize wr.drew = d1 at T3 HT TR HX HY PX PY C4 HB1 ⊢
      have hHeld := And.intro T3.out.a (And.intro T3.out.z C4.out)
      clear bA t0 c0 c1 c2 c3 px py C4 HB
      refine PhaseIn.takeD (i := 0) (v := ?_) [0, 1, 3, 4, 6] 21 rfl (by rfl) (by kernel_rfl) (by kernel_rfl) (by kernel_rfl) (by kernel_rfl) (by kernel_rfl) (fun _ _ _ h => h) (Or.inl ⟨by kernel_rfl, ?_⟩) hHeld ?_
      rotate_left
      · intro w' hSw
        (try dsimp only at hSw)
        go_simp
        first | done | with_reducible rfl
      try simp only [Act.put, List.setIfInBounds_toArray, List.set]
      refine PhaseIn.takeD (i := 1) (v := ?_) [1, 3, 4, 6] 22 rfl (by rfl) (by kernel_rfl) (by kernel_rfl) (by kernel_rfl) (by kernel_rfl) (by kernel_rfl) (fun _ _ _ h => h) (Or.inl ⟨by kernel_rfl, ?_⟩) hHeld ?_
      rotate_left
      · intro w' hSw
        (try dsimp only at hSw)
        have z0 := hSw.1.cell 0 _ rfl
        go_simp
        first | done | with_reducible rfl
      try simp only [Act.put, List.setIfInBounds_toArray, List.set]
      refine PhaseIn.takeD (i := 2) (v := ?_) [2, 3, 4, 6] 23 rfl (by rfl) (by kernel_rfl) (by kernel_rfl) (by kernel_rfl) (by kernel_rfl) (by kernel_rfl) (fun _ _ _ h => h) (Or.inl ⟨by kernel_rfl, ?_⟩) hHeld ?_
      rotate_left
      · intro w' hSw
        (try dsimp only at hSw)
        go_simp
        first | done | with_reducible rfl
      try simp only [Act.put, List.setIfInBounds_toArray, List.set]
      refine PhaseIn.takeD (i := 3) (v := ?_) [3, 4, 6] 24 rfl (by rfl) (by kernel_rfl) (by kernel_rfl) (by kernel_rfl) (by kernel_rfl) (by kernel_rfl) (fun _ _ _ h => h) (Or.inl ⟨by kernel_rfl, ?_⟩) hHeld ?_
      rotate_left
      · intro w' hSw
        (try dsimp only at hSw)
        go_simp
        first | done | with_reducible rfl
      try simp only [Act.put, List.setIfInBounds_toArray, List.set]
      refine PhaseIn.takeD (i := 4) (v := ?_) [4, 6] 25 rfl (by rfl) (by kernel_rfl) (by kernel_rfl) (by kernel_rfl) (by kernel_rfl) (by kernel_rfl) (fun _ _ _ h => h) (Or.inl ⟨by kernel_rfl, ?_⟩) hHeld ?_
      rotate_left
      · intro w' hSw
        (try dsimp only at hSw)
        obtain ⟨_, _, z0, z1, z2, z3⟩ := hSw
        go_simp
        first | done | with_reducible rfl
      try simp only [Act.put, List.setIfInBounds_toArray, List.set]
      refine PhaseIn.takeD (i := 5) (v := ?_) [5, 6] 26 rfl (by rfl) (by kernel_rfl) (by kernel_rfl) (by kernel_rfl) (by kernel_rfl) (by kernel_rfl) (fun _ _ _ h => h) (Or.inl ⟨by kernel_rfl, ?_⟩) hHeld ?_
      rotate_left
      · intro w' hSw
        (try dsimp only at hSw)
        have z0 := hSw.2.1.cell 0 _ rfl; have z1 := hSw.2.1.cell 1 _ rfl; have z2 := hSw.2.1.cell 2 _ rfl; have z3 := hSw.2.1.cell 3 _ rfl
        go_simp
        first | done | with_reducible rfl
      try simp only [Act.put, List.setIfInBounds_toArray, List.set]
      refine PhaseIn.one (i := 6) (by kernel_rfl) rfl (by kernel_rfl) (fun K hK => ?_)
      unfold Oper.wpIn
      refine ⟨fun _ _ => trivial, ?_⟩
      go_simp
      refine ⟨rfl, (callsIn_wide.2 (l5Same s a qx' qx cx' cx qy' qy cy' cy bx' bx b' b _ PX.out PY.out HX.out HY.out)).mono ?_⟩
      rintro e u2 ⟨rfl, hb⟩
      refine hK _ _ (fun _ => And.intro (hHeld.1.below hb) (And.intro (hHeld.2.1.below hb) (And.intro (cell_below hb hHeld.2.2.1) (And.intro (cell_below hb hHeld.2.2.2.1) (And.intro (cell_below hb hHeld.2.2.2.2.1) (cell_below hb hHeld.2.2.2.2.2)))))) ?_
      replace T3 := hide (T3.out.below hb)
      replace HT := hide (HT.out.below hb)
      replace TR := hide (TR.out.below hb)
      replace HX := hide (HX.out.below hb)
      replace HY := hide (HY.out.below hb)
      have HB2 := hide (HB1.out.trans (hb.mono HB1.out.size))
      clear hK K hb hHeld HB1 PX PY
      try simp only [Act.put, List.setIfInBounds_toArray, List.set]
      refine PhaseIn.done (by kernel_rfl) ?_ _
      by_cases eb : sameB s a = true
      · have PE := hide (put_there E1.out ET.out eb HN.out)
        rw [eb]
        clear eb HN E1 ET
        have t0 := T3.out.a.cell 0 _ rfl
        have o0 := T3.out.o.cell 0 _ rfl
        have s0 := T3.out.o.soft 0
        have TN : Turn (w.heap.size + 1 + 1) u2 (u2.setCell ⟨w.heap.size + 1 + 1, 0, none⟩ (.slice (some ⟨B, off, none⟩) ts.length cap)) := (Turn.refl _ u2).setCell (p := ⟨w.heap.size + 1 + 1, 0, none⟩) rfl _
        have ZF := hide (T3.out.o.set 0 (.slice (some ⟨B, off, none⟩) ts.length cap) (by simp) rfl)
        have BF := hide ((T3.out.bw.trans (TN.below (by omega) T3.out.bw.size)).mono hlo)
        have OF := hide (HT.out.apart TN (fun G e => by have := (HG.out G e).2; omega) (fun i hi => Or.inr (by have := HH.out i hi; omega)))
        clear TN T3 HT TR HX HY
        go_wp2
        generalize u2.setCell ⟨w.heap.size + 1 + 1, 0, none⟩ (.slice (some ⟨B, off, none⟩) ts.length cap) = y9 at ZF BF OF ⊢
        have z9 := ZF.out.cell 0 _ rfl
        rw [PE.out.1, PE.out.2]
        exact bodyPost_ret (v := .tuple #[.agg #[.slice (some ⟨B, off, none⟩) ts.length cap], .int .i64 (k : Int)]) (by simp [results, Try.results25, go_sem, z9]) rfl ⟨_, cap, cs, l, m, hh, rfl, OF.out, BF.out⟩
      · rw [Bool.not_eq_true] at eb
        have HN2 : Hid (∀ (j : Nat) s', j < k + 1 → ts[j]? = some s' → sameB s' a = false) := fun j s' hj hs => by
          by_cases e : j = k
          · subst e
            have := ET.out.symm.trans hs
            cases this
            exact eb
          · exact HN.out j s' (by omega) hs
        rw [eb]
        clear eb
        go_wp2
        exact ⟨⟨k + 1, by omega, by go_num, HN2, HB2⟩, by simp [intOf]; omega⟩
    · obtain rfl : k = ts.length := by omega
      have E2 : Hid (thereB ts a = false) := there_no HN.out
      have lk : ¬ ((ts.length : Nat) : Int) < (ts.length : Nat) := by omega
      clear HN
      by_cases e200 : ts.length = 200
      · have PE := hide (put_full E1.out E2.out e200)
        have f200 : (((ts.length : Nat) : Int) == 200) = true := beq_iff_eq.2 (by omega)
        clear E1 E2 e200
        have t0 := T3.out.a.cell 0 _ rfl
        have o0 := T3.out.o.cell 0 _ rfl
        have s0 := T3.out.o.soft 0
        have TN : Turn (w.heap.size + 1 + 1) wr (wr.setCell ⟨w.heap.size + 1 + 1, 0, none⟩ (.slice q ts.length cap)) := (Turn.refl _ wr).setCell (p := ⟨w.heap.size + 1 + 1, 0, none⟩) rfl _
        have ZF := hide (T3.out.o.set 0 (.slice q ts.length cap) (by simp) rfl)
        have BF := hide ((T3.out.bw.trans (TN.below (by omega) T3.out.bw.size)).mono hlo)
        have OF := hide (HT.out.apart TN (fun G e => by have := (HG.out G e).2; omega) (fun i hi => Or.inr (by have := HH.out i hi; omega)))
        clear TN T3 HT TR HX HY
        go_wp2
        generalize wr.setCell ⟨w.heap.size + 1 + 1, 0, none⟩ (.slice q ts.length cap) = y9 at ZF BF OF ⊢
        have z9 := ZF.out.cell 0 _ rfl
        rw [PE.out.1, PE.out.2]
        first | exact bodyPost_ret (v := .tuple #[.agg #[.slice q ts.length cap], .int .i64 (-1)]) (by simp [results, Try.results25, go_sem, z9]) rfl ⟨q, cap, cs, l, m, hh, rfl, OF.out, BF.out⟩ | exact bodyPost_ret (v := .tuple #[.agg #[.slice q ts.length cap], .int .i64 (-1)]) (by simp [results, Try.results25, go_sem, z9]) rfl ⟨q, cap, rfl, ⟨cs, l, m, hh, OF.out⟩, BF.out⟩
      · have PE := hide (put_new E1.out E2.out e200)
        have f200 : (((ts.length : Nat) : Int) == 200) = false := beq_eq_false_iff_ne.2 (by omega)
        have FA := hide (fine_of E1.out)
        clear E1 E2 e200
        have bA : Below wr.heap.size wr wr.drew := (Below.refl _ _).drew
        go_wp2_with fail
        replace T3 := hide (T3.out.below bA)
        replace HT := hide (HT.out.below bA)
        replace HX := hide (HX.out.below bA)
        replace HY := hide (HY.out.below bA)
        refine (wpIn_wide (n := 0)).1 ?_
        refine PhaseIn.region (S := fun w' => Rec w.heap.size [.slice q ts.length cap] w' ∧ Rec (w.heap.size + 1) [.int .i64 a.kd, .int .i64 a.k, .slice qx a.x.length cx, .slice qy a.y.length cy] w') 5 (by kernel_rfl) ?_
        generalize wr.drew = d1 at T3 HT HX HY ⊢
        have hHeld := And.intro T3.out.a T3.out.z
        clear bA t0 HB TR
        refine PhaseIn.takeD (i := 0) (v := ?_) [0, 1, 5, 6, 7] 35 rfl (by rfl) (by kernel_rfl) (by kernel_rfl) (by kernel_rfl) (by kernel_rfl) (by kernel_rfl) (fun _ _ _ h => h) (Or.inl ⟨by kernel_rfl, ?_⟩) hHeld ?_
        rotate_left
        · intro w' hSw
          (try dsimp only at hSw)
          go_simp
          first | done | with_reducible rfl
        try simp only [Act.put, List.setIfInBounds_toArray, List.set]
        refine PhaseIn.takeD (i := 1) (v := ?_) [1, 5, 6, 7] 36 rfl (by rfl) (by kernel_rfl) (by kernel_rfl) (by kernel_rfl) (by kernel_rfl) (by kernel_rfl) (fun _ _ _ h => h) (Or.inl ⟨by kernel_rfl, ?_⟩) hHeld ?_
        rotate_left
        · intro w' hSw
          (try dsimp only at hSw)
          have z0 := hSw.1.cell 0 _ rfl
          go_simp
          first | done | with_reducible rfl
        try simp only [Act.put, List.setIfInBounds_toArray, List.set]
        refine PhaseIn.takeD (i := 2) (v := ?_) [2, 3, 4, 5, 6, 7] 37 rfl (by rfl) (by kernel_rfl) (by kernel_rfl) (by kernel_rfl) (by kernel_rfl) (by kernel_rfl) (fun _ _ _ h => h) (Or.inl ⟨by kernel_rfl, ?_⟩) hHeld ?_
        rotate_left
        · intro w' hSw
          (try dsimp only at hSw)
          have z0 := hSw.2.cell 0 _ rfl; have z1 := hSw.2.cell 1 _ rfl; have z2 := hSw.2.cell 2 _ rfl; have z3 := hSw.2.cell 3 _ rfl
          go_simp
          first | done | with_reducible rfl
        try simp only [Act.put, List.setIfInBounds_toArray, List.set]
        refine PhaseIn.one (i := 3) (by kernel_rfl) rfl (by kernel_rfl) (fun K hK => ?_)
        unfold Oper.wpIn
        refine ⟨fun _ _ => trivial, ?_⟩
        go_simp
        refine ⟨rfl, (callsIn_wide.2 (l5Twin a qx cx qy cy bx b _ HX.out HY.out FA.out)).mono ?_⟩
        rintro e u2 ⟨ax, nx, kx, ay, ny, ky, mid, rfl, WX, WY, m1, m2, hb⟩
        refine hK _ _ (fun _ => And.intro (hHeld.1.below hb) (hHeld.2.below hb)) ?_
        replace hHeld := And.intro (hHeld.1.below hb) (hHeld.2.below hb)
        replace WX := hide WX
        replace WY := hide WY
        have MM : Hid (w.heap.size + 1 + 1 < d1.heap.size ∧ d1.heap.size ≤ mid ∧ mid ≤ u2.heap.size) := ⟨T3.out.o.lt, m1, m2⟩
        replace T3 := hide (T3.out.below hb)
        replace HT := hide (HT.out.below hb)
        clear hK K hb m1 m2
        try simp only [Act.put, List.setIfInBounds_toArray, List.set]
        refine PhaseIn.one (i := 4) (by kernel_rfl) rfl (by kernel_rfl) (fun K hK => ?_)
        unfold Oper.wpIn
        refine ⟨fun _ _ => trivial, ?_⟩
        go_simp
        have bo : Below u2.heap.size u2 (u2.alloc (.cells #[.int .i64 a.kd, .int .i64 a.k, .slice ax nx kx, .slice ay ny ky] 42)) := (Below.refl _ _).alloc (Nat.le_refl _) _
        refine hK _ _ (fun _ => And.intro (hHeld.1.below bo) (hHeld.2.below bo)) ?_
        have N := hide (Rec.new u2 [.int .i64 a.kd, .int .i64 a.k, .slice ax nx kx, .slice ay ny ky] 42)
        replace T3 := hide (T3.out.below bo)
        replace HT := hide (HT.out.below bo)
        replace WX := hide (WX.out.below bo)
        replace WY := hide (WY.out.below bo)
        have SA : Hid ((u2.alloc (.cells #[.int .i64 a.kd, .int .i64 a.k, .slice ax nx kx, .slice ay ny ky] 42)).heap.size = u2.heap.size + 1) := by simp [Hid]
        clear hK K bo hHeld
        try simp only [Act.put, List.setIfInBounds_toArray, List.set]
        obtain ⟨G', cap', u3, hrun, ho, hg, hgl, gr⟩ := run_pushT (ty := 32) (w := u2.alloc (.cells #[.int .i64 a.kd, .int .i64 a.k, .slice ax nx kx, .slice ay ny ky] 42)) HT.out.own HT.out.len (by omega) (by have := SA.out; have := MM.out; omega) ⟨u2.heap.size, 0, none⟩ a.kd a.k ax nx kx ay ny ky (by rw [Addr.add_lit]; exact N.out.cell 0 _ rfl) (by rw [Addr.add_lit]; exact N.out.cell 1 _ rfl) (by rw [Addr.add_lit]; exact N.out.cell 2 _ rfl) (by rw [Addr.add_lit]; exact N.out.cell 3 _ rfl)
        have ON := hide (OTab.next HT.out WX.out WY.out (by have := MM.out; omega) MM.out.2.1 MM.out.2.2 (by have := SA.out; omega) (fun i hi => by have := HH.out i hi; have := MM.out; omega) (fun G e => by have := (HG.out G e).2; have := MM.out; omega) ho hg gr)
        have GN : Hid (lo ≤ G' ∧ (G' < w.heap.size ∨ u2.heap.size < G')) := by
          have h1 := owns_lt ho
          refine ⟨h1.1, ?_⟩
          rcases hg with hg | hg
          · rcases HT.out.q_form with ⟨e1, _, _⟩ | ⟨G, e1⟩
            · rw [e1] at hg; simp [Value.ownBlock] at hg
            · have h2 := (HG.out G e1).2
              rw [e1] at hg
              simp [Value.ownBlock] at hg
              exact Or.inl (by omega)
          · exact Or.inr (by have := SA.out; omega)
        have TT : ∃ Tb, Turn Tb (u2.alloc (.cells #[.int .i64 a.kd, .int .i64 a.k, .slice ax nx kx, .slice ay ny ky] 42)) u3 ∧ (Tb < w.heap.size ∨ u2.heap.size < Tb) ∧ lo ≤ Tb := by
          rcases HT.out.q_form with ⟨e1, _, _⟩ | ⟨G, e1⟩
          · exact ⟨(u2.alloc (.cells #[.int .i64 a.kd, .int .i64 a.k, .slice ax nx kx, .slice ay ny ky] 42)).heap.size, ⟨gr.os, gr.tape, gr.output, gr.size, fun j hj _ => gr.block j hj (by rw [e1]; simp [Value.ownBlock])⟩, Or.inr (by have := SA.out; omega), by have := SA.out; have := MM.out; omega⟩
          · have h2 := HG.out G e1
            subst e1
            exact ⟨G, Turn.of_grown gr, Or.inl h2.2, h2.1⟩
        obtain ⟨Tb, tn, tb, tl⟩ := TT
        have TA := hide (T3.out.a.turn tn (by have := MM.out; omega))
        have TO := hide (T3.out.o.turn tn (by have := MM.out; omega))
        have BW := hide ((T3.out.bw.mono hlo).trans (tn.below tl (by have := SA.out; have := MM.out; omega)))
        clear ho hg hgl gr tn tb tl HT WX WY N T3 HX HY
        refine PhaseIn.one (i := 5) (by kernel_rfl) rfl (by kernel_rfl) (fun K hK => ?_)
        refine push_in _ _ rfl rfl rfl hrun (hK _ _ (fun h => absurd h (by omega)) ?_)
        clear hK K hrun
        try simp only [Act.put, List.setIfInBounds_toArray, List.set]
        refine PhaseIn.late (i := 6) (v := ?_) (by kernel_rfl) rfl 41 (by rfl) (by omega) (Or.inl ⟨by kernel_rfl, ?_⟩) ?_
        rotate_left
        · intro w' hSw
          go_simp
          first | done | with_reducible rfl
        try simp only [Act.put, List.setIfInBounds_toArray, List.set]
        have x0 := TA.out.cell 0 _ rfl
        have s0 := TA.out.soft 0
        refine PhaseIn.one (i := 7) (by kernel_rfl) rfl (by kernel_rfl) (fun K hK => ?_)
        unfold Oper.wpIn
        refine ⟨fun _ _ => trivial, ?_⟩
        go_simp
        refine hK _ _ (fun h => absurd h (by omega)) ?_
        clear hK K x0 s0
        try simp only [Act.put, List.setIfInBounds_toArray, List.set]
        have t4 : Turn w.heap.size u3 (u3.setCell ⟨w.heap.size, 0, none⟩ (.slice (some ⟨G', 0, none⟩) (ts.length + 1) cap')) := (Turn.refl _ u3).setCell (p := ⟨w.heap.size, 0, none⟩) rfl _
        replace TA := hide (TA.out.set 0 (.slice (some ⟨G', 0, none⟩) (ts.length + 1) cap') (by simp) rfl)
        replace TO := hide (TO.out.turn t4 (by omega))
        replace BW := hide (BW.out.trans (t4.below hlo (Nat.le_trans hlo BW.out.size)))
        replace ON := hide (ON.out.apart t4 (fun G e => by injection e with e1; injection e1 with e2; have := GN.out; have := MM.out; omega) (fun i hi => by by_cases e : i < ts.length; (simp only [if_pos e]; exact Or.inr (HH.out i e)); (simp only [if_neg e]; exact Or.inl (by have := MM.out; omega))))
        clear t4
        generalize u3.setCell ⟨w.heap.size, 0, none⟩ (.slice (some ⟨G', 0, none⟩) (ts.length + 1) cap') = u4 at TA TO BW ON ⊢
        refine PhaseIn.done (by kernel_rfl) ?_ _
        go_wp2_with fail
        refine (wpIn_wide (n := 0)).1 ?_
        have bA : Below u4.heap.size u4 u4.drew := (Below.refl _ _).drew
        replace TA := hide (TA.out.below bA)
        replace TO := hide (TO.out.below bA)
        replace ON := hide (ON.out.below bA)
        replace BW := hide (BW.out.trans (bA.mono (Nat.le_trans hlo BW.out.size)))
        refine PhaseIn.region (S := fun w' => Rec w.heap.size [(.slice (some ⟨G', 0, none⟩) (ts.length + 1) cap')] w' ∧ True) 7 (by kernel_rfl) ?_
        generalize u4.drew = d4 at TA TO ON BW ⊢
        have hHeld : Rec w.heap.size [(.slice (some ⟨G', 0, none⟩) (ts.length + 1) cap')] d4 ∧ True := ⟨TA.out, trivial⟩
        clear bA
        have wl : IntKind.i64.wrap ((ts.length : Nat) : Int) = (ts.length : Nat) := IntWalk.i64_in _ ⟨by omega, by omega⟩
        refine PhaseIn.takeD (i := 0) (v := ?_) [0, 5, 6] 42 rfl (by rfl) (by kernel_rfl) (by kernel_rfl) (by kernel_rfl) (by kernel_rfl) (by kernel_rfl) (fun _ _ _ h => h) (Or.inl ⟨by kernel_rfl, ?_⟩) hHeld ?_
        rotate_left
        · intro w' hSw
          (try dsimp only at hSw)
          have z0 := hSw.1.cell 0 _ rfl
          go_simp
          first | done | with_reducible rfl | simp [wl]
        try simp only [Act.put, List.setIfInBounds_toArray, List.set]
        refine PhaseIn.takeD (i := 1) (v := ?_) [1, 2, 3, 4, 6] 43 rfl (by rfl) (by kernel_rfl) (by kernel_rfl) (by kernel_rfl) (by kernel_rfl) (by kernel_rfl) (fun _ _ _ h => h) (Or.inl ⟨by kernel_rfl, ?_⟩) hHeld ?_
        rotate_left
        · intro w' hSw
          (try dsimp only at hSw)
          go_simp
          first | done | with_reducible rfl | simp [wl]
        try simp only [Act.put, List.setIfInBounds_toArray, List.set]
        refine PhaseIn.takeD (i := 2) (v := ?_) [2, 3, 4, 6] 44 rfl (by rfl) (by kernel_rfl) (by kernel_rfl) (by kernel_rfl) (by kernel_rfl) (by kernel_rfl) (fun _ _ _ h => h) (Or.inl ⟨by kernel_rfl, ?_⟩) hHeld ?_
        rotate_left
        · intro w' hSw
          (try dsimp only at hSw)
          have z0 := hSw.1.cell 0 _ rfl
          go_simp
          first | done | with_reducible rfl | simp [wl]
        try simp only [Act.put, List.setIfInBounds_toArray, List.set]
        refine PhaseIn.takeD (i := 3) (v := ?_) [3, 4, 6] 45 rfl (by rfl) (by kernel_rfl) (by kernel_rfl) (by kernel_rfl) (by kernel_rfl) (by kernel_rfl) (fun _ _ _ h => h) (Or.inl ⟨by kernel_rfl, ?_⟩) hHeld ?_
        rotate_left
        · intro w' hSw
          (try dsimp only at hSw)
          go_simp
          first | done | with_reducible rfl | simp [wl]
        try simp only [Act.put, List.setIfInBounds_toArray, List.set]
        refine PhaseIn.takeD (i := 4) (v := .int .i64 (ts.length : Int)) [4, 6] 46 rfl (by rfl) (by kernel_rfl) (by kernel_rfl) (by kernel_rfl) (by kernel_rfl) (by kernel_rfl) (fun _ _ _ h => h) (Or.inl ⟨by kernel_rfl, ?_⟩) hHeld ?_
        · intro w' hSw
          (try dsimp only at hSw)
          have wl2 := wl
          go_simp
          first | done | with_reducible rfl | simp [wl]
        try simp only [Act.put, List.setIfInBounds_toArray, List.set]
        have x0 := TO.out.cell 0 _ rfl
        have s0 := TO.out.soft 0
        refine PhaseIn.one (i := 5) (by kernel_rfl) rfl (by kernel_rfl) (fun K hK => ?_)
        unfold Oper.wpIn
        refine ⟨fun _ _ => trivial, ?_⟩
        go_simp
        have t5 : Turn (w.heap.size + 1 + 1) d4 (d4.setCell ⟨w.heap.size + 1 + 1, 0, none⟩ (.slice (some ⟨G', 0, none⟩) (ts.length + 1) cap')) := (Turn.refl _ d4).setCell (p := ⟨w.heap.size + 1 + 1, 0, none⟩) rfl _
        have hHeld2 : Rec w.heap.size [(.slice (some ⟨G', 0, none⟩) (ts.length + 1) cap')] (d4.setCell ⟨w.heap.size + 1 + 1, 0, none⟩ (.slice (some ⟨G', 0, none⟩) (ts.length + 1) cap')) ∧ True := ⟨TA.out.turn t5 (by omega), trivial⟩
        refine hK _ _ (fun _ => hHeld2) ?_
        replace TO := hide (TO.out.set 0 (.slice (some ⟨G', 0, none⟩) (ts.length + 1) cap') (by simp) rfl)
        replace BW := hide (BW.out.trans (t5.below (by have := hlo; omega) (Nat.le_trans hlo BW.out.size)))
        replace ON := hide (ON.out.apart t5 (fun G e => by injection e with e1; injection e1 with e2; have := GN.out; have := MM.out; omega) (fun i hi => by by_cases e : i < ts.length; (simp only [if_pos e]; exact Or.inr (by have := HH.out i e; omega)); (simp only [if_neg e]; exact Or.inl (by have := MM.out; omega))))
        clear hK K x0 s0 t5 hHeld TA
        try simp only [Act.put, List.setIfInBounds_toArray, List.set]
        generalize d4.setCell ⟨w.heap.size + 1 + 1, 0, none⟩ (.slice (some ⟨G', 0, none⟩) (ts.length + 1) cap') = y9 at TO BW ON hHeld2 ⊢
        refine PhaseIn.takeD (i := 6) (v := ?_) [6] 5 rfl (by rfl) (by kernel_rfl) (by kernel_rfl) (by kernel_rfl) (by kernel_rfl) (by kernel_rfl) (fun _ _ _ h => h) (Or.inl ⟨by kernel_rfl, ?_⟩) hHeld2 ?_
        rotate_left
        · intro w' hSw
          (try dsimp only at hSw)
          go_simp
          first | done | with_reducible rfl
        try simp only [Act.put, List.setIfInBounds_toArray, List.set]
        refine PhaseIn.done (by kernel_rfl) ?_ _
        have z9 := TO.out.cell 0 _ rfl
        clear hHeld2
        go_wp2
        rw [PE.out.1, PE.out.2]
        exact bodyPost_ret (v := .tuple #[.agg #[(.slice (some ⟨G', 0, none⟩) (ts.length + 1) cap')], .int .i64 (ts.length : Int)]) (by simp [results, Try.results25, go_sem, z9]) rfl ⟨_, cap', _, _, _, _, by rw [List.length_append]; rfl, ON.out, BW.out⟩
end Go.Proofs.Ytagfgbkclopoeaa.Tab
namespace Go.Proofs.Ytagfgbkclopoeaa.Pol
open Go.ChangeShapes Go.WideShapes Go.ChangeAt Go.RowKit IntS
def wordsB (xs : List Int) : Bool := xs.all Wrd.wok
theorem words_no {xs : List Int} {k : Nat} {x : Int} (hx : xs[k]? = some x) (h : Wrd.wok x = false) : wordsB xs = false := by
  unfold wordsB
  rw [List.all_eq_false]
  exact ⟨x, List.mem_of_getElem? hx, by simp [h]⟩
theorem words_yes {xs : List Int} (h : ∀ (k : Nat) x, xs[k]? = some x → Wrd.wok x = true) : wordsB xs = true := by
  unfold wordsB
  rw [List.all_eq_true]
  intro x hx
  obtain ⟨k, hk⟩ := List.getElem?_of_mem hx
  exact h k x hk
set_option maxHeartbeats 2000000 in
theorem l1Words (xs : List Int) (B : Nat) (v : Value) (w : World) (h : Row w B v xs) :
    Calls Try.prog 39 #[v] w fun e w' => e = .returned (.bool (wordsB xs)) ∧ w' = w := by
  obtain ⟨a, cap, off, rfl, h2, h3, hz, h4⟩ := h
  unfold maxLen at h3
  clear hz
  obtain ⟨n, en⟩ : ∃ n, xs.length = n := ⟨_, rfl⟩
  rw [en] at h2 ⊢
  have EN := hide en
  have H4 := hide h4
  clear en h4
  by_cases h0 : n = 0
  · subst h0
    have e0 : xs = [] := List.length_eq_zero_iff.1 EN.out
    have HD : Hid (wordsB xs = true) := show _ = true by rw [e0]; rfl
    clear e0 H4 EN
    go_enter Try.func39, Try.ntmps39
    go_wp2
    refine wp_loop_rounds 1 ?_
    rw [rounds_succ]
    go_wp2
    go_ret
    exact ⟨ret_bool HD.out.symm, rfl⟩
  · obtain ⟨rfl, hc⟩ := H4.out.resolve_left (fun e => h0 (by rw [← EN.out, e]; rfl))
    have HC := hide hc
    clear hc H4
    go_enter Try.func39, Try.ntmps39
    go_wp2
    go_loopw [3] (fun i wr => ∃ k : Nat, k ≤ n ∧ i = .int .i64 k ∧ Hid (∀ (j : Nat) x, j < k → xs[j]? = some x → Wrd.wok x = true) ∧ wr = w) (fun i _ => n - (intOf i).toNat)
    case atStart => exact ⟨0, by omega, rfl, fun j x hj => by omega, rfl⟩
    case round =>
      obtain ⟨k, hk, rfl, HE, rfl⟩ := hrel
      by_cases hlt : k < n
      · obtain ⟨x, ex⟩ : ∃ x, xs[k]? = some x := ⟨_, List.getElem?_eq_getElem (by rw [EN.out]; exact hlt)⟩
        have cx := HC.out k x ex
        have EX := hide ex
        clear ex
        go_wp2_with fail
        refine (Wrd.specOk x _).mono ?_
        rintro e w1 ⟨rfl, rfl⟩
        cases hb : Wrd.wok x with
        | true =>
          have HX : Hid (∀ (j : Nat) y, j < k + 1 → xs[j]? = some y → Wrd.wok y = true) := fun j y hj hy => by
            by_cases ej : j = k
            · subst ej
              rw [EX.out] at hy
              obtain rfl := Option.some.inj hy
              exact hb
            · exact HE.out j y (by omega) hy
          clear hb
          go_wp2
          exact ⟨⟨k + 1, by omega, by go_num, HX, trivial⟩, by simp [intOf]; omega⟩
        | false =>
          have HD := hide (words_no EX.out hb)
          clear hb
          go_wp2
          go_ret
          exact ⟨ret_bool HD.out.symm, rfl⟩
      · have HD : Hid (wordsB xs = true) := words_yes fun j x hx => HE.out j x (by have := (List.getElem?_eq_some_iff.1 hx).1; rw [EN.out] at this; omega) hx
        go_wp2
        go_ret
        exact ⟨ret_bool HD.out.symm, rfl⟩
set_option maxHeartbeats 2000000 in
theorem allWords (xs : List Int) (B : Nat) (v : Value) (w : World) (h : Row w B v xs) :
    Calls Try.prog 44 #[v] w fun e w' => e = .returned (.bool (wordsB xs)) ∧ w' = w := by
  obtain ⟨a, cap, off, rfl, h2, h3, hz, h4⟩ := h
  unfold maxLen at h3
  clear hz
  obtain ⟨n, en⟩ : ∃ n, xs.length = n := ⟨_, rfl⟩
  rw [en] at h2 ⊢
  have EN := hide en
  have H4 := hide h4
  clear en h4
  by_cases h0 : n = 0
  · subst h0
    have e0 : xs = [] := List.length_eq_zero_iff.1 EN.out
    have HD : Hid (wordsB xs = true) := show _ = true by rw [e0]; rfl
    clear e0 H4 EN
    go_enter Try.func44, Try.ntmps44
    go_wp2
    refine wp_loop_rounds 1 ?_
    rw [rounds_succ]
    go_wp2
    go_ret
    exact ⟨ret_bool HD.out.symm, rfl⟩
  · obtain ⟨rfl, hc⟩ := H4.out.resolve_left (fun e => h0 (by rw [← EN.out, e]; rfl))
    have HC := hide hc
    clear hc H4
    go_enter Try.func44, Try.ntmps44
    go_wp2
    go_loopw [7] (fun i wr => ∃ k : Nat, k ≤ n ∧ i = .int .i64 k ∧ Hid (∀ (j : Nat) x, j < k → xs[j]? = some x → Wrd.wok x = true) ∧ wr = w) (fun i _ => n - (intOf i).toNat)
    case atStart => exact ⟨0, by omega, rfl, fun j x hj => by omega, rfl⟩
    case round =>
      obtain ⟨k, hk, rfl, HE, rfl⟩ := hrel
      by_cases hlt : k < n
      · obtain ⟨x, ex⟩ : ∃ x, xs[k]? = some x := ⟨_, List.getElem?_eq_getElem (by rw [EN.out]; exact hlt)⟩
        have cx := HC.out k x ex
        have EX := hide ex
        clear ex
        go_wp2_with fail
        refine (Wrd.implOk x _).mono ?_
        rintro e w1 ⟨rfl, rfl⟩
        cases hb : Wrd.wok x with
        | true =>
          have HX : Hid (∀ (j : Nat) y, j < k + 1 → xs[j]? = some y → Wrd.wok y = true) := fun j y hj hy => by
            by_cases ej : j = k
            · subst ej
              rw [EX.out] at hy
              obtain rfl := Option.some.inj hy
              exact hb
            · exact HE.out j y (by omega) hy
          clear hb
          go_wp2
          exact ⟨⟨k + 1, by omega, by go_num, HX, trivial⟩, by simp [intOf]; omega⟩
        | false =>
          have HD := hide (words_no EX.out hb)
          clear hb
          go_wp2
          go_ret
          exact ⟨ret_bool HD.out.symm, rfl⟩
      · have HD : Hid (wordsB xs = true) := words_yes fun j x hx => HE.out j x (by have := (List.getElem?_eq_some_iff.1 hx).1; rw [EN.out] at this; omega) hx
        go_wp2
        go_ret
        exact ⟨ret_bool HD.out.symm, rfl⟩
theorem words_mem {xs : List Int} (h : wordsB xs = true) (x : Int) (hx : x ∈ xs) : 0 ≤ x ∧ x < 65536 := by
  unfold wordsB at h
  rw [List.all_eq_true] at h
  have := h x hx
  unfold Wrd.wok at this
  exact of_decide_eq_true this
end Go.Proofs.Ytagfgbkclopoeaa.Pol
