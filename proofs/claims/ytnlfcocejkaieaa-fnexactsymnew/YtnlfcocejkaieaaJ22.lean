/-
  One atom more: the program's TabPut.
-/
import Derived.Test.YtnlfcocejkaieaaJ19
import Derived.Test.YtnlfcocejkaieaaJ21
namespace Go.Proofs.Ytnlfcocejkaieaa.Tab
set_option linter.unusedVariables false
set_option linter.unusedSimpArgs false
open Go.ChangeShapes Go.WideShapes Go.ChangeAt Go.RowKit Go.Shelf IntS Pol Push
theorem there_key {ts : List At} {a : At} (ht : tabB ts = true) (ha : KOk a) : thereB ts a = ts.any fun t => decide (keyB t = keyB a) := by
  unfold thereB
  rw [Bool.eq_iff_iff, List.any_eq_true, List.any_eq_true]
  constructor
  · rintro ⟨s, hs, h⟩
    obtain ⟨k, hk⟩ := List.getElem?_of_mem hs
    exact ⟨s, hs, by rw [← same_key (atom_kok (tab_atom ht hk)) ha]; exact h⟩
  · rintro ⟨s, hs, h⟩
    obtain ⟨k, hk⟩ := List.getElem?_of_mem hs
    exact ⟨s, hs, by rw [same_key (atom_kok (tab_atom ht hk)) ha]; exact h⟩
theorem there_first {ts : List At} {a : At} (h : thereB ts a = true) : ∃ (k : Nat) (s : At), ts[k]? = some s ∧ sameB s a = true ∧ ∀ (j : Nat) s', j < k → ts[j]? = some s' → sameB s' a = false := by
  have hx : (ts.findIdx fun s => sameB s a) < ts.length := List.findIdx_lt_length_of_exists (by
    obtain ⟨s, hs, he⟩ := List.any_eq_true.1 h
    exact ⟨s, hs, he⟩)
  refine ⟨_, _, List.getElem?_eq_getElem hx, List.findIdx_getElem (w := hx), fun j s' hj hs => ?_⟩
  have := List.not_of_lt_findIdx hj
  obtain ⟨hj2, rfl⟩ := List.getElem?_eq_some_iff.1 hs
  simpa using this
structure PutF (w : World) (q0 : Option Addr) (cap0 : Nat) (ts : List At) (a : At) (qx : Option Addr) (cx : Nat) (qy : Option Addr) (cy bx b bm X lo : Nat) (q : Option Addr) (cap : Nat) (cs : List C4) (l m hh : Nat → Nat) (U : World) : Prop where
  b_ : Rec (w.heap.size + 1) [.int .i64 a.kd, .int .i64 a.k, .slice qx a.x.length cx, .slice qy a.y.length cy] U
  z : Rec (w.heap.size + 1 + 1) [.slice none 0 0] U
  x : Rec X [.slice q ts.length cap] U
  ot : OTab U lo q cap cs l m hh ts
  hm : TMap U bm ts
  hx : PRow U bx (.slice qx a.x.length cx) a.x
  hy : PRow U b (.slice qy a.y.length cy) a.y
  bw : Below w.heap.size w U
  f : w.heap.size + 1 + 1 < X ∧ w.heap.size + 1 + 1 < lo ∧ (∀ G, q = some ⟨G, 0, none⟩ → G ≠ X) ∧ (∀ i, i < ts.length → X < l i ∨ hh i ≤ X)
theorem PutF.below {w : World} {q0 : Option Addr} {cap0 : Nat} {ts : List At} {a : At} {qx : Option Addr} {cx : Nat} {qy : Option Addr} {cy bx b bm X lo : Nat} {q : Option Addr} {cap : Nat} {cs : List C4} {l m hh : Nat → Nat} {U U' : World} (h : PutF w q0 cap0 ts a qx cx qy cy bx b bm X lo q cap cs l m hh U) (hb : Below U.heap.size U U') : PutF w q0 cap0 ts a qx cx qy cy bx b bm X lo q cap cs l m hh U' :=
  ⟨h.b_.below hb, h.z.below hb, h.x.below hb, h.ot.below hb, h.hm.below hb, h.hx.below hb, h.hy.below hb, h.bw.trans (hb.mono h.bw.size), h.f⟩
set_option maxRecDepth 8000 in
set_option maxHeartbeats 32000000 in
theorem implPut (ts : List At) (a : At) (B : Nat) (v : Value) (qx : Option Addr) (cx : Nat) (qy : Option Addr) (cy bx b : Nat) (w : World) (h : TRow w B v ts) (hx : PRow w bx (.slice qx a.x.length cx) a.x) (hy : PRow w b (.slice qy a.y.length cy) a.y) :
    Calls Try.prog 27 #[.agg #[v], .agg #[.int .i64 a.kd, .int .i64 a.k, .slice qx a.x.length cx, .slice qy a.y.length cy]] w fun e w' => ∃ q' cap' cs' l' m' h', e = .returned (.tuple #[.agg #[.slice q' (putP ts a).length cap'], .int .i64 (putK ts a)]) ∧ OTab w' w.heap.size q' cap' cs' l' m' h' (putP ts a) ∧ Below w.heap.size w w' := by
  have T := Three.new w [v] [.int .i64 a.kd, .int .i64 a.k, .slice qx a.x.length cx, .slice qy a.y.length cy] [.slice none 0 0] 24 37 24
  have bn : Below w.heap.size w (((w.alloc (.cells #[v] 24)).alloc (.cells #[.int .i64 a.kd, .int .i64 a.k, .slice qx a.x.length cx, .slice qy a.y.length cy] 37)).alloc (.cells #[.slice none 0 0] 24)) := T.bw
  have H := hide (h.below bn)
  have HX := hide (hx.below bn)
  have HY := hide (hy.below bn)
  have T3 := hide T
  obtain ⟨q0, cap0, off, rfl, h2, h3, _, _⟩ := h
  unfold maxLen at h3
  clear T bn hx hy
  go_enter Try.func27, Try.ntmps27
  go_wp2_with fail
  generalize (((w.alloc (.cells #[.slice q0 ts.length cap0] 24)).alloc (.cells #[.int .i64 a.kd, .int .i64 a.k, .slice qx a.x.length cx, .slice qy a.y.length cy] 37)).alloc (.cells #[.slice none 0 0] 24)) = V at T3 H HX HY ⊢
  have t0 := T3.out.a.cell 0 _ rfl
  go_wp2_with fail
  refine (placesOf ts B _ _ H.out).mono ?_
  rintro e u1 ⟨mv, rfl, hmv, hb⟩
  clear t0
  replace T3 := hide (T3.out.below hb)
  replace H := hide (H.out.below hb)
  replace HX := hide (HX.out.below hb)
  replace HY := hide (HY.out.below hb)
  clear hb
  by_cases e1 : tabB ts = true
  case neg =>
    have PE : Hid (putP ts a = [] ∧ putK ts a = -1) := show _ ∧ _ from ⟨if_neg e1, if_neg e1⟩
    rw [Bool.not_eq_true] at e1
    rw [e1]
    clear e1 hmv
    have o0 := T3.out.o.cell 0 _ rfl
    have s0 := T3.out.o.soft 0
    have TN : Turn (w.heap.size + 1 + 1) u1 (u1.setCell ⟨w.heap.size + 1 + 1, 0, none⟩ (.slice none 0 0)) := (Turn.refl _ u1).setCell (p := ⟨w.heap.size + 1 + 1, 0, none⟩) rfl _
    have ZF := hide (T3.out.o.set 0 (.slice none 0 0) (by simp) rfl)
    have BF := hide (T3.out.bw.trans (TN.below (by omega) T3.out.bw.size))
    clear TN T3 H HX HY
    go_wp2
    generalize u1.setCell ⟨w.heap.size + 1 + 1, 0, none⟩ (.slice none 0 0) = y9 at ZF BF ⊢
    have z9 := ZF.out.cell 0 _ rfl
    rw [PE.out.1, PE.out.2]
    exact bodyPost_ret (v := .tuple #[.agg #[.slice none 0 0], .int .i64 (-1)]) (by simp [results, Try.results27, go_sem, z9]) rfl ⟨none, 0, [], _, _, _, rfl, OTab.nil _ _, BF.out⟩
  have PE0 : Hid (putP ts a = putT ts a ∧ putK ts a = putN ts a) := show _ ∧ _ from ⟨if_pos e1, if_pos e1⟩
  have FT := hide (tab_fine e1)
  have E0 := hide e1
  obtain ⟨bm, rfl, hM, -⟩ := hmv e1
  have HM := hide hM
  rw [e1]
  clear e1 hmv hM
  go_wp2_with fail
  refine (wpIn_wide (n := 0)).1 ?_
  have bA : Below u1.heap.size u1 u1.drew := (Below.refl _ _).drew
  replace T3 := hide (T3.out.below bA)
  replace H := hide (H.out.below bA)
  replace HX := hide (HX.out.below bA)
  replace HY := hide (HY.out.below bA)
  replace HM := hide (HM.out.below bA)
  clear bA
  refine PhaseIn.region (S := fun w' => Rec w.heap.size [.slice q0 ts.length cap0] w' ∧ True) 8 (by kernel_rfl) ?_
  generalize u1.drew = d1 at T3 H HX HY HM ⊢
  have hHeld : Rec w.heap.size [.slice q0 ts.length cap0] d1 ∧ True := ⟨T3.out.a, trivial⟩
  refine PhaseIn.takeD (i := 0) (v := ?_) [0, 1, 6, 7] 20 rfl (by rfl) (by kernel_rfl) (by kernel_rfl) (by kernel_rfl) (by kernel_rfl) (by kernel_rfl) (fun _ _ _ h => h) (Or.inl ⟨by kernel_rfl, ?_⟩) hHeld ?_
  rotate_left
  · intro w' hSw
    (try dsimp only at hSw)
    have z0 := hSw.1.cell 0 _ rfl
    go_simp
    first | done | with_reducible rfl
  try simp only [Act.put, List.setIfInBounds_toArray, List.set]
  refine PhaseIn.takeD (i := 2) (v := ?_) [2, 3, 4, 7] 22 rfl (by rfl) (by kernel_rfl) (by kernel_rfl) (by kernel_rfl) (by kernel_rfl) (by kernel_rfl) (fun _ _ _ h => h) (Or.inl ⟨by kernel_rfl, ?_⟩) hHeld ?_
  rotate_left
  · intro w' hSw
    (try dsimp only at hSw)
    go_simp
    first | done | with_reducible rfl
  try simp only [Act.put, List.setIfInBounds_toArray, List.set]
  refine PhaseIn.takeD (i := 3) (v := ?_) [3, 4, 7] 23 rfl (by rfl) (by kernel_rfl) (by kernel_rfl) (by kernel_rfl) (by kernel_rfl) (by kernel_rfl) (fun _ _ _ h => h) (Or.inl ⟨by kernel_rfl, ?_⟩) hHeld ?_
  rotate_left
  · intro w' hSw
    (try dsimp only at hSw)
    have z0 := hSw.1.cell 0 _ rfl
    go_simp
    first | done | with_reducible rfl
  try simp only [Act.put, List.setIfInBounds_toArray, List.set]
  refine PhaseIn.takeD (i := 4) (v := ?_) [4, 7] 24 rfl (by rfl) (by kernel_rfl) (by kernel_rfl) (by kernel_rfl) (by kernel_rfl) (by kernel_rfl) (fun _ _ _ h => h) (Or.inl ⟨by kernel_rfl, ?_⟩) hHeld ?_
  rotate_left
  · intro w' hSw
    (try dsimp only at hSw)
    go_simp
    first | done | with_reducible rfl
  try simp only [Act.put, List.setIfInBounds_toArray, List.set]
  refine PhaseIn.two (i := 1) (j := 5) (by kernel_rfl) rfl rfl (by kernel_rfl) (by kernel_rfl) (fun K hK => ?_) (fun K hK => ?_)
  · unfold Oper.wpIn
    refine ⟨fun _ _ => trivial, ?_⟩
    go_simp
    refine ⟨rfl, (callsIn_wide.2 (copiedAtoms ts B _ _ H.out FT.out.1 (by have := FT.out.2; omega))).mono ?_⟩
    rintro e u2 ⟨q, cap, cs, l, m, hh, rfl, OT, hb⟩
    refine hK _ _ (fun _ => ⟨T3.out.a.below hb, trivial⟩) ?_
    replace OT := hide OT
    have DL : Hid (w.heap.size + 1 + 1 < d1.heap.size ∧ d1.heap.size ≤ u2.heap.size) := ⟨T3.out.o.lt, hb.size⟩
    have BD := hide hb
    clear hK K hb H hHeld
    try simp only [Act.put, List.setIfInBounds_toArray, List.set]
    refine PhaseIn.one (i := 5) (by kernel_rfl) rfl (by kernel_rfl) (fun K hK => ?_)
    unfold Oper.wpIn
    refine ⟨fun _ _ => trivial, ?_⟩
    go_simp
    have bo : Below u2.heap.size u2 (u2.alloc (.cells #[.slice none 0 0] 24)) := (Below.refl _ _).alloc (Nat.le_refl _) _
    have XB := hide (Rec.new u2 [.slice none 0 0] 24)
    replace BD := hide (BD.out.trans (bo.mono BD.out.size))
    have hHeld : Rec w.heap.size [.slice q0 ts.length cap0] (u2.alloc (.cells #[.slice none 0 0] 24)) ∧ True := ⟨T3.out.a.below BD.out, trivial⟩
    refine hK _ _ (fun _ => hHeld) ?_
    have FF0 : w.heap.size + 1 + 1 < u2.heap.size ∧ w.heap.size + 1 + 1 < d1.heap.size ∧ (∀ G, q = some ⟨G, 0, none⟩ → G ≠ u2.heap.size) ∧ (∀ i, i < ts.length → u2.heap.size < l i ∨ hh i ≤ u2.heap.size) := ⟨by have := DL.out; omega, DL.out.1, fun G e => by have := (OT.out.q_lt e).2; omega, fun i hi => Or.inr (OT.out.hi hi)⟩
    replace OT := hide (OT.out.below bo)
    clear hK K bo
    obtain ⟨X, eX⟩ : ∃ X, u2.heap.size = X := ⟨_, rfl⟩
    rw [eX] at XB FF0 ⊢
    have FF := hide FF0
    have XD : Hid (d1.heap.size ≤ X) := by have := DL.out; show _ ≤ _; omega
    have LO1 : Hid (d1.heap.size ≤ X + 1) := by have := DL.out; show _ ≤ _; omega
    clear DL FF0 eX
    generalize u2.alloc (.cells #[.slice none 0 0] 24) = u4 at XB OT BD hHeld ⊢
    try simp only [Act.put, List.setIfInBounds_toArray, List.set]
    have x0 := XB.out.cell 0 _ rfl
    have s0 := XB.out.soft 0
    refine PhaseIn.one (i := 6) (by kernel_rfl) rfl (by kernel_rfl) (fun K hK => ?_)
    unfold Oper.wpIn
    refine ⟨fun _ _ => trivial, ?_⟩
    go_simp
    have t6 : Turn X u4 (u4.setCell ⟨X, 0, none⟩ (.slice q ts.length cap)) := (Turn.refl _ u4).setCell (p := ⟨X, 0, none⟩) rfl _
    have BU := BD.out.trans (t6.below XD.out BD.out.size)
    have hHeld6 : Rec w.heap.size [.slice q0 ts.length cap0] (u4.setCell ⟨X, 0, none⟩ (.slice q ts.length cap)) ∧ True := ⟨T3.out.a.below BU, trivial⟩
    refine hK _ _ (fun _ => hHeld6) ?_
    have F0 : PutF w q0 cap0 ts a qx cx qy cy bx b bm X d1.heap.size q cap cs l m hh (u4.setCell ⟨X, 0, none⟩ (.slice q ts.length cap)) := ⟨T3.out.z.below BU, T3.out.o.below BU, XB.out.set 0 (.slice q ts.length cap) (by simp) rfl, OT.out.apart t6 FF.out.2.2.1 FF.out.2.2.2, HM.out.below BU, HX.out.below BU, HY.out.below BU, T3.out.bw.trans (BU.mono T3.out.bw.size), FF.out⟩
    obtain ⟨lo, elo⟩ : ∃ lo, d1.heap.size = lo := ⟨_, rfl⟩
    rw [elo] at F0
    have F := hide F0
    have LOX : Hid (lo ≤ X + 1) := by have := LO1.out; show _ ≤ _; omega
    clear hK K x0 s0 t6 hHeld XB OT T3 HX HY HM F0 FF BU BD XD elo LO1
    try simp only [Act.put, List.setIfInBounds_toArray, List.set]
    generalize u4.setCell ⟨X, 0, none⟩ (.slice q ts.length cap) = U at F hHeld6 ⊢
    refine PhaseIn.takeD (i := 7) (v := ?_) [7] 9 rfl (by rfl) (by kernel_rfl) (by kernel_rfl) (by kernel_rfl) (by kernel_rfl) (by kernel_rfl) (fun _ _ _ h => h) (Or.inl ⟨by kernel_rfl, ?_⟩) hHeld6 ?_
    rotate_left
    · intro w' hSw
      (try dsimp only at hSw)
      go_simp
      first | done | with_reducible rfl
    try simp only [Act.put, List.setIfInBounds_toArray, List.set]
    refine PhaseIn.done (by kernel_rfl) ?_ _
    clear hHeld6
    have b0 := F.out.b_.cell 0 _ rfl
    have b1 := F.out.b_.cell 1 _ rfl
    have b2 := F.out.b_.cell 2 _ rfl
    have b3 := F.out.b_.cell 3 _ rfl
    go_wp2_with fail
    refine (atomOk a (ts.length : Int) qx cx qy cy bx b _ F.out.hx F.out.hy).mono ?_
    rintro e U1 ⟨rfl, hb⟩
    clear b0 b1 b2 b3
    replace F := hide (F.out.below hb)
    clear hb
    by_cases e1 : atomB a ts.length = true
    case neg =>
      rw [Bool.not_eq_true] at e1
      have PE := hide (put_bad e1)
      rw [e1]
      clear e1
      have x0 := F.out.x.cell 0 _ rfl
      have o0 := F.out.z.cell 0 _ rfl
      have s0 := F.out.z.soft 0
      have TN : Turn (w.heap.size + 1 + 1) U1 (U1.setCell ⟨w.heap.size + 1 + 1, 0, none⟩ (.slice q ts.length cap)) := (Turn.refl _ U1).setCell (p := ⟨w.heap.size + 1 + 1, 0, none⟩) rfl _
      have ZF := hide (F.out.z.set 0 (.slice q ts.length cap) (by simp) rfl)
      have BF := hide (F.out.bw.trans (TN.below (by omega) F.out.bw.size))
      have OF := hide ((F.out.ot.turn TN (Or.inl F.out.f.2.1)).mono (lo' := w.heap.size) (by have := F.out.f.2.1; omega))
      clear TN F
      go_wp2
      generalize U1.setCell ⟨w.heap.size + 1 + 1, 0, none⟩ (.slice q ts.length cap) = y9 at ZF BF OF ⊢
      have z9 := ZF.out.cell 0 _ rfl
      rw [PE0.out.1, PE0.out.2, PE.out.1, PE.out.2]
      first | exact bodyPost_ret (v := .tuple #[.agg #[.slice q ts.length cap], .int .i64 (-1)]) (by simp [results, Try.results27, go_sem, z9]) rfl ⟨q, cap, cs, l, m, hh, rfl, OF.out, BF.out⟩ | exact bodyPost_ret (v := .tuple #[.agg #[.slice q ts.length cap], .int .i64 (-1)]) (by simp [results, Try.results27, go_sem, z9]) rfl ⟨q, cap, rfl, ⟨cs, l, m, hh, OF.out⟩, BF.out⟩
    have E1 := hide e1
    have KO := hide (atom_kok e1)
    rw [e1]
    clear e1
    have b0 := F.out.b_.cell 0 _ rfl
    have b1 := F.out.b_.cell 1 _ rfl
    have b2 := F.out.b_.cell 2 _ rfl
    have b3 := F.out.b_.cell 3 _ rfl
    go_wp2_with fail
    refine (keyOf' a qx cx qy cy bx b _ F.out.hx F.out.hy KO.out.x KO.out.y).mono ?_
    rintro e U2 ⟨rfl, hb⟩
    clear b0 b1 b2 b3
    replace F := hide (F.out.below hb)
    clear hb
    obtain ⟨nn, D, hown, hnn, hhas, hat⟩ := F.out.hm
    have HK : Hid (keyOf Try.prog 72 (kv a) = some (keyL a)) := key_of KO.out
    have HH := hide hhas
    have HA := hide hat
    have TK := hide (there_key E0.out KO.out)
    clear hhas hat
    cases hh' : Maps.has D (keyL a) with
    | true =>
      have th : thereB ts a = true := by rw [TK.out, ← HH.out (keyB a)]; exact hh'
      obtain ⟨k, s, es, ss, sn⟩ := there_first th
      have PE := hide (put_there E1.out es ss sn)
      have HV : Hid (D.atKey (keyL a) (.lit (.int .i64 0)) = .lit (.int .i64 k)) := show _ = _ by
        have e9 : keyL s = keyL a := by
          have := ss
          rw [same_key (atom_kok (tab_atom E0.out es)) KO.out] at this
          unfold keyL
          rw [of_decide_eq_true this]
        rw [← e9]
        exact HA.out k s es
      clear th es ss sn
      go_wp2_with (at_lookup; refine wpList_lookup_own_ok_int _ rfl _ _ 65 rfl 72 3 .i64 keyed Try.underlying65 Try.underlying3 (Try.zeroValue3 _) bm nn D rfl hown _ _ rfl HK.out ?_; intro c0 hat0 hwc; rw [hh']; refine Hid.out ?_)
      obtain rfl : c0 = (k : Int) := by
        have := hat0.symm.trans HV.out
        simpa using this
      refine hide ?_
      clear hat0 hwc hh' hown hnn HV HK HA HH TK
      have x0 := F.out.x.cell 0 _ rfl
      have o0 := F.out.z.cell 0 _ rfl
      have s0 := F.out.z.soft 0
      have TN : Turn (w.heap.size + 1 + 1) U2 (U2.setCell ⟨w.heap.size + 1 + 1, 0, none⟩ (.slice q ts.length cap)) := (Turn.refl _ U2).setCell (p := ⟨w.heap.size + 1 + 1, 0, none⟩) rfl _
      have ZF := hide (F.out.z.set 0 (.slice q ts.length cap) (by simp) rfl)
      have BF := hide (F.out.bw.trans (TN.below (by omega) F.out.bw.size))
      have OF := hide ((F.out.ot.turn TN (Or.inl F.out.f.2.1)).mono (lo' := w.heap.size) (by have := F.out.f.2.1; omega))
      clear TN F
      go_wp2
      generalize U2.setCell ⟨w.heap.size + 1 + 1, 0, none⟩ (.slice q ts.length cap) = y9 at ZF BF OF ⊢
      have z9 := ZF.out.cell 0 _ rfl
      rw [PE0.out.1, PE0.out.2, PE.out.1, PE.out.2]
      first | exact bodyPost_ret (v := .tuple #[.agg #[.slice q ts.length cap], .int .i64 (k : Int)]) (by simp [results, Try.results27, go_sem, z9]) rfl ⟨q, cap, cs, l, m, hh, rfl, OF.out, BF.out⟩ | exact bodyPost_ret (v := .tuple #[.agg #[.slice q ts.length cap], .int .i64 (k : Int)]) (by simp [results, Try.results27, go_sem, z9]) rfl ⟨q, cap, rfl, ⟨cs, l, m, hh, OF.out⟩, BF.out⟩
    | false =>
      have E2 : Hid (thereB ts a = false) := show _ = _ by rw [TK.out, ← HH.out (keyB a)]; exact hh'
      go_wp2_with (at_lookup; refine wpList_lookup_own_ok_int _ rfl _ _ 65 rfl 72 3 .i64 keyed Try.underlying65 Try.underlying3 (Try.zeroValue3 _) bm nn D rfl hown _ _ rfl HK.out ?_; intro c0 hat0 hwc; rw [hh']; refine Hid.out ?_)
      refine hide ?_
      clear hat0 hwc hh' hown hnn HK HA HH TK
      by_cases e200 : ts.length = 200
      · have PE := hide (put_full E1.out E2.out e200)
        have f200 : (((ts.length : Nat) : Int) == 200) = true := beq_iff_eq.2 (by omega)
        clear E1 E2 e200
        have x0 := F.out.x.cell 0 _ rfl
        have o0 := F.out.z.cell 0 _ rfl
        have s0 := F.out.z.soft 0
        have TN : Turn (w.heap.size + 1 + 1) U2 (U2.setCell ⟨w.heap.size + 1 + 1, 0, none⟩ (.slice q ts.length cap)) := (Turn.refl _ U2).setCell (p := ⟨w.heap.size + 1 + 1, 0, none⟩) rfl _
        have ZF := hide (F.out.z.set 0 (.slice q ts.length cap) (by simp) rfl)
        have BF := hide (F.out.bw.trans (TN.below (by omega) F.out.bw.size))
        have OF := hide ((F.out.ot.turn TN (Or.inl F.out.f.2.1)).mono (lo' := w.heap.size) (by have := F.out.f.2.1; omega))
        clear TN F
        go_wp2
        generalize U2.setCell ⟨w.heap.size + 1 + 1, 0, none⟩ (.slice q ts.length cap) = y9 at ZF BF OF ⊢
        have z9 := ZF.out.cell 0 _ rfl
        rw [PE0.out.1, PE0.out.2, PE.out.1, PE.out.2]
        first | exact bodyPost_ret (v := .tuple #[.agg #[.slice q ts.length cap], .int .i64 (-1)]) (by simp [results, Try.results27, go_sem, z9]) rfl ⟨q, cap, cs, l, m, hh, rfl, OF.out, BF.out⟩ | exact bodyPost_ret (v := .tuple #[.agg #[.slice q ts.length cap], .int .i64 (-1)]) (by simp [results, Try.results27, go_sem, z9]) rfl ⟨q, cap, rfl, ⟨cs, l, m, hh, OF.out⟩, BF.out⟩
      have PE := hide (put_new E1.out E2.out e200)
      have f200 : (((ts.length : Nat) : Int) == 200) = false := beq_eq_false_iff_ne.2 (by omega)
      have FA := hide (fine_of E1.out)
      clear E1 E2 e200
      have bA : Below U2.heap.size U2 U2.drew := (Below.refl _ _).drew
      go_wp2_with fail
      replace F := hide (F.out.below bA)
      refine (wpIn_wide (n := 0)).1 ?_
      refine PhaseIn.region (S := fun w' => Rec X [.slice q ts.length cap] w' ∧ Rec (w.heap.size + 1) [.int .i64 a.kd, .int .i64 a.k, .slice qx a.x.length cx, .slice qy a.y.length cy] w') 5 (by kernel_rfl) ?_
      generalize U2.drew = D1 at F ⊢
      have hHeld := And.intro F.out.x F.out.b_
      clear bA
      refine PhaseIn.takeD (i := 0) (v := ?_) [0, 1, 5, 6, 7] 43 rfl (by rfl) (by kernel_rfl) (by kernel_rfl) (by kernel_rfl) (by kernel_rfl) (by kernel_rfl) (fun _ _ _ h => h) (Or.inl ⟨by kernel_rfl, ?_⟩) hHeld ?_
      rotate_left
      · intro w' hSw
        (try dsimp only at hSw)
        go_simp
        first | done | with_reducible rfl
      try simp only [Act.put, List.setIfInBounds_toArray, List.set]
      refine PhaseIn.takeD (i := 1) (v := ?_) [1, 5, 6, 7] 44 rfl (by rfl) (by kernel_rfl) (by kernel_rfl) (by kernel_rfl) (by kernel_rfl) (by kernel_rfl) (fun _ _ _ h => h) (Or.inl ⟨by kernel_rfl, ?_⟩) hHeld ?_
      rotate_left
      · intro w' hSw
        (try dsimp only at hSw)
        have z0 := hSw.1.cell 0 _ rfl
        go_simp
        first | done | with_reducible rfl
      try simp only [Act.put, List.setIfInBounds_toArray, List.set]
      refine PhaseIn.takeD (i := 2) (v := ?_) [2, 3, 4, 5, 6, 7] 45 rfl (by rfl) (by kernel_rfl) (by kernel_rfl) (by kernel_rfl) (by kernel_rfl) (by kernel_rfl) (fun _ _ _ h => h) (Or.inl ⟨by kernel_rfl, ?_⟩) hHeld ?_
      rotate_left
      · intro w' hSw
        (try dsimp only at hSw)
        have z0 := hSw.2.cell 0 _ rfl; have z1 := hSw.2.cell 1 _ rfl; have z2 := hSw.2.cell 2 _ rfl; have z3 := hSw.2.cell 3 _ rfl
        go_simp
        first | done | with_reducible rfl
      try simp only [Act.put, List.setIfInBounds_toArray, List.set]
      refine PhaseIn.one (i := 3) (by kernel_rfl) rfl (by kernel_rfl) (fun K hK => ?_)
      unfold Oper.wpIn
      refine ⟨fun _ _ => trivial, ?_⟩
      go_simp
      refine ⟨rfl, (callsIn_wide.2 (copiedAtom a qx cx qy cy bx b _ F.out.hx F.out.hy FA.out)).mono ?_⟩
      rintro e U3 ⟨ax, nx, kx, ay, ny, ky, mid, rfl, WX, WY, m1, m2, hb⟩
      refine hK _ _ (fun _ => And.intro (hHeld.1.below hb) (hHeld.2.below hb)) ?_
      replace hHeld := And.intro (hHeld.1.below hb) (hHeld.2.below hb)
      replace WX := hide WX
      replace WY := hide WY
      have HHi : Hid (∀ i, i < ts.length → hh i ≤ D1.heap.size) := fun i hi => F.out.ot.hi hi
      have HGi : Hid (∀ G, q = some ⟨G, 0, none⟩ → lo ≤ G ∧ G < D1.heap.size) := fun G e => F.out.ot.q_lt e
      have MM : Hid (w.heap.size + 1 + 1 < X ∧ X < D1.heap.size ∧ w.heap.size + 1 + 1 < lo ∧ D1.heap.size ≤ mid ∧ mid ≤ U3.heap.size) := ⟨F.out.f.1, F.out.x.lt, F.out.f.2.1, m1, m2⟩
      replace F := hide (F.out.below hb)
      clear hK K hb m1 m2
      try simp only [Act.put, List.setIfInBounds_toArray, List.set]
      refine PhaseIn.one (i := 4) (by kernel_rfl) rfl (by kernel_rfl) (fun K hK => ?_)
      unfold Oper.wpIn
      refine ⟨fun _ _ => trivial, ?_⟩
      go_simp
      have bo : Below U3.heap.size U3 (U3.alloc (.cells #[.int .i64 a.kd, .int .i64 a.k, .slice ax nx kx, .slice ay ny ky] 37)) := (Below.refl _ _).alloc (Nat.le_refl _) _
      refine hK _ _ (fun _ => And.intro (hHeld.1.below bo) (hHeld.2.below bo)) ?_
      have N := hide (Rec.new U3 [.int .i64 a.kd, .int .i64 a.k, .slice ax nx kx, .slice ay ny ky] 37)
      replace F := hide (F.out.below bo)
      replace WX := hide (WX.out.below bo)
      replace WY := hide (WY.out.below bo)
      have SA : Hid ((U3.alloc (.cells #[.int .i64 a.kd, .int .i64 a.k, .slice ax nx kx, .slice ay ny ky] 37)).heap.size = U3.heap.size + 1) := by simp [Hid]
      clear hK K bo hHeld
      try simp only [Act.put, List.setIfInBounds_toArray, List.set]
      have L9 := LOX.out
      obtain ⟨G', cap', U4, hrun, ho, hg, hgl, gr⟩ := run_pushT (ty := 22) (w := U3.alloc (.cells #[.int .i64 a.kd, .int .i64 a.k, .slice ax nx kx, .slice ay ny ky] 37)) F.out.ot.own F.out.ot.len (by have := FT.out.2; omega) (by have := SA.out; have := MM.out; omega) ⟨U3.heap.size, 0, none⟩ a.kd a.k ax nx kx ay ny ky (by rw [Addr.add_lit]; exact N.out.cell 0 _ rfl) (by rw [Addr.add_lit]; exact N.out.cell 1 _ rfl) (by rw [Addr.add_lit]; exact N.out.cell 2 _ rfl) (by rw [Addr.add_lit]; exact N.out.cell 3 _ rfl)
      have ON := hide (OTab.next F.out.ot WX.out WY.out (by have := MM.out; omega) MM.out.2.2.2.1 MM.out.2.2.2.2 (by have := SA.out; omega) (fun i hi => HHi.out i hi) (fun G e => (HGi.out G e).2) ho hg gr)
      have GN : Hid (lo ≤ G' ∧ G' ≠ X) := by
        have h1 := owns_lt ho
        refine ⟨h1.1, ?_⟩
        rcases hg with hg | hg
        · rcases F.out.ot.q_form with ⟨e1, _, _⟩ | ⟨G, e1⟩
          · rw [e1] at hg; simp [Value.ownBlock] at hg
          · have h2 := F.out.f.2.2.1 G e1
            rw [e1] at hg
            simp [Value.ownBlock] at hg
            omega
        · have := SA.out; have := MM.out; omega
      have TT : ∃ Tb, Turn Tb (U3.alloc (.cells #[.int .i64 a.kd, .int .i64 a.k, .slice ax nx kx, .slice ay ny ky] 37)) U4 ∧ Tb ≠ X ∧ lo ≤ Tb := by
        rcases F.out.ot.q_form with ⟨e1, _, _⟩ | ⟨G, e1⟩
        · exact ⟨(U3.alloc (.cells #[.int .i64 a.kd, .int .i64 a.k, .slice ax nx kx, .slice ay ny ky] 37)).heap.size, ⟨gr.os, gr.tape, gr.output, gr.size, fun j hj _ => gr.block j hj (by rw [e1]; simp [Value.ownBlock])⟩, by have := SA.out; have := MM.out; omega, by have := SA.out; have := MM.out; omega⟩
        · have h2 := HGi.out G e1
          have h3 := F.out.f.2.2.1 G e1
          subst e1
          exact ⟨G, Turn.of_grown gr, h3, h2.1⟩
      obtain ⟨Tb, tn, tb, tl⟩ := TT
      have TA := hide (F.out.x.turn tn (by omega))
      have TO := hide (F.out.z.turn tn (by have := MM.out; omega))
      have BW := hide (F.out.bw.trans (tn.below (by have := MM.out; omega) F.out.bw.size))
      have XI := hide F.out.f.2.2.2
      clear ho hg hgl gr tn tb tl F WX WY N
      refine PhaseIn.one (i := 5) (by kernel_rfl) rfl (by kernel_rfl) (fun K hK => ?_)
      refine push_in _ _ rfl rfl rfl hrun (hK _ _ (fun h => absurd h (by omega)) ?_)
      clear hK K hrun
      try simp only [Act.put, List.setIfInBounds_toArray, List.set]
      refine PhaseIn.late (i := 6) (v := ?_) (by kernel_rfl) rfl 49 (by rfl) (by omega) (Or.inl ⟨by kernel_rfl, ?_⟩) ?_
      rotate_left
      · intro w' hSw
        go_simp
        first | done | with_reducible rfl
      try simp only [Act.put, List.setIfInBounds_toArray, List.set]
      have x0 := TA.out.cell 0 _ rfl
      have s0 := TA.out.soft 0
      refine PhaseIn.one (i := 7) (by kernel_rfl) rfl (by kernel_rfl) (fun K hK => ?_)
      unfold Oper.wpIn
      refine ⟨fun _ _ => trivial, ?_⟩
      go_simp
      refine hK _ _ (fun h => absurd h (by omega)) ?_
      clear hK K x0 s0
      try simp only [Act.put, List.setIfInBounds_toArray, List.set]
      have t4 : Turn X U4 (U4.setCell ⟨X, 0, none⟩ (.slice (some ⟨G', 0, none⟩) (ts.length + 1) cap')) := (Turn.refl _ U4).setCell (p := ⟨X, 0, none⟩) rfl _
      replace TA := hide (TA.out.set 0 (.slice (some ⟨G', 0, none⟩) (ts.length + 1) cap') (by simp) rfl)
      replace TO := hide (TO.out.turn t4 (by have := MM.out; omega))
      replace BW := hide (BW.out.trans (t4.below (by have := MM.out; omega) BW.out.size))
      replace ON := hide (ON.out.apart t4 (fun G e => by injection e with e1; injection e1 with e2; have := GN.out.2; omega) (fun i hi => by by_cases e : i < ts.length; (simp only [if_pos e]; exact XI.out i e); (simp only [if_neg e]; exact Or.inl MM.out.2.1)))
      clear t4
      generalize U4.setCell ⟨X, 0, none⟩ (.slice (some ⟨G', 0, none⟩) (ts.length + 1) cap') = U5 at TA TO BW ON ⊢
      refine PhaseIn.done (by kernel_rfl) ?_ _
      have x0 := TA.out.cell 0 _ rfl
      have o0 := TO.out.cell 0 _ rfl
      have s0 := TO.out.soft 0
      have TN : Turn (w.heap.size + 1 + 1) U5 (U5.setCell ⟨w.heap.size + 1 + 1, 0, none⟩ (.slice (some ⟨G', 0, none⟩) (ts.length + 1) cap')) := (Turn.refl _ U5).setCell (p := ⟨w.heap.size + 1 + 1, 0, none⟩) rfl _
      have ZF := hide (TO.out.set 0 (.slice (some ⟨G', 0, none⟩) (ts.length + 1) cap') (by simp) rfl)
      have BF := hide (BW.out.trans (TN.below (by omega) BW.out.size))
      have OF := hide ((ON.out.turn TN (Or.inl MM.out.2.2.1)).mono (lo' := w.heap.size) (by have := MM.out; omega))
      clear TN TA TO BW ON
      go_wp2
      generalize U5.setCell ⟨w.heap.size + 1 + 1, 0, none⟩ (.slice (some ⟨G', 0, none⟩) (ts.length + 1) cap') = y9 at ZF BF OF ⊢
      have z9 := ZF.out.cell 0 _ rfl
      rw [PE0.out.1, PE0.out.2, PE.out.1, PE.out.2]
      first | exact bodyPost_ret (v := .tuple #[.agg #[(.slice (some ⟨G', 0, none⟩) (ts.length + 1) cap')], .int .i64 (ts.length : Int)]) (by simp [results, Try.results27, go_sem, z9]) rfl ⟨_, cap', _, _, _, _, by rw [List.length_append]; rfl, OF.out, BF.out⟩ | exact bodyPost_ret (v := .tuple #[.agg #[(.slice (some ⟨G', 0, none⟩) (ts.length + 1) cap')], .int .i64 (ts.length : Int)]) (by simp [results, Try.results27, go_sem, z9]) rfl ⟨_, cap', by rw [List.length_append]; rfl, ⟨_, _, _, _, OF.out⟩, BF.out⟩
  · unfold Oper.wpIn
    refine ⟨fun _ _ => trivial, ?_⟩
    go_simp
    have bo : Below d1.heap.size d1 (d1.alloc (.cells #[.slice none 0 0] 24)) := (Below.refl _ _).alloc (Nat.le_refl _) _
    have XB := hide (Rec.new d1 [.slice none 0 0] 24)
    refine hK _ _ (fun _ => ⟨T3.out.a.below bo, trivial⟩) ?_
    have BD := hide bo
    have SB : Hid ((d1.alloc (.cells #[.slice none 0 0] 24)).heap.size = d1.heap.size + 1) := by simp [Hid]
    replace H := hide (H.out.below bo)
    clear hK K bo hHeld
    try simp only [Act.put, List.setIfInBounds_toArray, List.set]
    refine PhaseIn.one (i := 1) (by kernel_rfl) rfl (by kernel_rfl) (fun K hK => ?_)
    unfold Oper.wpIn
    refine ⟨fun _ _ => trivial, ?_⟩
    go_simp
    refine ⟨rfl, (callsIn_wide.2 (copiedAtoms ts B _ _ H.out FT.out.1 (by have := FT.out.2; omega))).mono ?_⟩
    rintro e u4 ⟨q, cap, cs, l, m, hh, rfl, OT, hb⟩
    replace BD := hide (BD.out.trans (hb.mono BD.out.size))
    have hHeld : Rec w.heap.size [.slice q0 ts.length cap0] u4 ∧ True := ⟨T3.out.a.below BD.out, trivial⟩
    refine hK _ _ (fun _ => hHeld) ?_
    replace OT := hide OT
    replace XB := hide (XB.out.below hb)
    have DL : Hid (w.heap.size + 1 + 1 < d1.heap.size) := T3.out.o.lt
    have FF0 : w.heap.size + 1 + 1 < d1.heap.size ∧ w.heap.size + 1 + 1 < (d1.alloc (.cells #[.slice none 0 0] 24)).heap.size ∧ (∀ G, q = some ⟨G, 0, none⟩ → G ≠ d1.heap.size) ∧ (∀ i, i < ts.length → d1.heap.size < l i ∨ hh i ≤ d1.heap.size) := ⟨DL.out, by have := DL.out; have := SB.out; omega, fun G e => by have := (OT.out.q_lt e).1; have := SB.out; omega, fun i hi => by
      obtain ⟨_, _, _, _, _, k4, _⟩ := OT.out.rows i _ (List.getElem?_eq_getElem hi)
      have := SB.out
      exact Or.inl (by omega)⟩
    clear hK K hb H
    obtain ⟨X, eX⟩ : ∃ X, d1.heap.size = X := ⟨_, rfl⟩
    have LO1 : Hid ((d1.alloc (.cells #[.slice none 0 0] 24)).heap.size ≤ X + 1) := by have := SB.out; show _ ≤ _; omega
    have XD : Hid (d1.heap.size ≤ X) := by show _ ≤ _; omega
    rw [eX] at XB FF0 ⊢
    have FF := hide FF0
    clear DL FF0 eX SB
    try simp only [Act.put, List.setIfInBounds_toArray, List.set]
    have x0 := XB.out.cell 0 _ rfl
    have s0 := XB.out.soft 0
    refine PhaseIn.one (i := 6) (by kernel_rfl) rfl (by kernel_rfl) (fun K hK => ?_)
    unfold Oper.wpIn
    refine ⟨fun _ _ => trivial, ?_⟩
    go_simp
    have t6 : Turn X u4 (u4.setCell ⟨X, 0, none⟩ (.slice q ts.length cap)) := (Turn.refl _ u4).setCell (p := ⟨X, 0, none⟩) rfl _
    have BU := BD.out.trans (t6.below XD.out BD.out.size)
    have hHeld6 : Rec w.heap.size [.slice q0 ts.length cap0] (u4.setCell ⟨X, 0, none⟩ (.slice q ts.length cap)) ∧ True := ⟨T3.out.a.below BU, trivial⟩
    refine hK _ _ (fun _ => hHeld6) ?_
    have F0 : PutF w q0 cap0 ts a qx cx qy cy bx b bm X (d1.alloc (.cells #[.slice none 0 0] 24)).heap.size q cap cs l m hh (u4.setCell ⟨X, 0, none⟩ (.slice q ts.length cap)) := ⟨T3.out.z.below BU, T3.out.o.below BU, XB.out.set 0 (.slice q ts.length cap) (by simp) rfl, OT.out.apart t6 FF.out.2.2.1 FF.out.2.2.2, HM.out.below BU, HX.out.below BU, HY.out.below BU, T3.out.bw.trans (BU.mono T3.out.bw.size), FF.out⟩
    obtain ⟨lo, elo⟩ : ∃ lo, (d1.alloc (.cells #[.slice none 0 0] 24)).heap.size = lo := ⟨_, rfl⟩
    rw [elo] at F0
    have F := hide F0
    have LOX : Hid (lo ≤ X + 1) := by have := LO1.out; show _ ≤ _; omega
    clear hK K x0 s0 t6 hHeld XB OT T3 HX HY HM F0 FF BU BD XD elo LO1
    try simp only [Act.put, List.setIfInBounds_toArray, List.set]
    generalize u4.setCell ⟨X, 0, none⟩ (.slice q ts.length cap) = U at F hHeld6 ⊢
    refine PhaseIn.takeD (i := 7) (v := ?_) [7] 9 rfl (by rfl) (by kernel_rfl) (by kernel_rfl) (by kernel_rfl) (by kernel_rfl) (by kernel_rfl) (fun _ _ _ h => h) (Or.inl ⟨by kernel_rfl, ?_⟩) hHeld6 ?_
    rotate_left
    · intro w' hSw
      (try dsimp only at hSw)
      go_simp
      first | done | with_reducible rfl
    try simp only [Act.put, List.setIfInBounds_toArray, List.set]
    refine PhaseIn.done (by kernel_rfl) ?_ _
    clear hHeld6
    have b0 := F.out.b_.cell 0 _ rfl
    have b1 := F.out.b_.cell 1 _ rfl
    have b2 := F.out.b_.cell 2 _ rfl
    have b3 := F.out.b_.cell 3 _ rfl
    go_wp2_with fail
    refine (atomOk a (ts.length : Int) qx cx qy cy bx b _ F.out.hx F.out.hy).mono ?_
    rintro e U1 ⟨rfl, hb⟩
    clear b0 b1 b2 b3
    replace F := hide (F.out.below hb)
    clear hb
    by_cases e1 : atomB a ts.length = true
    case neg =>
      rw [Bool.not_eq_true] at e1
      have PE := hide (put_bad e1)
      rw [e1]
      clear e1
      have x0 := F.out.x.cell 0 _ rfl
      have o0 := F.out.z.cell 0 _ rfl
      have s0 := F.out.z.soft 0
      have TN : Turn (w.heap.size + 1 + 1) U1 (U1.setCell ⟨w.heap.size + 1 + 1, 0, none⟩ (.slice q ts.length cap)) := (Turn.refl _ U1).setCell (p := ⟨w.heap.size + 1 + 1, 0, none⟩) rfl _
      have ZF := hide (F.out.z.set 0 (.slice q ts.length cap) (by simp) rfl)
      have BF := hide (F.out.bw.trans (TN.below (by omega) F.out.bw.size))
      have OF := hide ((F.out.ot.turn TN (Or.inl F.out.f.2.1)).mono (lo' := w.heap.size) (by have := F.out.f.2.1; omega))
      clear TN F
      go_wp2
      generalize U1.setCell ⟨w.heap.size + 1 + 1, 0, none⟩ (.slice q ts.length cap) = y9 at ZF BF OF ⊢
      have z9 := ZF.out.cell 0 _ rfl
      rw [PE0.out.1, PE0.out.2, PE.out.1, PE.out.2]
      first | exact bodyPost_ret (v := .tuple #[.agg #[.slice q ts.length cap], .int .i64 (-1)]) (by simp [results, Try.results27, go_sem, z9]) rfl ⟨q, cap, cs, l, m, hh, rfl, OF.out, BF.out⟩ | exact bodyPost_ret (v := .tuple #[.agg #[.slice q ts.length cap], .int .i64 (-1)]) (by simp [results, Try.results27, go_sem, z9]) rfl ⟨q, cap, rfl, ⟨cs, l, m, hh, OF.out⟩, BF.out⟩
    have E1 := hide e1
    have KO := hide (atom_kok e1)
    rw [e1]
    clear e1
    have b0 := F.out.b_.cell 0 _ rfl
    have b1 := F.out.b_.cell 1 _ rfl
    have b2 := F.out.b_.cell 2 _ rfl
    have b3 := F.out.b_.cell 3 _ rfl
    go_wp2_with fail
    refine (keyOf' a qx cx qy cy bx b _ F.out.hx F.out.hy KO.out.x KO.out.y).mono ?_
    rintro e U2 ⟨rfl, hb⟩
    clear b0 b1 b2 b3
    replace F := hide (F.out.below hb)
    clear hb
    obtain ⟨nn, D, hown, hnn, hhas, hat⟩ := F.out.hm
    have HK : Hid (keyOf Try.prog 72 (kv a) = some (keyL a)) := key_of KO.out
    have HH := hide hhas
    have HA := hide hat
    have TK := hide (there_key E0.out KO.out)
    clear hhas hat
    cases hh' : Maps.has D (keyL a) with
    | true =>
      have th : thereB ts a = true := by rw [TK.out, ← HH.out (keyB a)]; exact hh'
      obtain ⟨k, s, es, ss, sn⟩ := there_first th
      have PE := hide (put_there E1.out es ss sn)
      have HV : Hid (D.atKey (keyL a) (.lit (.int .i64 0)) = .lit (.int .i64 k)) := show _ = _ by
        have e9 : keyL s = keyL a := by
          have := ss
          rw [same_key (atom_kok (tab_atom E0.out es)) KO.out] at this
          unfold keyL
          rw [of_decide_eq_true this]
        rw [← e9]
        exact HA.out k s es
      clear th es ss sn
      go_wp2_with (at_lookup; refine wpList_lookup_own_ok_int _ rfl _ _ 65 rfl 72 3 .i64 keyed Try.underlying65 Try.underlying3 (Try.zeroValue3 _) bm nn D rfl hown _ _ rfl HK.out ?_; intro c0 hat0 hwc; rw [hh']; refine Hid.out ?_)
      obtain rfl : c0 = (k : Int) := by
        have := hat0.symm.trans HV.out
        simpa using this
      refine hide ?_
      clear hat0 hwc hh' hown hnn HV HK HA HH TK
      have x0 := F.out.x.cell 0 _ rfl
      have o0 := F.out.z.cell 0 _ rfl
      have s0 := F.out.z.soft 0
      have TN : Turn (w.heap.size + 1 + 1) U2 (U2.setCell ⟨w.heap.size + 1 + 1, 0, none⟩ (.slice q ts.length cap)) := (Turn.refl _ U2).setCell (p := ⟨w.heap.size + 1 + 1, 0, none⟩) rfl _
      have ZF := hide (F.out.z.set 0 (.slice q ts.length cap) (by simp) rfl)
      have BF := hide (F.out.bw.trans (TN.below (by omega) F.out.bw.size))
      have OF := hide ((F.out.ot.turn TN (Or.inl F.out.f.2.1)).mono (lo' := w.heap.size) (by have := F.out.f.2.1; omega))
      clear TN F
      go_wp2
      generalize U2.setCell ⟨w.heap.size + 1 + 1, 0, none⟩ (.slice q ts.length cap) = y9 at ZF BF OF ⊢
      have z9 := ZF.out.cell 0 _ rfl
      rw [PE0.out.1, PE0.out.2, PE.out.1, PE.out.2]
      first | exact bodyPost_ret (v := .tuple #[.agg #[.slice q ts.length cap], .int .i64 (k : Int)]) (by simp [results, Try.results27, go_sem, z9]) rfl ⟨q, cap, cs, l, m, hh, rfl, OF.out, BF.out⟩ | exact bodyPost_ret (v := .tuple #[.agg #[.slice q ts.length cap], .int .i64 (k : Int)]) (by simp [results, Try.results27, go_sem, z9]) rfl ⟨q, cap, rfl, ⟨cs, l, m, hh, OF.out⟩, BF.out⟩
    | false =>
      have E2 : Hid (thereB ts a = false) := show _ = _ by rw [TK.out, ← HH.out (keyB a)]; exact hh'
      go_wp2_with (at_lookup; refine wpList_lookup_own_ok_int _ rfl _ _ 65 rfl 72 3 .i64 keyed Try.underlying65 Try.underlying3 (Try.zeroValue3 _) bm nn D rfl hown _ _ rfl HK.out ?_; intro c0 hat0 hwc; rw [hh']; refine Hid.out ?_)
      refine hide ?_
      clear hat0 hwc hh' hown hnn HK HA HH TK
      by_cases e200 : ts.length = 200
      · have PE := hide (put_full E1.out E2.out e200)
        have f200 : (((ts.length : Nat) : Int) == 200) = true := beq_iff_eq.2 (by omega)
        clear E1 E2 e200
        have x0 := F.out.x.cell 0 _ rfl
        have o0 := F.out.z.cell 0 _ rfl
        have s0 := F.out.z.soft 0
        have TN : Turn (w.heap.size + 1 + 1) U2 (U2.setCell ⟨w.heap.size + 1 + 1, 0, none⟩ (.slice q ts.length cap)) := (Turn.refl _ U2).setCell (p := ⟨w.heap.size + 1 + 1, 0, none⟩) rfl _
        have ZF := hide (F.out.z.set 0 (.slice q ts.length cap) (by simp) rfl)
        have BF := hide (F.out.bw.trans (TN.below (by omega) F.out.bw.size))
        have OF := hide ((F.out.ot.turn TN (Or.inl F.out.f.2.1)).mono (lo' := w.heap.size) (by have := F.out.f.2.1; omega))
        clear TN F
        go_wp2
        generalize U2.setCell ⟨w.heap.size + 1 + 1, 0, none⟩ (.slice q ts.length cap) = y9 at ZF BF OF ⊢
        have z9 := ZF.out.cell 0 _ rfl
        rw [PE0.out.1, PE0.out.2, PE.out.1, PE.out.2]
        first | exact bodyPost_ret (v := .tuple #[.agg #[.slice q ts.length cap], .int .i64 (-1)]) (by simp [results, Try.results27, go_sem, z9]) rfl ⟨q, cap, cs, l, m, hh, rfl, OF.out, BF.out⟩ | exact bodyPost_ret (v := .tuple #[.agg #[.slice q ts.length cap], .int .i64 (-1)]) (by simp [results, Try.results27, go_sem, z9]) rfl ⟨q, cap, rfl, ⟨cs, l, m, hh, OF.out⟩, BF.out⟩
      have PE := hide (put_new E1.out E2.out e200)
      have f200 : (((ts.length : Nat) : Int) == 200) = false := beq_eq_false_iff_ne.2 (by omega)
      have FA := hide (fine_of E1.out)
      clear E1 E2 e200
      have bA : Below U2.heap.size U2 U2.drew := (Below.refl _ _).drew
      go_wp2_with fail
      replace F := hide (F.out.below bA)
      refine (wpIn_wide (n := 0)).1 ?_
      refine PhaseIn.region (S := fun w' => Rec X [.slice q ts.length cap] w' ∧ Rec (w.heap.size + 1) [.int .i64 a.kd, .int .i64 a.k, .slice qx a.x.length cx, .slice qy a.y.length cy] w') 5 (by kernel_rfl) ?_
      generalize U2.drew = D1 at F ⊢
      have hHeld := And.intro F.out.x F.out.b_
      clear bA
      refine PhaseIn.takeD (i := 0) (v := ?_) [0, 1, 5, 6, 7] 43 rfl (by rfl) (by kernel_rfl) (by kernel_rfl) (by kernel_rfl) (by kernel_rfl) (by kernel_rfl) (fun _ _ _ h => h) (Or.inl ⟨by kernel_rfl, ?_⟩) hHeld ?_
      rotate_left
      · intro w' hSw
        (try dsimp only at hSw)
        go_simp
        first | done | with_reducible rfl
      try simp only [Act.put, List.setIfInBounds_toArray, List.set]
      refine PhaseIn.takeD (i := 1) (v := ?_) [1, 5, 6, 7] 44 rfl (by rfl) (by kernel_rfl) (by kernel_rfl) (by kernel_rfl) (by kernel_rfl) (by kernel_rfl) (fun _ _ _ h => h) (Or.inl ⟨by kernel_rfl, ?_⟩) hHeld ?_
      rotate_left
      · intro w' hSw
        (try dsimp only at hSw)
        have z0 := hSw.1.cell 0 _ rfl
        go_simp
        first | done | with_reducible rfl
      try simp only [Act.put, List.setIfInBounds_toArray, List.set]
      refine PhaseIn.takeD (i := 2) (v := ?_) [2, 3, 4, 5, 6, 7] 45 rfl (by rfl) (by kernel_rfl) (by kernel_rfl) (by kernel_rfl) (by kernel_rfl) (by kernel_rfl) (fun _ _ _ h => h) (Or.inl ⟨by kernel_rfl, ?_⟩) hHeld ?_
      rotate_left
      · intro w' hSw
        (try dsimp only at hSw)
        have z0 := hSw.2.cell 0 _ rfl; have z1 := hSw.2.cell 1 _ rfl; have z2 := hSw.2.cell 2 _ rfl; have z3 := hSw.2.cell 3 _ rfl
        go_simp
        first | done | with_reducible rfl
      try simp only [Act.put, List.setIfInBounds_toArray, List.set]
      refine PhaseIn.one (i := 3) (by kernel_rfl) rfl (by kernel_rfl) (fun K hK => ?_)
      unfold Oper.wpIn
      refine ⟨fun _ _ => trivial, ?_⟩
      go_simp
      refine ⟨rfl, (callsIn_wide.2 (copiedAtom a qx cx qy cy bx b _ F.out.hx F.out.hy FA.out)).mono ?_⟩
      rintro e U3 ⟨ax, nx, kx, ay, ny, ky, mid, rfl, WX, WY, m1, m2, hb⟩
      refine hK _ _ (fun _ => And.intro (hHeld.1.below hb) (hHeld.2.below hb)) ?_
      replace hHeld := And.intro (hHeld.1.below hb) (hHeld.2.below hb)
      replace WX := hide WX
      replace WY := hide WY
      have HHi : Hid (∀ i, i < ts.length → hh i ≤ D1.heap.size) := fun i hi => F.out.ot.hi hi
      have HGi : Hid (∀ G, q = some ⟨G, 0, none⟩ → lo ≤ G ∧ G < D1.heap.size) := fun G e => F.out.ot.q_lt e
      have MM : Hid (w.heap.size + 1 + 1 < X ∧ X < D1.heap.size ∧ w.heap.size + 1 + 1 < lo ∧ D1.heap.size ≤ mid ∧ mid ≤ U3.heap.size) := ⟨F.out.f.1, F.out.x.lt, F.out.f.2.1, m1, m2⟩
      replace F := hide (F.out.below hb)
      clear hK K hb m1 m2
      try simp only [Act.put, List.setIfInBounds_toArray, List.set]
      refine PhaseIn.one (i := 4) (by kernel_rfl) rfl (by kernel_rfl) (fun K hK => ?_)
      unfold Oper.wpIn
      refine ⟨fun _ _ => trivial, ?_⟩
      go_simp
      have bo : Below U3.heap.size U3 (U3.alloc (.cells #[.int .i64 a.kd, .int .i64 a.k, .slice ax nx kx, .slice ay ny ky] 37)) := (Below.refl _ _).alloc (Nat.le_refl _) _
      refine hK _ _ (fun _ => And.intro (hHeld.1.below bo) (hHeld.2.below bo)) ?_
      have N := hide (Rec.new U3 [.int .i64 a.kd, .int .i64 a.k, .slice ax nx kx, .slice ay ny ky] 37)
      replace F := hide (F.out.below bo)
      replace WX := hide (WX.out.below bo)
      replace WY := hide (WY.out.below bo)
      have SA : Hid ((U3.alloc (.cells #[.int .i64 a.kd, .int .i64 a.k, .slice ax nx kx, .slice ay ny ky] 37)).heap.size = U3.heap.size + 1) := by simp [Hid]
      clear hK K bo hHeld
      try simp only [Act.put, List.setIfInBounds_toArray, List.set]
      have L9 := LOX.out
      obtain ⟨G', cap', U4, hrun, ho, hg, hgl, gr⟩ := run_pushT (ty := 22) (w := U3.alloc (.cells #[.int .i64 a.kd, .int .i64 a.k, .slice ax nx kx, .slice ay ny ky] 37)) F.out.ot.own F.out.ot.len (by have := FT.out.2; omega) (by have := SA.out; have := MM.out; omega) ⟨U3.heap.size, 0, none⟩ a.kd a.k ax nx kx ay ny ky (by rw [Addr.add_lit]; exact N.out.cell 0 _ rfl) (by rw [Addr.add_lit]; exact N.out.cell 1 _ rfl) (by rw [Addr.add_lit]; exact N.out.cell 2 _ rfl) (by rw [Addr.add_lit]; exact N.out.cell 3 _ rfl)
      have ON := hide (OTab.next F.out.ot WX.out WY.out (by have := MM.out; omega) MM.out.2.2.2.1 MM.out.2.2.2.2 (by have := SA.out; omega) (fun i hi => HHi.out i hi) (fun G e => (HGi.out G e).2) ho hg gr)
      have GN : Hid (lo ≤ G' ∧ G' ≠ X) := by
        have h1 := owns_lt ho
        refine ⟨h1.1, ?_⟩
        rcases hg with hg | hg
        · rcases F.out.ot.q_form with ⟨e1, _, _⟩ | ⟨G, e1⟩
          · rw [e1] at hg; simp [Value.ownBlock] at hg
          · have h2 := F.out.f.2.2.1 G e1
            rw [e1] at hg
            simp [Value.ownBlock] at hg
            omega
        · have := SA.out; have := MM.out; omega
      have TT : ∃ Tb, Turn Tb (U3.alloc (.cells #[.int .i64 a.kd, .int .i64 a.k, .slice ax nx kx, .slice ay ny ky] 37)) U4 ∧ Tb ≠ X ∧ lo ≤ Tb := by
        rcases F.out.ot.q_form with ⟨e1, _, _⟩ | ⟨G, e1⟩
        · exact ⟨(U3.alloc (.cells #[.int .i64 a.kd, .int .i64 a.k, .slice ax nx kx, .slice ay ny ky] 37)).heap.size, ⟨gr.os, gr.tape, gr.output, gr.size, fun j hj _ => gr.block j hj (by rw [e1]; simp [Value.ownBlock])⟩, by have := SA.out; have := MM.out; omega, by have := SA.out; have := MM.out; omega⟩
        · have h2 := HGi.out G e1
          have h3 := F.out.f.2.2.1 G e1
          subst e1
          exact ⟨G, Turn.of_grown gr, h3, h2.1⟩
      obtain ⟨Tb, tn, tb, tl⟩ := TT
      have TA := hide (F.out.x.turn tn (by omega))
      have TO := hide (F.out.z.turn tn (by have := MM.out; omega))
      have BW := hide (F.out.bw.trans (tn.below (by have := MM.out; omega) F.out.bw.size))
      have XI := hide F.out.f.2.2.2
      clear ho hg hgl gr tn tb tl F WX WY N
      refine PhaseIn.one (i := 5) (by kernel_rfl) rfl (by kernel_rfl) (fun K hK => ?_)
      refine push_in _ _ rfl rfl rfl hrun (hK _ _ (fun h => absurd h (by omega)) ?_)
      clear hK K hrun
      try simp only [Act.put, List.setIfInBounds_toArray, List.set]
      refine PhaseIn.late (i := 6) (v := ?_) (by kernel_rfl) rfl 49 (by rfl) (by omega) (Or.inl ⟨by kernel_rfl, ?_⟩) ?_
      rotate_left
      · intro w' hSw
        go_simp
        first | done | with_reducible rfl
      try simp only [Act.put, List.setIfInBounds_toArray, List.set]
      have x0 := TA.out.cell 0 _ rfl
      have s0 := TA.out.soft 0
      refine PhaseIn.one (i := 7) (by kernel_rfl) rfl (by kernel_rfl) (fun K hK => ?_)
      unfold Oper.wpIn
      refine ⟨fun _ _ => trivial, ?_⟩
      go_simp
      refine hK _ _ (fun h => absurd h (by omega)) ?_
      clear hK K x0 s0
      try simp only [Act.put, List.setIfInBounds_toArray, List.set]
      have t4 : Turn X U4 (U4.setCell ⟨X, 0, none⟩ (.slice (some ⟨G', 0, none⟩) (ts.length + 1) cap')) := (Turn.refl _ U4).setCell (p := ⟨X, 0, none⟩) rfl _
      replace TA := hide (TA.out.set 0 (.slice (some ⟨G', 0, none⟩) (ts.length + 1) cap') (by simp) rfl)
      replace TO := hide (TO.out.turn t4 (by have := MM.out; omega))
      replace BW := hide (BW.out.trans (t4.below (by have := MM.out; omega) BW.out.size))
      replace ON := hide (ON.out.apart t4 (fun G e => by injection e with e1; injection e1 with e2; have := GN.out.2; omega) (fun i hi => by by_cases e : i < ts.length; (simp only [if_pos e]; exact XI.out i e); (simp only [if_neg e]; exact Or.inl MM.out.2.1)))
      clear t4
      generalize U4.setCell ⟨X, 0, none⟩ (.slice (some ⟨G', 0, none⟩) (ts.length + 1) cap') = U5 at TA TO BW ON ⊢
      refine PhaseIn.done (by kernel_rfl) ?_ _
      have x0 := TA.out.cell 0 _ rfl
      have o0 := TO.out.cell 0 _ rfl
      have s0 := TO.out.soft 0
      have TN : Turn (w.heap.size + 1 + 1) U5 (U5.setCell ⟨w.heap.size + 1 + 1, 0, none⟩ (.slice (some ⟨G', 0, none⟩) (ts.length + 1) cap')) := (Turn.refl _ U5).setCell (p := ⟨w.heap.size + 1 + 1, 0, none⟩) rfl _
      have ZF := hide (TO.out.set 0 (.slice (some ⟨G', 0, none⟩) (ts.length + 1) cap') (by simp) rfl)
      have BF := hide (BW.out.trans (TN.below (by omega) BW.out.size))
      have OF := hide ((ON.out.turn TN (Or.inl MM.out.2.2.1)).mono (lo' := w.heap.size) (by have := MM.out; omega))
      clear TN TA TO BW ON
      go_wp2
      generalize U5.setCell ⟨w.heap.size + 1 + 1, 0, none⟩ (.slice (some ⟨G', 0, none⟩) (ts.length + 1) cap') = y9 at ZF BF OF ⊢
      have z9 := ZF.out.cell 0 _ rfl
      rw [PE0.out.1, PE0.out.2, PE.out.1, PE.out.2]
      first | exact bodyPost_ret (v := .tuple #[.agg #[(.slice (some ⟨G', 0, none⟩) (ts.length + 1) cap')], .int .i64 (ts.length : Int)]) (by simp [results, Try.results27, go_sem, z9]) rfl ⟨_, cap', _, _, _, _, by rw [List.length_append]; rfl, OF.out, BF.out⟩ | exact bodyPost_ret (v := .tuple #[.agg #[(.slice (some ⟨G', 0, none⟩) (ts.length + 1) cap')], .int .i64 (ts.length : Int)]) (by simp [results, Try.results27, go_sem, z9]) rfl ⟨_, cap', by rw [List.length_append]; rfl, ⟨_, _, _, _, OF.out⟩, BF.out⟩
end Go.Proofs.Ytnlfcocejkaieaa.Tab
