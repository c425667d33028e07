/-
  The program's copiedSum: a sum in memory of its own.
-/
import Derived.Test.YtclccaigkcilcaaPolK
import Derived.Test.YtclccaigkcilcaaCopd
import Derived.Test.YtclccaigkcilcaaPhaseIn
namespace Go.Proofs.Ytclccaigkcilcaa.Pol
set_option linter.unusedVariables false
set_option linter.unusedSimpArgs false
open Go.ChangeShapes Go.WideShapes Go.ChangeAt Go.RowKit IntS
theorem FillP.wide {w u u' : World} {n j : Nat} {ps : List Mono} (h : FillP w n ps j u) (hb : Below u.heap.size u u') : FillP w n ps j u' := by
  obtain ⟨g, hd, hi⟩ := h.done
  refine ⟨h.below.trans (hb.mono h.below.size), Nat.lt_of_lt_of_le h.lt hb.size, ⟨g, fun i x hij hx => ?_, hi⟩, fun i hij => ?_, fun i hij => ?_⟩
  · obtain ⟨k1, k2, k3, k4, k5⟩ := hd i x hij hx
    exact ⟨cell_below hb k1, cell_below hb k2, k3.below hb, k4, Nat.lt_of_lt_of_le k5 hb.size⟩
  · obtain ⟨y, hy⟩ := h.left i hij
    exact ⟨y, cell_below hb hy⟩
  · rw [World.frozen?_of_block (w := u) (a := ⟨w.heap.size, i, none⟩) (hb.block w.heap.size h.lt)]
    exact h.soft i hij
theorem own_wrowT {w : World} {base g n c : Nat} {xs : List Int} (h : IntS.Own w base (.slice (some ⟨g, 0, none⟩) n c) xs) : WRow w g (.slice (some ⟨g, 0, none⟩) n c) xs := by
  obtain ⟨g', cap', e, _, _, W⟩ := h.form (by simp)
  cases e
  exact W
structure CopS (w w0 : World) (X : Nat) (v : Value) (ps : List Mono) (k : Nat) (u : World) : Prop where
  fill : FillP w0 ps.length ps k u
  a : Rec w.heap.size [v] u
  z : Rec (w.heap.size + 1) [.slice none 0 0] u
  x : Rec X [.slice (some ⟨w.heap.size + 1 + 1, 0, none⟩) ps.length ps.length] u
  bw : Below w.heap.size w u
theorem CopS.below {w w0 u u' : World} {X : Nat} {v : Value} {ps : List Mono} {k : Nat} (h : CopS w w0 X v ps k u) (hb : Below u.heap.size u u') : CopS w w0 X v ps k u' := ⟨h.fill.wide hb, h.a.below hb, h.z.below hb, h.x.below hb, h.bw.trans (hb.mono h.bw.size)⟩
set_option maxRecDepth 8000 in
set_option maxHeartbeats 8000000 in
theorem copiedSumW (ps : List Mono) (B : Nat) (v : Value) (w : World) (h : PRow w B v ps) (hl : ps.length ≤ 1048576) (ha : ∀ x ∈ ps, x.2.length ≤ 1048576) :
    Calls Try.prog 61 #[.agg #[v]] w fun e w' => ∃ G, e = .returned (.agg #[.slice (some ⟨G, 0, none⟩) ps.length ps.length]) ∧ WPoly w' w.heap.size w'.heap.size (.slice (some ⟨G, 0, none⟩) ps.length ps.length) ps ∧ Below w.heap.size w w' := by
  have sz : ((w.alloc (.cells #[v] 35)).alloc (.cells #[.slice none 0 0] 35)).heap.size = w.heap.size + 1 + 1 := by simp
  have hmk := make_monos ps.length (by omega) ((w.alloc (.cells #[v] 35)).alloc (.cells #[.slice none 0 0] 35))
  have F0 := fill_new ((w.alloc (.cells #[v] 35)).alloc (.cells #[.slice none 0 0] 35)) ps.length ps 74
  have bb : Below w.heap.size w ((w.alloc (.cells #[v] 35)).alloc (.cells #[.slice none 0 0] 35)) := ((Below.refl _ _).alloc (Nat.le_refl _) _).alloc (by simp) _
  have ra := (Rec.new w [v] 35).alloc (.cells #[.slice none 0 0] 35)
  have rz := Rec.new (w.alloc (.cells #[v] 35)) [.slice none 0 0] 35
  rw [show (w.alloc (.cells #[v] 35)).heap.size = w.heap.size + 1 by simp] at rz
  have SZ := hide sz
  have H := hide h
  obtain ⟨q0, cap0, off, rfl, h2, h3, _, h4⟩ := h
  have H4 := hide h4
  have HA := hide ha
  unfold maxLen at h3
  clear h4 ha
  obtain ⟨W0, eW⟩ : ∃ W0, ((w.alloc (.cells #[.slice q0 ps.length cap0] 35)).alloc (.cells #[.slice none 0 0] 35)) = W0 := ⟨_, rfl⟩
  rw [eW] at hmk F0 bb ra rz SZ
  rw [show W0.heap.size = w.heap.size + 1 + 1 from SZ.out] at hmk
  have m1 : Below W0.heap.size W0 (W0.alloc (.cells (madeCells #[.int .i64 0, .slice none 0 0] (ps.length * 2)) 74)) := (Below.refl _ _).alloc (Nat.le_refl _) _
  have ms : (W0.alloc (.cells (madeCells #[.int .i64 0, .slice none 0 0] (ps.length * 2)) 74)).heap.size = w.heap.size + 1 + 1 + 1 := by simp; exact SZ.out
  have ra2 := ra.below m1
  have rz2 := rz.below m1
  have b2 := bb.trans (m1.mono bb.size)
  generalize W0.alloc (.cells (madeCells #[.int .i64 0, .slice none 0 0] (ps.length * 2)) 74) = U at hmk F0 ms ra2 rz2 b2
  have m2 : Below U.heap.size U (U.alloc (.cells #[.slice (some ⟨w.heap.size + 1 + 1, 0, none⟩) ps.length ps.length] 35)) := (Below.refl _ _).alloc (Nat.le_refl _) _
  have rx := Rec.new U [.slice (some ⟨w.heap.size + 1 + 1, 0, none⟩) ps.length ps.length] 35
  have C0 : Hid (CopS w W0 U.heap.size (.slice q0 ps.length cap0) ps 0 (U.alloc (.cells #[.slice (some ⟨w.heap.size + 1 + 1, 0, none⟩) ps.length ps.length] 35))) := ⟨F0.wide m2, ra2.below m2, rz2.below m2, rx, b2.trans (m2.mono b2.size)⟩
  have c0 := ra.cell 0 _ rfl
  have c1 := C0.out.a.cell 0 _ rfl
  have MS := hide ms
  clear m1 m2 ra rz ra2 rz2 rx b2 F0 bb sz ms
  go_enter Try.func61, Try.ntmps61
  go_wp2_with fail
  obtain ⟨X, eX⟩ : ∃ X, U.heap.size = X := ⟨_, rfl⟩
  have XL : Hid (X = w.heap.size + 1 + 1 + 1) := show _ = _ from eX.symm.trans MS.out
  rw [eX] at C0 ⊢
  generalize U.alloc (.cells #[.slice (some ⟨w.heap.size + 1 + 1, 0, none⟩) ps.length ps.length] 35) = V at C0 c1 ⊢
  clear hmk c0 c1 eX eW MS
  go_loopw [14] (fun i wr => ∃ k : Nat, k ≤ ps.length ∧ i = .int .i64 k ∧ Hid (CopS w W0 X (.slice q0 ps.length cap0) ps k wr)) (fun i _ => ps.length - (intOf i).toNat)
  case atStart => exact ⟨0, by omega, rfl, C0⟩
  case round =>
    obtain ⟨k, hk, rfl, CP⟩ := hrel
    clear C0
    by_cases hlt : k < ps.length
    case neg =>
      obtain rfl : k = ps.length := by omega
      have x0 := CP.out.x.cell 0 _ rfl
      have z0 := CP.out.z.cell 0 _ rfl
      have s0 := CP.out.z.soft 0
      have T1 : Turn (w.heap.size + 1) wr (wr.setCell ⟨w.heap.size + 1, 0, none⟩ (.slice (some ⟨w.heap.size + 1 + 1, 0, none⟩) ps.length ps.length)) := (Turn.refl _ wr).setCell (p := ⟨w.heap.size + 1, 0, none⟩) rfl _
      have B0 := hide (CP.out.bw.trans (T1.below (by omega) CP.out.bw.size))
      have Z0 := hide (CP.out.z.set 0 (.slice (some ⟨w.heap.size + 1 + 1, 0, none⟩) ps.length ps.length) (by simp) rfl)
      have W1 := CP.out.fill.whole rfl (by unfold maxLen; omega)
      rw [SZ.out] at W1
      have W2 := hide ((W1.keep (Keep.of_turn T1) (fun b h1 h2 (h3 : b = _) => by omega)).wide (lo' := w.heap.size) (hi' := (wr.setCell ⟨w.heap.size + 1, 0, none⟩ (.slice (some ⟨w.heap.size + 1 + 1, 0, none⟩) ps.length ps.length)).heap.size) (by omega) T1.size)
      clear W1 T1
      go_wp2
      generalize wr.setCell ⟨w.heap.size + 1, 0, none⟩ (.slice (some ⟨w.heap.size + 1 + 1, 0, none⟩) ps.length ps.length) = Y at B0 Z0 W2 ⊢
      have z1 := Z0.out.cell 0 _ rfl
      exact bodyPost_ret (v := .agg #[.slice (some ⟨w.heap.size + 1 + 1, 0, none⟩) ps.length ps.length]) (by simp [results, Try.results61, go_sem, z1]) rfl ⟨_, rfl, W2.out, B0.out⟩
    · obtain ⟨x, ex⟩ : ∃ x, ps[k]? = some x := ⟨_, List.getElem?_eq_getElem hlt⟩
      obtain ⟨rfl, hc⟩ := H4.out.resolve_left (fun e => by rw [e] at ex; simp at ex)
      have LA := hide (HA.out x (List.mem_of_getElem? ex))
      obtain ⟨c, at_⟩ := x
      obtain ⟨g1, s, b, g2, g3⟩ := hc k _ ex
      have cx := cell_below CP.out.bw g1
      have sx := cell_below CP.out.bw g2
      have rr := g3.below CP.out.bw
      obtain ⟨qa, ca, _, rfl, _⟩ := g3
      simp only [] at cx sx rr LA
      have EX := hide ex
      have lk : ((k : Nat) : Int) < (ps.length : Nat) := by omega
      clear ex g1 g2 hc
      have bA : Below wr.heap.size wr (wr.alloc (.cells #[.int .i64 c, .slice qa at_.length ca] 74)).drew := ((Below.refl _ _).alloc (Nat.le_refl _) _).drew
      have BX := hide ((Rec.new wr [.int .i64 c, .slice qa at_.length ca] 74).drew)
      go_wp2_with fail
      have CPd := hide (CP.out.below bA)
      have RR := hide (rr.below bA)
      have HB0 := hide bA
      refine (wpIn_wide (n := 0)).1 ?_
      refine PhaseIn.region (S := fun w' => Rec X [.slice (some ⟨w.heap.size + 1 + 1, 0, none⟩) ps.length ps.length] w' ∧ Rec wr.heap.size [.int .i64 c, .slice qa at_.length ca] w') 9 (by kernel_rfl) ?_
      generalize (wr.alloc (.cells #[.int .i64 c, .slice qa at_.length ca] 74)).drew = d1 at BX CPd RR HB0 ⊢
      have hHeld := And.intro CPd.out.x BX.out
      clear bA cx sx rr
      refine PhaseIn.takeD (i := 0) (v := ?_) [0, 1, 9, 10] 19 rfl (by rfl) (by kernel_rfl) (by kernel_rfl) (by kernel_rfl) (by kernel_rfl) (by kernel_rfl) (fun _ _ _ h => h) (Or.inl ⟨by kernel_rfl, ?_⟩) hHeld ?_
      rotate_left
      · intro w' hSw
        (try dsimp only at hSw)
        go_simp
        first | done | with_reducible rfl
      try simp only [Act.put, List.setIfInBounds_toArray, List.set]
      refine PhaseIn.takeD (i := 1) (v := ?_) [1, 9, 10] 20 rfl (by rfl) (by kernel_rfl) (by kernel_rfl) (by kernel_rfl) (by kernel_rfl) (by kernel_rfl) (fun _ _ _ h => h) (Or.inl ⟨by kernel_rfl, ?_⟩) hHeld ?_
      rotate_left
      · intro w' hSw
        (try dsimp only at hSw)
        have z0 := hSw.1.cell 0 _ rfl
        go_simp
        first | done | with_reducible rfl
      try simp only [Act.put, List.setIfInBounds_toArray, List.set]
      refine PhaseIn.takeD (i := 2) (v := ?_) [2, 9, 10] 21 rfl (by rfl) (by kernel_rfl) (by kernel_rfl) (by kernel_rfl) (by kernel_rfl) (by kernel_rfl) (fun _ _ _ h => h) (Or.inl ⟨by kernel_rfl, ?_⟩) hHeld ?_
      rotate_left
      · intro w' hSw
        (try dsimp only at hSw)
        go_simp
        first | done | with_reducible rfl
      try simp only [Act.put, List.setIfInBounds_toArray, List.set]
      refine PhaseIn.takeD (i := 3) (v := ?_) [3, 4, 8, 9, 10] 22 rfl (by rfl) (by kernel_rfl) (by kernel_rfl) (by kernel_rfl) (by kernel_rfl) (by kernel_rfl) (fun _ _ _ h => h) (Or.inl ⟨by kernel_rfl, ?_⟩) hHeld ?_
      rotate_left
      · intro w' hSw
        (try dsimp only at hSw)
        go_simp
        first | done | with_reducible rfl
      try simp only [Act.put, List.setIfInBounds_toArray, List.set]
      refine PhaseIn.takeD (i := 4) (v := ?_) [4, 8, 9, 10] 23 rfl (by rfl) (by kernel_rfl) (by kernel_rfl) (by kernel_rfl) (by kernel_rfl) (by kernel_rfl) (fun _ _ _ h => h) (Or.inl ⟨by kernel_rfl, ?_⟩) hHeld ?_
      rotate_left
      · intro w' hSw
        (try dsimp only at hSw)
        have z0 := hSw.2.cell 0 _ rfl
        go_simp
        first | done | with_reducible rfl
      try simp only [Act.put, List.setIfInBounds_toArray, List.set]
      refine PhaseIn.takeD (i := 5) (v := ?_) [5, 6, 7, 8, 9, 10] 24 rfl (by rfl) (by kernel_rfl) (by kernel_rfl) (by kernel_rfl) (by kernel_rfl) (by kernel_rfl) (fun _ _ _ h => h) (Or.inl ⟨by kernel_rfl, ?_⟩) hHeld ?_
      rotate_left
      · intro w' hSw
        (try dsimp only at hSw)
        go_simp
        first | done | with_reducible rfl
      try simp only [Act.put, List.setIfInBounds_toArray, List.set]
      refine PhaseIn.takeD (i := 6) (v := ?_) [6, 7, 8, 9, 10] 25 rfl (by rfl) (by kernel_rfl) (by kernel_rfl) (by kernel_rfl) (by kernel_rfl) (by kernel_rfl) (fun _ _ _ h => h) (Or.inl ⟨by kernel_rfl, ?_⟩) hHeld ?_
      rotate_left
      · intro w' hSw
        (try dsimp only at hSw)
        have z0 := hSw.2.cell 1 _ rfl
        go_simp
        first | done | with_reducible rfl
      try simp only [Act.put, List.setIfInBounds_toArray, List.set]
      refine PhaseIn.one (i := 7) (by kernel_rfl) rfl (by kernel_rfl) (fun K hK => ?_)
      unfold Oper.wpIn
      refine ⟨fun _ _ => trivial, ?_⟩
      go_simp
      refine ⟨rfl, (callsIn_wide.2 (Copd.copied at_ b _ _ RR.out (by have := LA.out; omega))).mono ?_⟩
      rintro e u2 ⟨g, rfl, OG, ge, gl, hb⟩
      refine hK _ _ (fun _ => And.intro (hHeld.1.below hb) (hHeld.2.below hb)) ?_
      replace hHeld := And.intro (hHeld.1.below hb) (hHeld.2.below hb)
      have WG := own_wrowT OG
      have HB1 := HB0.out.trans (hb.mono HB0.out.size)
      have NX := hide (FillP.next (x := (c, at_)) CP.out.fill hlt EX.out HB1 WG (Nat.le_trans HB0.out.size ge) gl)
      obtain ⟨y0, e0⟩ := CP.out.fill.left (k * 2) (by omega)
      obtain ⟨y1, e1⟩ := CP.out.fill.left (k * 2 + 1) (by omega)
      have p0 := cell_below HB1 e0
      have p1 := cell_below HB1 e1
      have ff (i : Nat) (hi : i < ps.length * 2) : u2.frozen? ⟨W0.heap.size, i, none⟩ = false := by rw [World.frozen?_of_block (w := wr) (a := ⟨W0.heap.size, i, none⟩) (HB1.block W0.heap.size CP.out.fill.lt)]; exact CP.out.fill.soft _ hi
      have f0 := ff (k * 2) (by omega)
      have f1 := ff (k * 2 + 1) (by omega)
      rw [SZ.out] at p0 p1 f0 f1
      have C2 := hide (CPd.out.below hb)
      have P2' := hide (And.intro p0 (And.intro p1 (And.intro f0 f1)))
      clear hK K hb OG WG ge gl HB1 CP e0 e1 p0 p1 f0 f1 ff HB0 CPd
      try simp only [Act.put, List.setIfInBounds_toArray, List.set]
      refine PhaseIn.takeD (i := 8) (v := ?_) [8, 9, 10] 27 rfl (by rfl) (by kernel_rfl) (by kernel_rfl) (by kernel_rfl) (by kernel_rfl) (by kernel_rfl) (fun _ _ _ h => h) (Or.inl ⟨by kernel_rfl, ?_⟩) hHeld ?_
      rotate_left
      · intro w' hSw
        (try dsimp only at hSw)
        go_simp
        first | done | with_reducible rfl
      try simp only [Act.put, List.setIfInBounds_toArray, List.set]
      refine PhaseIn.late (i := 9) (v := ?_) (by kernel_rfl) rfl 28 (by rfl) (by omega) (Or.inl ⟨by kernel_rfl, ?_⟩) ?_
      rotate_left
      · intro w' hSw
        go_simp
        first | done | with_reducible rfl
      try simp only [Act.put, List.setIfInBounds_toArray, List.set]
      obtain ⟨p0, p1, f0, f1⟩ := P2'.out
      clear hHeld
      refine PhaseIn.one (i := 10) (by kernel_rfl) rfl (by kernel_rfl) (fun K hK => ?_)
      unfold Oper.wpIn
      refine ⟨fun _ _ => trivial, ?_⟩
      go_simp
      have tn : Turn (w.heap.size + 1 + 1) u2 ((u2.setCell ⟨w.heap.size + 1 + 1, k * 2, none⟩ (.int .i64 c)).setCell ⟨w.heap.size + 1 + 1, k * 2 + 1, none⟩ (.slice (some ⟨g, 0, none⟩) at_.length at_.length)) := ((Turn.refl (w.heap.size + 1 + 1) u2).setCell (p := ⟨w.heap.size + 1 + 1, k * 2, none⟩) rfl _).setCell (p := ⟨w.heap.size + 1 + 1, k * 2 + 1, none⟩) rfl _
      simp only [] at NX
      rw [SZ.out] at NX
      have CN : Hid (CopS w W0 X (.slice (some ⟨B, off, none⟩) ps.length cap0) ps (k + 1) ((u2.setCell ⟨w.heap.size + 1 + 1, k * 2, none⟩ (.int .i64 c)).setCell ⟨w.heap.size + 1 + 1, k * 2 + 1, none⟩ (.slice (some ⟨g, 0, none⟩) at_.length at_.length))) := ⟨NX.out, C2.out.a.turn tn (by omega), C2.out.z.turn tn (by omega), C2.out.x.turn tn (by have := XL.out; omega), C2.out.bw.trans (tn.below (by omega) C2.out.bw.size)⟩
      refine hK _ _ (fun h => absurd h (by omega)) ?_
      clear hK K p0 p1 f0 f1 P2' NX C2 tn
      try simp only [Act.put, List.setIfInBounds_toArray, List.set]
      generalize ((u2.setCell ⟨w.heap.size + 1 + 1, k * 2, none⟩ (.int .i64 c)).setCell ⟨w.heap.size + 1 + 1, k * 2 + 1, none⟩ (.slice (some ⟨g, 0, none⟩) at_.length at_.length)) = y9 at CN ⊢
      refine PhaseIn.done (by kernel_rfl) ?_ _
      go_wp2
      exact ⟨⟨k + 1, by omega, by go_num, CN⟩, by simp [intOf]; omega⟩
theorem copiedSum (ps : List Mono) (B : Nat) (v : Value) (w : World) (h : PRow w B v ps) (hl : ps.length ≤ 1000) (ha : ∀ x ∈ ps, x.2.length ≤ 1000) :
    Calls Try.prog 61 #[.agg #[v]] w fun e w' => ∃ G, e = .returned (.agg #[.slice (some ⟨G, 0, none⟩) ps.length ps.length]) ∧ WPoly w' w.heap.size w'.heap.size (.slice (some ⟨G, 0, none⟩) ps.length ps.length) ps ∧ Below w.heap.size w w' := copiedSumW ps B v w h (by omega) (fun x hx => Nat.le_trans (ha x hx) (by omega))
end Go.Proofs.Ytclccaigkcilcaa.Pol
