/-
  The program's copiedSum: a sum in memory of its own.
  The program's copiedAtom and copiedAtoms.
  A drawn region at which two operations may come up; a region cut off from what follows it.
-/
import Derived.Test.YtagfgbkclopoeaaJ07
import Derived.Test.YtagfgbkclopoeaaJ18
import Derived.Test.YtagfgbkclopoeaaJ12
import Derived.Test.YtagfgbkclopoeaaJ15
namespace Go.Proofs.Ytagfgbkclopoeaa.Pol
set_option linter.unusedVariables false
set_option linter.unusedSimpArgs false
open Go.ChangeShapes Go.WideShapes Go.ChangeAt Go.RowKit IntS
theorem FillP.wide {w u u' : World} {n j : Nat} {ps : List Mono} (h : FillP w n ps j u) (hb : Below u.heap.size u u') : FillP w n ps j u' := by
  obtain ⟨g, hd, hi⟩ := h.done
  refine ⟨h.below.trans (hb.mono h.below.size), Nat.lt_of_lt_of_le h.lt hb.size, ⟨g, fun i x hij hx => ?_, hi⟩, fun i hij => ?_, fun i hij => ?_⟩
  · obtain ⟨k1, k2, k3, k4, k5⟩ := hd i x hij hx
    exact ⟨cell_below hb k1, cell_below hb k2, k3.below hb, k4, Nat.lt_of_lt_of_le k5 hb.size⟩
  · obtain ⟨y, hy⟩ := h.left i hij
    exact ⟨y, cell_below hb hy⟩
  · rw [World.frozen?_of_block (w := u) (a := ⟨w.heap.size, i, none⟩) (hb.block w.heap.size h.lt)]
    exact h.soft i hij
theorem own_wrow {w : World} {base g n c : Nat} {xs : List Int} (h : IntS.Own w base (.slice (some ⟨g, 0, none⟩) n c) xs) : WRow w g (.slice (some ⟨g, 0, none⟩) n c) xs := by
  obtain ⟨g', cap', e, _, _, W⟩ := h.form (by simp)
  cases e
  exact W
structure CopS (w w0 : World) (X : Nat) (v : Value) (ps : List Mono) (k : Nat) (u : World) : Prop where
  fill : FillP w0 ps.length ps k u
  a : Rec w.heap.size [v] u
  z : Rec (w.heap.size + 1) [.slice none 0 0] u
  x : Rec X [.slice (some ⟨w.heap.size + 1 + 1, 0, none⟩) ps.length ps.length] u
  bw : Below w.heap.size w u
theorem CopS.below {w w0 u u' : World} {X : Nat} {v : Value} {ps : List Mono} {k : Nat} (h : CopS w w0 X v ps k u) (hb : Below u.heap.size u u') : CopS w w0 X v ps k u' := ⟨h.fill.wide hb, h.a.below hb, h.z.below hb, h.x.below hb, h.bw.trans (hb.mono h.bw.size)⟩
set_option maxRecDepth 8000 in
set_option maxHeartbeats 8000000 in
theorem copiedSum (ps : List Mono) (B : Nat) (v : Value) (w : World) (h : PRow w B v ps) (hl : ps.length ≤ 1000) (ha : ∀ x ∈ ps, x.2.length ≤ 1000) :
    Calls Try.prog 57 #[.agg #[v]] w fun e w' => ∃ G, e = .returned (.agg #[.slice (some ⟨G, 0, none⟩) ps.length ps.length]) ∧ WPoly w' w.heap.size w'.heap.size (.slice (some ⟨G, 0, none⟩) ps.length ps.length) ps ∧ Below w.heap.size w w' := by
  have sz : ((w.alloc (.cells #[v] 40)).alloc (.cells #[.slice none 0 0] 40)).heap.size = w.heap.size + 1 + 1 := by simp
  have hmk := make_monos ps.length (by omega) ((w.alloc (.cells #[v] 40)).alloc (.cells #[.slice none 0 0] 40))
  have F0 := fill_new ((w.alloc (.cells #[v] 40)).alloc (.cells #[.slice none 0 0] 40)) ps.length ps 88
  have bb : Below w.heap.size w ((w.alloc (.cells #[v] 40)).alloc (.cells #[.slice none 0 0] 40)) := ((Below.refl _ _).alloc (Nat.le_refl _) _).alloc (by simp) _
  have ra := (Rec.new w [v] 40).alloc (.cells #[.slice none 0 0] 40)
  have rz := Rec.new (w.alloc (.cells #[v] 40)) [.slice none 0 0] 40
  rw [show (w.alloc (.cells #[v] 40)).heap.size = w.heap.size + 1 by simp] at rz
  have SZ := hide sz
  have H := hide h
  obtain ⟨q0, cap0, off, rfl, h2, h3, _, h4⟩ := h
  have H4 := hide h4
  have HA := hide ha
  unfold maxLen at h3
  clear h4 ha
  obtain ⟨W0, eW⟩ : ∃ W0, ((w.alloc (.cells #[.slice q0 ps.length cap0] 40)).alloc (.cells #[.slice none 0 0] 40)) = W0 := ⟨_, rfl⟩
  rw [eW] at hmk F0 bb ra rz SZ
  rw [show W0.heap.size = w.heap.size + 1 + 1 from SZ.out] at hmk
  have m1 : Below W0.heap.size W0 (W0.alloc (.cells (madeCells #[.int .i64 0, .slice none 0 0] (ps.length * 2)) 88)) := (Below.refl _ _).alloc (Nat.le_refl _) _
  have ms : (W0.alloc (.cells (madeCells #[.int .i64 0, .slice none 0 0] (ps.length * 2)) 88)).heap.size = w.heap.size + 1 + 1 + 1 := by simp; exact SZ.out
  have ra2 := ra.below m1
  have rz2 := rz.below m1
  have b2 := bb.trans (m1.mono bb.size)
  generalize W0.alloc (.cells (madeCells #[.int .i64 0, .slice none 0 0] (ps.length * 2)) 88) = U at hmk F0 ms ra2 rz2 b2
  have m2 : Below U.heap.size U (U.alloc (.cells #[.slice (some ⟨w.heap.size + 1 + 1, 0, none⟩) ps.length ps.length] 40)) := (Below.refl _ _).alloc (Nat.le_refl _) _
  have rx := Rec.new U [.slice (some ⟨w.heap.size + 1 + 1, 0, none⟩) ps.length ps.length] 40
  have C0 : Hid (CopS w W0 U.heap.size (.slice q0 ps.length cap0) ps 0 (U.alloc (.cells #[.slice (some ⟨w.heap.size + 1 + 1, 0, none⟩) ps.length ps.length] 40))) := ⟨F0.wide m2, ra2.below m2, rz2.below m2, rx, b2.trans (m2.mono b2.size)⟩
  have c0 := ra.cell 0 _ rfl
  have c1 := C0.out.a.cell 0 _ rfl
  have MS := hide ms
  clear m1 m2 ra rz ra2 rz2 rx b2 F0 bb sz ms
  go_enter Try.func57, Try.ntmps57
  go_wp2_with fail
  obtain ⟨X, eX⟩ : ∃ X, U.heap.size = X := ⟨_, rfl⟩
  have XL : Hid (X = w.heap.size + 1 + 1 + 1) := show _ = _ from eX.symm.trans MS.out
  rw [eX] at C0 ⊢
  generalize U.alloc (.cells #[.slice (some ⟨w.heap.size + 1 + 1, 0, none⟩) ps.length ps.length] 40) = V at C0 c1 ⊢
  clear hmk c0 c1 eX eW MS
  go_loopw [14] (fun i wr => ∃ k : Nat, k ≤ ps.length ∧ i = .int .i64 k ∧ Hid (CopS w W0 X (.slice q0 ps.length cap0) ps k wr)) (fun i _ => ps.length - (intOf i).toNat)
  case atStart => exact ⟨0, by omega, rfl, C0⟩
  case round =>
    obtain ⟨k, hk, rfl, CP⟩ := hrel
    clear C0
    by_cases hlt : k < ps.length
    case neg =>
      obtain rfl : k = ps.length := by omega
      have x0 := CP.out.x.cell 0 _ rfl
      have z0 := CP.out.z.cell 0 _ rfl
      have s0 := CP.out.z.soft 0
      have T1 : Turn (w.heap.size + 1) wr (wr.setCell ⟨w.heap.size + 1, 0, none⟩ (.slice (some ⟨w.heap.size + 1 + 1, 0, none⟩) ps.length ps.length)) := (Turn.refl _ wr).setCell (p := ⟨w.heap.size + 1, 0, none⟩) rfl _
      have B0 := hide (CP.out.bw.trans (T1.below (by omega) CP.out.bw.size))
      have Z0 := hide (CP.out.z.set 0 (.slice (some ⟨w.heap.size + 1 + 1, 0, none⟩) ps.length ps.length) (by simp) rfl)
      have W1 := CP.out.fill.whole rfl (by unfold maxLen; omega)
      rw [SZ.out] at W1
      have W2 := hide ((W1.keep (Keep.of_turn T1) (fun b h1 h2 (h3 : b = _) => by omega)).wide (lo' := w.heap.size) (hi' := (wr.setCell ⟨w.heap.size + 1, 0, none⟩ (.slice (some ⟨w.heap.size + 1 + 1, 0, none⟩) ps.length ps.length)).heap.size) (by omega) T1.size)
      clear W1 T1
      go_wp2
      generalize wr.setCell ⟨w.heap.size + 1, 0, none⟩ (.slice (some ⟨w.heap.size + 1 + 1, 0, none⟩) ps.length ps.length) = Y at B0 Z0 W2 ⊢
      have z1 := Z0.out.cell 0 _ rfl
      exact bodyPost_ret (v := .agg #[.slice (some ⟨w.heap.size + 1 + 1, 0, none⟩) ps.length ps.length]) (by simp [results, Try.results57, go_sem, z1]) rfl ⟨_, rfl, W2.out, B0.out⟩
    · obtain ⟨x, ex⟩ : ∃ x, ps[k]? = some x := ⟨_, List.getElem?_eq_getElem hlt⟩
      obtain ⟨rfl, hc⟩ := H4.out.resolve_left (fun e => by rw [e] at ex; simp at ex)
      have LA := hide (HA.out x (List.mem_of_getElem? ex))
      obtain ⟨c, at_⟩ := x
      obtain ⟨g1, s, b, g2, g3⟩ := hc k _ ex
      have cx := cell_below CP.out.bw g1
      have sx := cell_below CP.out.bw g2
      have rr := g3.below CP.out.bw
      obtain ⟨qa, ca, _, rfl, _⟩ := g3
      simp only [] at cx sx rr LA
      have EX := hide ex
      have lk : ((k : Nat) : Int) < (ps.length : Nat) := by omega
      clear ex g1 g2 hc
      have bA : Below wr.heap.size wr (wr.alloc (.cells #[.int .i64 c, .slice qa at_.length ca] 88)).drew := ((Below.refl _ _).alloc (Nat.le_refl _) _).drew
      have BX := hide ((Rec.new wr [.int .i64 c, .slice qa at_.length ca] 88).drew)
      go_wp2_with fail
      have CPd := hide (CP.out.below bA)
      have RR := hide (rr.below bA)
      have HB0 := hide bA
      refine (wpIn_wide (n := 0)).1 ?_
      refine PhaseIn.region (S := fun w' => Rec X [.slice (some ⟨w.heap.size + 1 + 1, 0, none⟩) ps.length ps.length] w' ∧ Rec wr.heap.size [.int .i64 c, .slice qa at_.length ca] w') 9 (by kernel_rfl) ?_
      generalize (wr.alloc (.cells #[.int .i64 c, .slice qa at_.length ca] 88)).drew = d1 at BX CPd RR HB0 ⊢
      have hHeld := And.intro CPd.out.x BX.out
      clear bA cx sx rr
      refine PhaseIn.takeD (i := 0) (v := ?_) [0, 1, 9, 10] 19 rfl (by rfl) (by kernel_rfl) (by kernel_rfl) (by kernel_rfl) (by kernel_rfl) (by kernel_rfl) (fun _ _ _ h => h) (Or.inl ⟨by kernel_rfl, ?_⟩) hHeld ?_
      rotate_left
      · intro w' hSw
        (try dsimp only at hSw)
        go_simp
        first | done | with_reducible rfl
      try simp only [Act.put, List.setIfInBounds_toArray, List.set]
      refine PhaseIn.takeD (i := 1) (v := ?_) [1, 9, 10] 20 rfl (by rfl) (by kernel_rfl) (by kernel_rfl) (by kernel_rfl) (by kernel_rfl) (by kernel_rfl) (fun _ _ _ h => h) (Or.inl ⟨by kernel_rfl, ?_⟩) hHeld ?_
      rotate_left
      · intro w' hSw
        (try dsimp only at hSw)
        have z0 := hSw.1.cell 0 _ rfl
        go_simp
        first | done | with_reducible rfl
      try simp only [Act.put, List.setIfInBounds_toArray, List.set]
      refine PhaseIn.takeD (i := 2) (v := ?_) [2, 9, 10] 21 rfl (by rfl) (by kernel_rfl) (by kernel_rfl) (by kernel_rfl) (by kernel_rfl) (by kernel_rfl) (fun _ _ _ h => h) (Or.inl ⟨by kernel_rfl, ?_⟩) hHeld ?_
      rotate_left
      · intro w' hSw
        (try dsimp only at hSw)
        go_simp
        first | done | with_reducible rfl
      try simp only [Act.put, List.setIfInBounds_toArray, List.set]
      refine PhaseIn.takeD (i := 3) (v := ?_) [3, 4, 8, 9, 10] 22 rfl (by rfl) (by kernel_rfl) (by kernel_rfl) (by kernel_rfl) (by kernel_rfl) (by kernel_rfl) (fun _ _ _ h => h) (Or.inl ⟨by kernel_rfl, ?_⟩) hHeld ?_
      rotate_left
      · intro w' hSw
        (try dsimp only at hSw)
        go_simp
        first | done | with_reducible rfl
      try simp only [Act.put, List.setIfInBounds_toArray, List.set]
      refine PhaseIn.takeD (i := 4) (v := ?_) [4, 8, 9, 10] 23 rfl (by rfl) (by kernel_rfl) (by kernel_rfl) (by kernel_rfl) (by kernel_rfl) (by kernel_rfl) (fun _ _ _ h => h) (Or.inl ⟨by kernel_rfl, ?_⟩) hHeld ?_
      rotate_left
      · intro w' hSw
        (try dsimp only at hSw)
        have z0 := hSw.2.cell 0 _ rfl
        go_simp
        first | done | with_reducible rfl
      try simp only [Act.put, List.setIfInBounds_toArray, List.set]
      refine PhaseIn.takeD (i := 5) (v := ?_) [5, 6, 7, 8, 9, 10] 24 rfl (by rfl) (by kernel_rfl) (by kernel_rfl) (by kernel_rfl) (by kernel_rfl) (by kernel_rfl) (fun _ _ _ h => h) (Or.inl ⟨by kernel_rfl, ?_⟩) hHeld ?_
      rotate_left
      · intro w' hSw
        (try dsimp only at hSw)
        go_simp
        first | done | with_reducible rfl
      try simp only [Act.put, List.setIfInBounds_toArray, List.set]
      refine PhaseIn.takeD (i := 6) (v := ?_) [6, 7, 8, 9, 10] 25 rfl (by rfl) (by kernel_rfl) (by kernel_rfl) (by kernel_rfl) (by kernel_rfl) (by kernel_rfl) (fun _ _ _ h => h) (Or.inl ⟨by kernel_rfl, ?_⟩) hHeld ?_
      rotate_left
      · intro w' hSw
        (try dsimp only at hSw)
        have z0 := hSw.2.cell 1 _ rfl
        go_simp
        first | done | with_reducible rfl
      try simp only [Act.put, List.setIfInBounds_toArray, List.set]
      refine PhaseIn.one (i := 7) (by kernel_rfl) rfl (by kernel_rfl) (fun K hK => ?_)
      unfold Oper.wpIn
      refine ⟨fun _ _ => trivial, ?_⟩
      go_simp
      refine ⟨rfl, (callsIn_wide.2 (Copd.copied at_ b _ _ RR.out (by have := LA.out; omega))).mono ?_⟩
      rintro e u2 ⟨g, rfl, OG, ge, gl, hb⟩
      refine hK _ _ (fun _ => And.intro (hHeld.1.below hb) (hHeld.2.below hb)) ?_
      replace hHeld := And.intro (hHeld.1.below hb) (hHeld.2.below hb)
      have WG := own_wrow OG
      have HB1 := HB0.out.trans (hb.mono HB0.out.size)
      have NX := hide (FillP.next (x := (c, at_)) CP.out.fill hlt EX.out HB1 WG (Nat.le_trans HB0.out.size ge) gl)
      obtain ⟨y0, e0⟩ := CP.out.fill.left (k * 2) (by omega)
      obtain ⟨y1, e1⟩ := CP.out.fill.left (k * 2 + 1) (by omega)
      have p0 := cell_below HB1 e0
      have p1 := cell_below HB1 e1
      have ff (i : Nat) (hi : i < ps.length * 2) : u2.frozen? ⟨W0.heap.size, i, none⟩ = false := by rw [World.frozen?_of_block (w := wr) (a := ⟨W0.heap.size, i, none⟩) (HB1.block W0.heap.size CP.out.fill.lt)]; exact CP.out.fill.soft _ hi
      have f0 := ff (k * 2) (by omega)
      have f1 := ff (k * 2 + 1) (by omega)
      rw [SZ.out] at p0 p1 f0 f1
      have C2 := hide (CPd.out.below hb)
      have P2' := hide (And.intro p0 (And.intro p1 (And.intro f0 f1)))
      clear hK K hb OG WG ge gl HB1 CP e0 e1 p0 p1 f0 f1 ff HB0 CPd
      try simp only [Act.put, List.setIfInBounds_toArray, List.set]
      refine PhaseIn.takeD (i := 8) (v := ?_) [8, 9, 10] 27 rfl (by rfl) (by kernel_rfl) (by kernel_rfl) (by kernel_rfl) (by kernel_rfl) (by kernel_rfl) (fun _ _ _ h => h) (Or.inl ⟨by kernel_rfl, ?_⟩) hHeld ?_
      rotate_left
      · intro w' hSw
        (try dsimp only at hSw)
        go_simp
        first | done | with_reducible rfl
      try simp only [Act.put, List.setIfInBounds_toArray, List.set]
      refine PhaseIn.late (i := 9) (v := ?_) (by kernel_rfl) rfl 28 (by rfl) (by omega) (Or.inl ⟨by kernel_rfl, ?_⟩) ?_
      rotate_left
      · intro w' hSw
        go_simp
        first | done | with_reducible rfl
      try simp only [Act.put, List.setIfInBounds_toArray, List.set]
      obtain ⟨p0, p1, f0, f1⟩ := P2'.out
      clear hHeld
      refine PhaseIn.one (i := 10) (by kernel_rfl) rfl (by kernel_rfl) (fun K hK => ?_)
      unfold Oper.wpIn
      refine ⟨fun _ _ => trivial, ?_⟩
      go_simp
      have tn : Turn (w.heap.size + 1 + 1) u2 ((u2.setCell ⟨w.heap.size + 1 + 1, k * 2, none⟩ (.int .i64 c)).setCell ⟨w.heap.size + 1 + 1, k * 2 + 1, none⟩ (.slice (some ⟨g, 0, none⟩) at_.length at_.length)) := ((Turn.refl (w.heap.size + 1 + 1) u2).setCell (p := ⟨w.heap.size + 1 + 1, k * 2, none⟩) rfl _).setCell (p := ⟨w.heap.size + 1 + 1, k * 2 + 1, none⟩) rfl _
      simp only [] at NX
      rw [SZ.out] at NX
      have CN : Hid (CopS w W0 X (.slice (some ⟨B, off, none⟩) ps.length cap0) ps (k + 1) ((u2.setCell ⟨w.heap.size + 1 + 1, k * 2, none⟩ (.int .i64 c)).setCell ⟨w.heap.size + 1 + 1, k * 2 + 1, none⟩ (.slice (some ⟨g, 0, none⟩) at_.length at_.length))) := ⟨NX.out, C2.out.a.turn tn (by omega), C2.out.z.turn tn (by omega), C2.out.x.turn tn (by have := XL.out; omega), C2.out.bw.trans (tn.below (by omega) C2.out.bw.size)⟩
      refine hK _ _ (fun h => absurd h (by omega)) ?_
      clear hK K p0 p1 f0 f1 P2' NX C2 tn
      try simp only [Act.put, List.setIfInBounds_toArray, List.set]
      generalize ((u2.setCell ⟨w.heap.size + 1 + 1, k * 2, none⟩ (.int .i64 c)).setCell ⟨w.heap.size + 1 + 1, k * 2 + 1, none⟩ (.slice (some ⟨g, 0, none⟩) at_.length at_.length)) = y9 at CN ⊢
      refine PhaseIn.done (by kernel_rfl) ?_ _
      go_wp2
      exact ⟨⟨k + 1, by omega, by go_num, CN⟩, by simp [intOf]; omega⟩
end Go.Proofs.Ytagfgbkclopoeaa.Pol
namespace Go.Proofs.Ytagfgbkclopoeaa.Tab
set_option linter.unusedVariables false
set_option linter.unusedSimpArgs false
open Go.ChangeShapes Go.WideShapes Go.ChangeAt Go.RowKit IntS Pol Push
set_option maxRecDepth 8000 in
set_option maxHeartbeats 8000000 in
theorem copiedAtom (t : At) (qx : Option Addr) (cx : Nat) (qy : Option Addr) (cy bx b : Nat) (w : World) (hx : PRow w bx (.slice qx t.x.length cx) t.x) (hy : PRow w b (.slice qy t.y.length cy) t.y) (hf : FineA t) :
    Calls Try.prog 33 #[.agg #[.int .i64 t.kd, .int .i64 t.k, .slice qx t.x.length cx, .slice qy t.y.length cy]] w fun e w' => ∃ ax nx kx ay ny ky mid, e = .returned (.agg #[.int .i64 t.kd, .int .i64 t.k, .slice ax nx kx, .slice ay ny ky]) ∧ WPoly w' w.heap.size mid (.slice ax nx kx) t.x ∧ WPoly w' mid w'.heap.size (.slice ay ny ky) t.y ∧ w.heap.size ≤ mid ∧ mid ≤ w'.heap.size ∧ Below w.heap.size w w' := by
  have bV : Below w.heap.size w ((w.alloc (.cells #[.int .i64 t.kd, .int .i64 t.k, .slice qx t.x.length cx, .slice qy t.y.length cy] 42)).alloc (.cells #[.int .i64 0, .int .i64 0, .slice none 0 0, .slice none 0 0] 42)).drew := (((Below.refl _ _).alloc (Nat.le_refl _) _).alloc (by simp) _).drew
  have AR := hide (((Rec.new w [.int .i64 t.kd, .int .i64 t.k, .slice qx t.x.length cx, .slice qy t.y.length cy] 42).alloc (.cells #[.int .i64 0, .int .i64 0, .slice none 0 0, .slice none 0 0] 42)).drew)
  have Z0 := (Rec.new (w.alloc (.cells #[.int .i64 t.kd, .int .i64 t.k, .slice qx t.x.length cx, .slice qy t.y.length cy] 42)) [.int .i64 0, .int .i64 0, .slice none 0 0, .slice none 0 0] 42).drew
  rw [show (w.alloc (.cells #[.int .i64 t.kd, .int .i64 t.k, .slice qx t.x.length cx, .slice qy t.y.length cy] 42)).heap.size = w.heap.size + 1 by simp] at Z0
  have ZR := hide Z0
  have HX := hide (hx.below bV)
  have HY := hide (hy.below bV)
  have BW := hide bV
  have HF := hide hf
  clear bV hx hy Z0 hf
  go_enter Try.func33, Try.ntmps33
  go_wp2_with fail
  refine (wpIn_wide (n := 0)).1 ?_
  refine PhaseIn.region (S := Rec w.heap.size [.int .i64 t.kd, .int .i64 t.k, .slice qx t.x.length cx, .slice qy t.y.length cy]) 7 (by kernel_rfl) ?_
  generalize ((w.alloc (.cells #[.int .i64 t.kd, .int .i64 t.k, .slice qx t.x.length cx, .slice qy t.y.length cy] 42)).alloc (.cells #[.int .i64 0, .int .i64 0, .slice none 0 0, .slice none 0 0] 42)).drew = d0 at AR ZR HX HY BW ⊢
  have hHeld := AR.out
  refine PhaseIn.takeD (i := 0) (v := ?_) [0, 1, 2, 5, 6, 7, 8, 9] 3 rfl (by rfl) (by kernel_rfl) (by kernel_rfl) (by kernel_rfl) (by kernel_rfl) (by kernel_rfl) (fun _ _ _ h => h) (Or.inl ⟨by kernel_rfl, ?_⟩) hHeld ?_
  rotate_left
  · intro w' hSw
    (try dsimp only at hSw)
    go_simp
    first | done | with_reducible rfl
  try simp only [Act.put, List.setIfInBounds_toArray, List.set]
  refine PhaseIn.takeD (i := 1) (v := ?_) [1, 2, 5, 6, 7, 8, 9] 4 rfl (by rfl) (by kernel_rfl) (by kernel_rfl) (by kernel_rfl) (by kernel_rfl) (by kernel_rfl) (fun _ _ _ h => h) (Or.inl ⟨by kernel_rfl, ?_⟩) hHeld ?_
  rotate_left
  · intro w' hSw
    (try dsimp only at hSw)
    have z0 := hSw.cell 0 _ rfl; have z1 := hSw.cell 1 _ rfl; have z2 := hSw.cell 2 _ rfl; have z3 := hSw.cell 3 _ rfl
    go_simp
    first | done | with_reducible rfl
  try simp only [Act.put, List.setIfInBounds_toArray, List.set]
  refine PhaseIn.takeD (i := 3) (v := ?_) [3, 4, 5, 6, 7, 8, 9] 6 rfl (by rfl) (by kernel_rfl) (by kernel_rfl) (by kernel_rfl) (by kernel_rfl) (by kernel_rfl) (fun _ _ _ h => h) (Or.inl ⟨by kernel_rfl, ?_⟩) hHeld ?_
  rotate_left
  · intro w' hSw
    (try dsimp only at hSw)
    go_simp
    first | done | with_reducible rfl
  try simp only [Act.put, List.setIfInBounds_toArray, List.set]
  refine PhaseIn.takeD (i := 4) (v := ?_) [4, 5, 6, 7, 8, 9] 7 rfl (by rfl) (by kernel_rfl) (by kernel_rfl) (by kernel_rfl) (by kernel_rfl) (by kernel_rfl) (fun _ _ _ h => h) (Or.inl ⟨by kernel_rfl, ?_⟩) hHeld ?_
  rotate_left
  · intro w' hSw
    (try dsimp only at hSw)
    have z0 := hSw.cell 0 _ rfl; have z1 := hSw.cell 1 _ rfl; have z2 := hSw.cell 2 _ rfl; have z3 := hSw.cell 3 _ rfl
    go_simp
    first | done | with_reducible rfl
  try simp only [Act.put, List.setIfInBounds_toArray, List.set]
  refine PhaseIn.one (i := 2) (by kernel_rfl) rfl (by kernel_rfl) (fun K hK => ?_)
  unfold Oper.wpIn
  refine ⟨fun _ _ => trivial, ?_⟩
  go_simp
  refine ⟨rfl, (callsIn_wide.2 (copiedSum t.x bx _ _ HX.out HF.out.x HF.out.ax)).mono ?_⟩
  rintro e u1 ⟨GX, rfl, WX, hb⟩
  refine hK _ _ (fun _ => hHeld.below hb) ?_
  have DL : Hid (w.heap.size + 1 < d0.heap.size) := ZR.out.lt
  replace WX := hide WX
  have SZ0 : Hid (d0.heap.size ≤ u1.heap.size) := hb.size
  replace hHeld := hHeld.below hb
  replace AR := hide (AR.out.below hb)
  replace ZR := hide (ZR.out.below hb)
  replace HY := hide (HY.out.below hb)
  replace BW := hide (BW.out.trans (hb.mono BW.out.size))
  clear hb hK K HX
  try simp only [Act.put, List.setIfInBounds_toArray, List.set]
  refine PhaseIn.takeD (i := 6) (v := ?_) [6, 7, 8, 9] 9 rfl (by rfl) (by kernel_rfl) (by kernel_rfl) (by kernel_rfl) (by kernel_rfl) (by kernel_rfl) (fun _ _ _ h => h) (Or.inl ⟨by kernel_rfl, ?_⟩) hHeld ?_
  rotate_left
  · intro w' hSw
    (try dsimp only at hSw)
    go_simp
    first | done | with_reducible rfl
  try simp only [Act.put, List.setIfInBounds_toArray, List.set]
  refine PhaseIn.one (i := 5) (by kernel_rfl) rfl (by kernel_rfl) (fun K hK => ?_)
  unfold Oper.wpIn
  refine ⟨fun _ _ => trivial, ?_⟩
  go_simp
  refine ⟨rfl, (callsIn_wide.2 (copiedSum t.y b _ _ HY.out HF.out.y HF.out.ay)).mono ?_⟩
  rintro e u2 ⟨GY, rfl, WY, hb⟩
  refine hK _ _ (fun _ => hHeld.below hb) ?_
  replace WY := hide WY
  have SZ2 : Hid (u1.heap.size ≤ u2.heap.size) := hb.size
  replace AR := hide (AR.out.below hb)
  replace ZR := hide (ZR.out.below hb)
  replace WX := hide (WX.out.below hb)
  replace BW := hide (BW.out.trans (hb.mono BW.out.size))
  clear hb hK K HY hHeld
  try simp only [Act.put, List.setIfInBounds_toArray, List.set]
  have z2 := AR.out.cell 2 _ rfl
  have y2 := AR.out.soft 2
  refine PhaseIn.one (i := 7) (by kernel_rfl) rfl (by kernel_rfl) (fun K hK => ?_)
  unfold Oper.wpIn
  refine ⟨fun _ _ => trivial, ?_⟩
  go_simp
  have t7 : Turn w.heap.size u2 (u2.setCell ⟨w.heap.size, 2, none⟩ (.slice (some ⟨GX, 0, none⟩) t.x.length t.x.length)) := (Turn.refl _ u2).setCell (p := ⟨w.heap.size, 2, none⟩) rfl _
  have A7 := hide (AR.out.set 2 (.slice (some ⟨GX, 0, none⟩) t.x.length t.x.length) (by simp) (show _ = ([.int .i64 t.kd, .int .i64 t.k, .slice (some ⟨GX, 0, none⟩) t.x.length t.x.length, .slice qy t.y.length cy] : List Value) from rfl))
  replace ZR := hide (ZR.out.turn t7 (by omega))
  replace WX := hide (WX.out.keep (Keep.of_turn t7) (fun b' h1 h2 (h3 : b' = _) => by have := DL.out; omega))
  replace WY := hide (WY.out.keep (Keep.of_turn t7) (fun b' h1 h2 (h3 : b' = _) => by have := DL.out; have := SZ0.out; omega))
  replace BW := hide (BW.out.trans (t7.below (by omega) BW.out.size))
  have S7 : Hid (u2.heap.size ≤ (u2.setCell ⟨w.heap.size, 2, none⟩ (.slice (some ⟨GX, 0, none⟩) t.x.length t.x.length)).heap.size) := t7.size
  refine hK _ _ (fun h => absurd h (by omega)) ?_
  clear hK K z2 y2 AR t7
  try simp only [Act.put, List.setIfInBounds_toArray, List.set]
  generalize u2.setCell ⟨w.heap.size, 2, none⟩ (.slice (some ⟨GX, 0, none⟩) t.x.length t.x.length) = u7 at A7 ZR WX WY BW S7 ⊢
  refine PhaseIn.late (i := 8) (v := ?_) (by kernel_rfl) rfl 10 (by rfl) (by omega) (Or.inl ⟨by kernel_rfl, ?_⟩) ?_
  rotate_left
  · intro w' hSw
    go_simp
    first | done | with_reducible rfl
  try simp only [Act.put, List.setIfInBounds_toArray, List.set]
  have z3 := A7.out.cell 3 _ rfl
  have y3 := A7.out.soft 3
  refine PhaseIn.one (i := 9) (by kernel_rfl) rfl (by kernel_rfl) (fun K hK => ?_)
  unfold Oper.wpIn
  refine ⟨fun _ _ => trivial, ?_⟩
  go_simp
  have t9 : Turn w.heap.size u7 (u7.setCell ⟨w.heap.size, 3, none⟩ (.slice (some ⟨GY, 0, none⟩) t.y.length t.y.length)) := (Turn.refl _ u7).setCell (p := ⟨w.heap.size, 3, none⟩) rfl _
  have A9 := hide (A7.out.set 3 (.slice (some ⟨GY, 0, none⟩) t.y.length t.y.length) (by simp) (show _ = ([.int .i64 t.kd, .int .i64 t.k, .slice (some ⟨GX, 0, none⟩) t.x.length t.x.length, .slice (some ⟨GY, 0, none⟩) t.y.length t.y.length] : List Value) from rfl))
  replace ZR := hide (ZR.out.turn t9 (by omega))
  replace WX := hide (WX.out.keep (Keep.of_turn t9) (fun b' h1 h2 (h3 : b' = _) => by have := DL.out; omega))
  replace WY := hide (WY.out.keep (Keep.of_turn t9) (fun b' h1 h2 (h3 : b' = _) => by have := DL.out; have := SZ0.out; omega))
  replace BW := hide (BW.out.trans (t9.below (by omega) BW.out.size))
  have S9 : Hid (u2.heap.size ≤ (u7.setCell ⟨w.heap.size, 3, none⟩ (.slice (some ⟨GY, 0, none⟩) t.y.length t.y.length)).heap.size) := Nat.le_trans S7.out t9.size
  refine hK _ _ (fun h => absurd h (by omega)) ?_
  clear hK K z3 y3 A7 t9 S7
  try simp only [Act.put, List.setIfInBounds_toArray, List.set]
  generalize u7.setCell ⟨w.heap.size, 3, none⟩ (.slice (some ⟨GY, 0, none⟩) t.y.length t.y.length) = u9 at A9 ZR WX WY BW S9 ⊢
  refine PhaseIn.done (by kernel_rfl) ?_ _
  have a0 := A9.out.cell 0 _ rfl
  have z0 := ZR.out.cell 0 _ rfl
  have y0 := ZR.out.soft 0
  have a1 := A9.out.cell 1 _ rfl
  have z1 := ZR.out.cell 1 _ rfl
  have y1 := ZR.out.soft 1
  have a2 := A9.out.cell 2 _ rfl
  have z2 := ZR.out.cell 2 _ rfl
  have y2 := ZR.out.soft 2
  have a3 := A9.out.cell 3 _ rfl
  have z3 := ZR.out.cell 3 _ rfl
  have y3 := ZR.out.soft 3
  have RF := hide ((((ZR.out.set 0 (.int .i64 t.kd) (by simp) (show _ = ([.int .i64 t.kd, .int .i64 0, .slice none 0 0, .slice none 0 0] : List Value) from rfl)).set 1 (.int .i64 t.k) (by simp) (show _ = ([.int .i64 t.kd, .int .i64 t.k, .slice none 0 0, .slice none 0 0] : List Value) from rfl)).set 2 (.slice (some ⟨GX, 0, none⟩) t.x.length t.x.length) (by simp) (show _ = ([.int .i64 t.kd, .int .i64 t.k, .slice (some ⟨GX, 0, none⟩) t.x.length t.x.length, .slice none 0 0] : List Value) from rfl)).set 3 (.slice (some ⟨GY, 0, none⟩) t.y.length t.y.length) (by simp) (show _ = ([.int .i64 t.kd, .int .i64 t.k, .slice (some ⟨GX, 0, none⟩) t.x.length t.x.length, .slice (some ⟨GY, 0, none⟩) t.y.length t.y.length] : List Value) from rfl))
  have TN : Turn (w.heap.size + 1) u9 ((((u9.setCell ⟨w.heap.size + 1, 0, none⟩ (.int .i64 t.kd)).setCell ⟨w.heap.size + 1, 1, none⟩ (.int .i64 t.k)).setCell ⟨w.heap.size + 1, 2, none⟩ (.slice (some ⟨GX, 0, none⟩) t.x.length t.x.length)).setCell ⟨w.heap.size + 1, 3, none⟩ (.slice (some ⟨GY, 0, none⟩) t.y.length t.y.length)) := (((((Turn.refl (w.heap.size + 1) u9).setCell (p := ⟨w.heap.size + 1, 0, none⟩) rfl (.int .i64 t.kd)).setCell (p := ⟨w.heap.size + 1, 1, none⟩) rfl (.int .i64 t.k)).setCell (p := ⟨w.heap.size + 1, 2, none⟩) rfl (.slice (some ⟨GX, 0, none⟩) t.x.length t.x.length)).setCell (p := ⟨w.heap.size + 1, 3, none⟩) rfl (.slice (some ⟨GY, 0, none⟩) t.y.length t.y.length))
  have FX := hide ((WX.out.keep (Keep.of_turn TN) (fun b' h1 h2 (h3 : b' = _) => by have := DL.out; omega)).wide (lo' := w.heap.size) (hi' := u1.heap.size) (by have := DL.out; omega) (Nat.le_refl _))
  have FY := hide ((WY.out.keep (Keep.of_turn TN) (fun b' h1 h2 (h3 : b' = _) => by have := DL.out; have := SZ0.out; omega)).wide (lo' := u1.heap.size) (hi' := ((((u9.setCell ⟨w.heap.size + 1, 0, none⟩ (.int .i64 t.kd)).setCell ⟨w.heap.size + 1, 1, none⟩ (.int .i64 t.k)).setCell ⟨w.heap.size + 1, 2, none⟩ (.slice (some ⟨GX, 0, none⟩) t.x.length t.x.length)).setCell ⟨w.heap.size + 1, 3, none⟩ (.slice (some ⟨GY, 0, none⟩) t.y.length t.y.length)).heap.size) (Nat.le_refl _) (Nat.le_trans S9.out TN.size))
  have M1 : Hid (w.heap.size ≤ u1.heap.size ∧ u1.heap.size ≤ ((((u9.setCell ⟨w.heap.size + 1, 0, none⟩ (.int .i64 t.kd)).setCell ⟨w.heap.size + 1, 1, none⟩ (.int .i64 t.k)).setCell ⟨w.heap.size + 1, 2, none⟩ (.slice (some ⟨GX, 0, none⟩) t.x.length t.x.length)).setCell ⟨w.heap.size + 1, 3, none⟩ (.slice (some ⟨GY, 0, none⟩) t.y.length t.y.length)).heap.size) := ⟨by have := DL.out; have := SZ0.out; omega, Nat.le_trans SZ2.out (Nat.le_trans S9.out TN.size)⟩
  replace BW := hide (BW.out.trans (TN.below (by omega) BW.out.size))
  clear WX WY TN DL SZ0 SZ2 S9 A9 ZR
  go_wp2
  generalize ((((u9.setCell ⟨w.heap.size + 1, 0, none⟩ (.int .i64 t.kd)).setCell ⟨w.heap.size + 1, 1, none⟩ (.int .i64 t.k)).setCell ⟨w.heap.size + 1, 2, none⟩ (.slice (some ⟨GX, 0, none⟩) t.x.length t.x.length)).setCell ⟨w.heap.size + 1, 3, none⟩ (.slice (some ⟨GY, 0, none⟩) t.y.length t.y.length)) = y4 at RF FX FY M1 BW ⊢
  have r0 := RF.out.cell 0 _ rfl
  have r1 := RF.out.cell 1 _ rfl
  have r2 := RF.out.cell 2 _ rfl
  have r3 := RF.out.cell 3 _ rfl
  exact bodyPost_ret (v := .agg #[.int .i64 t.kd, .int .i64 t.k, .slice (some ⟨GX, 0, none⟩) t.x.length t.x.length, .slice (some ⟨GY, 0, none⟩) t.y.length t.y.length]) (by simp [results, Try.results33, go_sem, r0, r1, r2, r3]) rfl ⟨_, _, _, _, _, _, u1.heap.size, rfl, FX.out, FY.out, M1.out.1, M1.out.2, BW.out⟩
set_option maxRecDepth 8000 in
set_option maxHeartbeats 8000000 in
theorem copiedAtoms (ts : List At) (B : Nat) (v : Value) (w : World) (h : TRow w B v ts) (hf : ∀ t ∈ ts, FineA t) (hl : ts.length ≤ 1000) :
    Calls Try.prog 30 #[.agg #[v]] w fun e w' => ∃ q cap cs l m h, e = .returned (.agg #[.slice q ts.length cap]) ∧ OTab w' w.heap.size q cap cs l m h ts ∧ Below w.heap.size w w' := by
  have T := Three.new w [v] [.slice none 0 0] [.slice none 0 0] 34 34 34
  have C0 : Hid (CopyT w v ts 0 none 0 [] (fun _ => 0) (fun _ => 0) (fun _ => 0) (((w.alloc (.cells #[v] 34)).alloc (.cells #[.slice none 0 0] 34)).alloc (.cells #[.slice none 0 0] 34))) := ⟨T.a, T.z, T.o, OTab.nil _ _, T.bw⟩
  have HF := hide hf
  obtain ⟨a, cap0, off, rfl, h2, h3, _, h4⟩ := h
  have H4 := hide h4
  unfold maxLen at h3
  clear T hf h4
  go_enter Try.func30, Try.ntmps30
  go_wp2
  generalize (((w.alloc (.cells #[.slice a ts.length cap0] 34)).alloc (.cells #[.slice none 0 0] 34)).alloc (.cells #[.slice none 0 0] 34)) = V at C0 ⊢
  go_loopw [9] (fun i wr => ∃ k : Nat, k ≤ ts.length ∧ i = .int .i64 k ∧ Hid (∃ q cap cs l m h, CopyT w (.slice a ts.length cap0) ts k q cap cs l m h wr)) (fun i _ => ts.length - (intOf i).toNat)
  case atStart => exact ⟨0, by omega, rfl, ⟨_, _, _, _, _, _, C0.out⟩⟩
  case round =>
    obtain ⟨k, hk, rfl, HC⟩ := hrel
    obtain ⟨q, cap, cs, l, m, hh, CP0⟩ := HC.out
    have CP := hide CP0
    clear CP0 HC C0
    by_cases hlt : k < ts.length
    case neg =>
      obtain rfl : k = ts.length := by omega
      have x0 := CP.out.x.cell 0 _ rfl
      have a0 := CP.out.a.cell 0 _ rfl
      have z0 := CP.out.z.cell 0 _ rfl
      have s0 := CP.out.z.soft 0
      have T1 : Turn (w.heap.size + 1) wr (wr.setCell ⟨w.heap.size + 1, 0, none⟩ (.slice q ts.length cap)) := (Turn.refl _ wr).setCell (p := ⟨w.heap.size + 1, 0, none⟩) rfl _
      have B0 := hide (CP.out.bw.trans (T1.below (by omega) CP.out.bw.size))
      have Z0 := hide (CP.out.z.set 0 (.slice q ts.length cap) (by simp) rfl)
      have W0 := CP.out.tab.turn T1 (Or.inl (by omega))
      rw [List.take_length] at W0
      have W1 := hide (W0.mono (lo' := w.heap.size) (by omega))
      clear W0 T1
      go_wp2
      generalize wr.setCell ⟨w.heap.size + 1, 0, none⟩ (.slice q ts.length cap) = U at B0 Z0 W1 ⊢
      have z1 := Z0.out.cell 0 _ rfl
      exact bodyPost_ret (v := .agg #[.slice q ts.length cap]) (by simp [results, Try.results30, go_sem, z1]) rfl ⟨q, cap, cs, l, m, hh, rfl, W1.out, B0.out⟩
    · obtain ⟨t, et⟩ : ∃ t, ts[k]? = some t := ⟨_, List.getElem?_eq_getElem hlt⟩
      obtain ⟨rfl, hc⟩ := H4.out.resolve_left (fun e => by rw [e] at et; simp at et)
      obtain ⟨c0, c1, qx, cx, bx, qy, cy, b, c2, px, c3, py⟩ := (hc k t et).below CP.out.bw
      have FA := hide (HF.out t (List.mem_of_getElem? et))
      have ET := hide et
      have lk : ((k : Nat) : Int) < (ts.length : Nat) := by omega
      clear et hc
      have a0 := CP.out.a.cell 0 _ rfl
      have bA : Below wr.heap.size wr (wr.alloc (.cells #[.int .i64 t.kd, .int .i64 t.k, .slice qx t.x.length cx, .slice qy t.y.length cy] 42)).drew := ((Below.refl _ _).alloc (Nat.le_refl _) _).drew
      have BX := hide ((Rec.new wr [.int .i64 t.kd, .int .i64 t.k, .slice qx t.x.length cx, .slice qy t.y.length cy] 42).drew)
      go_wp2_with fail
      have CPd := hide (CP.out.below bA)
      have PX := hide (px.below bA)
      have PY := hide (py.below bA)
      refine (wpIn_wide (n := 0)).1 ?_
      refine PhaseIn.region (S := fun w' => Rec (w.heap.size + 1 + 1) [.slice q k cap] w' ∧ Rec wr.heap.size [.int .i64 t.kd, .int .i64 t.k, .slice qx t.x.length cx, .slice qy t.y.length cy] w') 5 (by kernel_rfl) ?_
      generalize (wr.alloc (.cells #[.int .i64 t.kd, .int .i64 t.k, .slice qx t.x.length cx, .slice qy t.y.length cy] 42)).drew = d1 at BX CPd PX PY ⊢
      have hHeld := And.intro CPd.out.x BX.out
      clear bA a0 c0 c1 c2 c3 px py CP
      refine PhaseIn.takeD (i := 0) (v := ?_) [0, 1, 5, 6, 7] 13 rfl (by rfl) (by kernel_rfl) (by kernel_rfl) (by kernel_rfl) (by kernel_rfl) (by kernel_rfl) (fun _ _ _ h => h) (Or.inl ⟨by kernel_rfl, ?_⟩) hHeld ?_
      rotate_left
      · intro w' hSw
        (try dsimp only at hSw)
        go_simp
        first | done | with_reducible rfl
      try simp only [Act.put, List.setIfInBounds_toArray, List.set]
      refine PhaseIn.takeD (i := 1) (v := ?_) [1, 5, 6, 7] 14 rfl (by rfl) (by kernel_rfl) (by kernel_rfl) (by kernel_rfl) (by kernel_rfl) (by kernel_rfl) (fun _ _ _ h => h) (Or.inl ⟨by kernel_rfl, ?_⟩) hHeld ?_
      rotate_left
      · intro w' hSw
        (try dsimp only at hSw)
        have z0 := hSw.1.cell 0 _ rfl
        go_simp
        first | done | with_reducible rfl
      try simp only [Act.put, List.setIfInBounds_toArray, List.set]
      refine PhaseIn.takeD (i := 2) (v := ?_) [2, 3, 4, 5, 6, 7] 15 rfl (by rfl) (by kernel_rfl) (by kernel_rfl) (by kernel_rfl) (by kernel_rfl) (by kernel_rfl) (fun _ _ _ h => h) (Or.inl ⟨by kernel_rfl, ?_⟩) hHeld ?_
      rotate_left
      · intro w' hSw
        (try dsimp only at hSw)
        have z0 := hSw.2.cell 0 _ rfl; have z1 := hSw.2.cell 1 _ rfl; have z2 := hSw.2.cell 2 _ rfl; have z3 := hSw.2.cell 3 _ rfl
        go_simp
        first | done | with_reducible rfl
      try simp only [Act.put, List.setIfInBounds_toArray, List.set]
      refine PhaseIn.one (i := 3) (by kernel_rfl) rfl (by kernel_rfl) (fun K hK => ?_)
      unfold Oper.wpIn
      refine ⟨fun _ _ => trivial, ?_⟩
      go_simp
      refine ⟨rfl, (callsIn_wide.2 (copiedAtom t qx cx qy cy bx b _ PX.out PY.out FA.out)).mono ?_⟩
      rintro e u1 ⟨ax, nx, kx, ay, ny, ky, mid, rfl, WX, WY, m1, m2, hb⟩
      refine hK _ _ (fun _ => (And.intro (hHeld.1.below hb) (hHeld.2.below hb))) ?_
      replace hHeld := (And.intro (hHeld.1.below hb) (hHeld.2.below hb))
      replace WX := hide WX
      replace WY := hide WY
      have MM := hide (And.intro m1 m2)
      have HB1 := hide hb
      have C1 := hide (CPd.out.below hb)
      clear hK K hb m1 m2
      try simp only [Act.put, List.setIfInBounds_toArray, List.set]
      refine PhaseIn.one (i := 4) (by kernel_rfl) rfl (by kernel_rfl) (fun K hK => ?_)
      unfold Oper.wpIn
      refine ⟨fun _ _ => trivial, ?_⟩
      go_simp
      have bo : Below u1.heap.size u1 (u1.alloc (.cells #[.int .i64 t.kd, .int .i64 t.k, .slice ax nx kx, .slice ay ny ky] 42)) := (Below.refl _ _).alloc (Nat.le_refl _) _
      refine hK _ _ (fun _ => (And.intro (hHeld.1.below bo) (hHeld.2.below bo))) ?_
      have N := hide (Rec.new u1 [.int .i64 t.kd, .int .i64 t.k, .slice ax nx kx, .slice ay ny ky] 42)
      have C2 := hide (C1.out.below bo)
      clear hK K bo hHeld
      try simp only [Act.put, List.setIfInBounds_toArray, List.set]
      obtain ⟨G', cap', u3, hrun, ho, hg, hgl, gr⟩ := run_pushT (ty := 32) (w := u1.alloc (.cells #[.int .i64 t.kd, .int .i64 t.k, .slice ax nx kx, .slice ay ny ky] 42)) (by have := C2.out.tab.own; rwa [take_len hk] at this) (by rw [C2.out.tab.len, take_len hk]) (by omega) (by have := C2.out.x.lt; omega) ⟨u1.heap.size, 0, none⟩ t.kd t.k ax nx kx ay ny ky (by rw [Addr.add_lit]; exact N.out.cell 0 _ rfl) (by rw [Addr.add_lit]; exact N.out.cell 1 _ rfl) (by rw [Addr.add_lit]; exact N.out.cell 2 _ rfl) (by rw [Addr.add_lit]; exact N.out.cell 3 _ rfl)
      have CN := hide (CopyT.next CPd.out ET.out HB1.out WX.out WY.out MM.out.1 MM.out.2 ho hg gr)
      have X3 : Hid (Rec (w.heap.size + 1 + 1) [.slice q k cap] u3) := by
        rcases C2.out.tab.q_form with ⟨e1, _, _⟩ | ⟨G, e1⟩
        · exact C2.out.x.turn (B := (u1.alloc (.cells #[.int .i64 t.kd, .int .i64 t.k, .slice ax nx kx, .slice ay ny ky] 42)).heap.size) ⟨gr.os, gr.tape, gr.output, gr.size, fun j hj _ => gr.block j hj (by rw [e1]; simp [Value.ownBlock])⟩ (by have := C2.out.x.lt; omega)
        · have := (C2.out.tab.q_lt e1).1
          subst e1
          exact C2.out.x.turn (B := G) (Turn.of_grown gr) (by omega)
      clear ho hg hgl gr CPd HB1 WX WY MM C1 C2 N
      refine PhaseIn.one (i := 5) (by kernel_rfl) rfl (by kernel_rfl) (fun K hK => ?_)
      refine push_in _ _ rfl rfl rfl hrun (hK _ _ (fun h => absurd h (by omega)) ?_)
      clear hK K hrun
      try simp only [Act.put, List.setIfInBounds_toArray, List.set]
      refine PhaseIn.late (i := 6) (v := ?_) (by kernel_rfl) rfl 19 (by rfl) (by omega) (Or.inl ⟨by kernel_rfl, ?_⟩) ?_
      rotate_left
      · intro w' hSw
        go_simp
        first | done | with_reducible rfl
      try simp only [Act.put, List.setIfInBounds_toArray, List.set]
      have x0 := X3.out.cell 0 _ rfl
      have s0 := X3.out.soft 0
      refine PhaseIn.one (i := 7) (by kernel_rfl) rfl (by kernel_rfl) (fun K hK => ?_)
      unfold Oper.wpIn
      refine ⟨fun _ _ => trivial, ?_⟩
      go_simp
      refine hK _ _ (fun h => absurd h (by omega)) ?_
      clear hK K x0 s0 X3
      try simp only [Act.put, List.setIfInBounds_toArray, List.set]
      generalize u3.setCell ⟨w.heap.size + 1 + 1, 0, none⟩ (.slice (some ⟨G', 0, none⟩) (k + 1) cap') = u4 at CN ⊢
      refine PhaseIn.done (by kernel_rfl) ?_ _
      go_wp2
      exact ⟨⟨k + 1, by omega, by go_num, ⟨_, _, _, _, _, _, CN.out⟩⟩, by simp [intOf]; omega⟩
end Go.Proofs.Ytagfgbkclopoeaa.Tab
namespace Go.Proofs.Ytagfgbkclopoeaa.PhaseIn
open Go
section
variable {P : Program} {ops : Array Oper} {Q : Exit → Act → World → Prop} {md : Region.Mode} {S : World → Prop} {n : Nat}
theorem two {i j : Nat} {oi oj : Oper} {fuel : Nat} {listed : Array Bool} {a : Act} {w : World} (hr : Region.ready md ops listed = [i, j]) (hi : ops[i]? = some oi) (hj : ops[j]? = some oj) (hwi : Region.wanted oi (yielded ops a.tmps) = true) (hwj : Region.wanted oj (yielded ops a.tmps) = true)
    (h1 : ∀ K : Act → World → Prop, (∀ a' w', (i < n → S w') → wpAnyW P md ops Q S n fuel (listed.setIfInBounds i true) a' w' → K a' w') → Oper.wpIn Fence.wide 0 P oi a w K Q)
    (h2 : ∀ K : Act → World → Prop, (∀ a' w', (j < n → S w') → wpAnyW P md ops Q S n fuel (listed.setIfInBounds j true) a' w' → K a' w') → Oper.wpIn Fence.wide 0 P oj a w K Q) : wpAnyW P md ops Q S n (fuel + 1) listed a w := by
  refine ⟨fun h0 => (by rw [hr] at h0; cases h0), fun k hk => ?_⟩
  rw [hr] at hk
  have hk2 : k = i ∨ k = j := by simpa using hk
  rcases hk2 with rfl | rfl
  · unfold wpOpIn
    simp only [hi]
    rw [if_pos hwi]
    exact h1 _ (fun a' w' h1 h2 => ⟨h1, h2⟩)
  · unfold wpOpIn
    simp only [hj]
    rw [if_pos hwj]
    exact h2 _ (fun a' w' h1 h2 => ⟨h1, h2⟩)
/-- Only what falls off its end, and then so. -/
def onlyN (R : Act → World → Prop) : Exit → Act → World → Prop
  | .normal, a, w => R a w
  | _, _, _ => False
theorem cut {c : Code} {a : Act} {w : World} (R : Act → World → Prop) (h : c.wpIn Fence.wide 0 P (onlyN R) a w) (hq : ∀ a' w', R a' w' → Q .normal a' w') : c.wp P Q a w := by
  refine (wpIn_wide (n := 0)).1 (wpIn_mono h fun e a' w' he => ?_)
  cases e <;> first | exact hq a' w' he | exact he.elim
end
end Go.Proofs.Ytagfgbkclopoeaa.PhaseIn
