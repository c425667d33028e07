/-
  The specification's l5Twin and l5Copy: an atom, and atoms, in new memory.
  The specification's l5Copy: atoms in new memory.
-/
import Derived.Test.YtagfgbkclopoeaaJ09
import Derived.Test.YtagfgbkclopoeaaJ13
import Derived.Test.YtagfgbkclopoeaaJ14
import Derived.Test.YtagfgbkclopoeaaJ12
namespace Go.Proofs.Ytagfgbkclopoeaa.Tab
set_option linter.unusedVariables false
set_option linter.unusedSimpArgs false
open Go.ChangeShapes Go.WideShapes Go.ChangeAt Go.RowKit IntS Pol Push
theorem fine_of {t : At} {n : Int} (h : atomB t n = true) : FineA t := by
  have k := atom_kok h
  have h1 := ok_len k.x
  have h2 := ok_len k.y
  exact ⟨by omega, by omega, fun m hm => by have := ok_atoms k.x hm; omega, fun m hm => by have := ok_atoms k.y hm; omega⟩
set_option maxRecDepth 8000 in
set_option maxHeartbeats 8000000 in
theorem l5Twin (t : At) (qx : Option Addr) (cx : Nat) (qy : Option Addr) (cy bx b : Nat) (w : World) (hx : PRow w bx (.slice qx t.x.length cx) t.x) (hy : PRow w b (.slice qy t.y.length cy) t.y) (hf : FineA t) :
    Calls Try.prog 51 #[.agg #[.int .i64 t.kd, .int .i64 t.k, .slice qx t.x.length cx, .slice qy t.y.length cy]] w fun e w' => ∃ ax nx kx ay ny ky mid, e = .returned (.agg #[.int .i64 t.kd, .int .i64 t.k, .slice ax nx kx, .slice ay ny ky]) ∧ WPoly w' w.heap.size mid (.slice ax nx kx) t.x ∧ WPoly w' mid w'.heap.size (.slice ay ny ky) t.y ∧ w.heap.size ≤ mid ∧ mid ≤ w'.heap.size ∧ Below w.heap.size w w' := by
  have bV : Below w.heap.size w ((w.alloc (.cells #[.int .i64 t.kd, .int .i64 t.k, .slice qx t.x.length cx, .slice qy t.y.length cy] 42)).alloc (.cells #[.int .i64 0, .int .i64 0, .slice none 0 0, .slice none 0 0] 42)).drew := (((Below.refl _ _).alloc (Nat.le_refl _) _).alloc (by simp) _).drew
  have AR := hide (((Rec.new w [.int .i64 t.kd, .int .i64 t.k, .slice qx t.x.length cx, .slice qy t.y.length cy] 42).alloc (.cells #[.int .i64 0, .int .i64 0, .slice none 0 0, .slice none 0 0] 42)).drew)
  have Z0 := (Rec.new (w.alloc (.cells #[.int .i64 t.kd, .int .i64 t.k, .slice qx t.x.length cx, .slice qy t.y.length cy] 42)) [.int .i64 0, .int .i64 0, .slice none 0 0, .slice none 0 0] 42).drew
  rw [show (w.alloc (.cells #[.int .i64 t.kd, .int .i64 t.k, .slice qx t.x.length cx, .slice qy t.y.length cy] 42)).heap.size = w.heap.size + 1 by simp] at Z0
  have ZR := hide Z0
  have HX := hide (hx.below bV)
  have HY := hide (hy.below bV)
  have BW := hide bV
  have HF := hide hf
  clear bV hx hy Z0 hf
  go_enter Try.func51, Try.ntmps51
  go_wp2_with fail
  refine (wpIn_wide (n := 0)).1 ?_
  refine PhaseIn.region (S := Rec w.heap.size [.int .i64 t.kd, .int .i64 t.k, .slice qx t.x.length cx, .slice qy t.y.length cy]) 12 (by kernel_rfl) ?_
  generalize ((w.alloc (.cells #[.int .i64 t.kd, .int .i64 t.k, .slice qx t.x.length cx, .slice qy t.y.length cy] 42)).alloc (.cells #[.int .i64 0, .int .i64 0, .slice none 0 0, .slice none 0 0] 42)).drew = d0 at AR ZR HX HY BW ⊢
  have hHeld := AR.out
  refine PhaseIn.takeD (i := 0) (v := ?_) [0, 1, 12, 13] 3 rfl (by rfl) (by kernel_rfl) (by kernel_rfl) (by kernel_rfl) (by kernel_rfl) (by kernel_rfl) (fun _ _ _ h => h) (Or.inl ⟨by kernel_rfl, ?_⟩) hHeld ?_
  rotate_left
  · intro w' hSw
    (try dsimp only at hSw)
    go_simp
    first | done | with_reducible rfl
  try simp only [Act.put, List.setIfInBounds_toArray, List.set]
  refine PhaseIn.takeD (i := 1) (v := ?_) [1, 12, 13] 4 rfl (by rfl) (by kernel_rfl) (by kernel_rfl) (by kernel_rfl) (by kernel_rfl) (by kernel_rfl) (fun _ _ _ h => h) (Or.inl ⟨by kernel_rfl, ?_⟩) hHeld ?_
  rotate_left
  · intro w' hSw
    (try dsimp only at hSw)
    have z0 := hSw.cell 0 _ rfl; have z1 := hSw.cell 1 _ rfl; have z2 := hSw.cell 2 _ rfl; have z3 := hSw.cell 3 _ rfl
    go_simp
    first | done | with_reducible rfl
  try simp only [Act.put, List.setIfInBounds_toArray, List.set]
  refine PhaseIn.takeD (i := 2) (v := ?_) [2, 3, 12, 13] 5 rfl (by rfl) (by kernel_rfl) (by kernel_rfl) (by kernel_rfl) (by kernel_rfl) (by kernel_rfl) (fun _ _ _ h => h) (Or.inl ⟨by kernel_rfl, ?_⟩) hHeld ?_
  rotate_left
  · intro w' hSw
    (try dsimp only at hSw)
    go_simp
    first | done | with_reducible rfl
  try simp only [Act.put, List.setIfInBounds_toArray, List.set]
  refine PhaseIn.takeD (i := 3) (v := ?_) [3, 12, 13] 6 rfl (by rfl) (by kernel_rfl) (by kernel_rfl) (by kernel_rfl) (by kernel_rfl) (by kernel_rfl) (fun _ _ _ h => h) (Or.inl ⟨by kernel_rfl, ?_⟩) hHeld ?_
  rotate_left
  · intro w' hSw
    (try dsimp only at hSw)
    have z0 := hSw.cell 0 _ rfl; have z1 := hSw.cell 1 _ rfl; have z2 := hSw.cell 2 _ rfl; have z3 := hSw.cell 3 _ rfl
    go_simp
    first | done | with_reducible rfl
  try simp only [Act.put, List.setIfInBounds_toArray, List.set]
  refine PhaseIn.takeD (i := 4) (v := ?_) [4, 5, 6, 7, 11, 12, 13] 7 rfl (by rfl) (by kernel_rfl) (by kernel_rfl) (by kernel_rfl) (by kernel_rfl) (by kernel_rfl) (fun _ _ _ h => h) (Or.inl ⟨by kernel_rfl, ?_⟩) hHeld ?_
  rotate_left
  · intro w' hSw
    (try dsimp only at hSw)
    go_simp
    first | done | with_reducible rfl
  try simp only [Act.put, List.setIfInBounds_toArray, List.set]
  refine PhaseIn.takeD (i := 5) (v := ?_) [5, 6, 7, 11, 12, 13] 8 rfl (by rfl) (by kernel_rfl) (by kernel_rfl) (by kernel_rfl) (by kernel_rfl) (by kernel_rfl) (fun _ _ _ h => h) (Or.inl ⟨by kernel_rfl, ?_⟩) hHeld ?_
  rotate_left
  · intro w' hSw
    (try dsimp only at hSw)
    go_simp
    first | done | with_reducible rfl
  try simp only [Act.put, List.setIfInBounds_toArray, List.set]
  refine PhaseIn.takeD (i := 6) (v := ?_) [6, 7, 11, 12, 13] 9 rfl (by rfl) (by kernel_rfl) (by kernel_rfl) (by kernel_rfl) (by kernel_rfl) (by kernel_rfl) (fun _ _ _ h => h) (Or.inl ⟨by kernel_rfl, ?_⟩) hHeld ?_
  rotate_left
  · intro w' hSw
    (try dsimp only at hSw)
    have z0 := hSw.cell 0 _ rfl; have z1 := hSw.cell 1 _ rfl; have z2 := hSw.cell 2 _ rfl; have z3 := hSw.cell 3 _ rfl
    go_simp
    first | done | with_reducible rfl
  try simp only [Act.put, List.setIfInBounds_toArray, List.set]
  refine PhaseIn.takeD (i := 8) (v := ?_) [8, 9, 10, 11, 12, 13] 11 rfl (by rfl) (by kernel_rfl) (by kernel_rfl) (by kernel_rfl) (by kernel_rfl) (by kernel_rfl) (fun _ _ _ h => h) (Or.inl ⟨by kernel_rfl, ?_⟩) hHeld ?_
  rotate_left
  · intro w' hSw
    (try dsimp only at hSw)
    go_simp
    first | done | with_reducible rfl
  try simp only [Act.put, List.setIfInBounds_toArray, List.set]
  refine PhaseIn.takeD (i := 9) (v := ?_) [9, 10, 11, 12, 13] 12 rfl (by rfl) (by kernel_rfl) (by kernel_rfl) (by kernel_rfl) (by kernel_rfl) (by kernel_rfl) (fun _ _ _ h => h) (Or.inl ⟨by kernel_rfl, ?_⟩) hHeld ?_
  rotate_left
  · intro w' hSw
    (try dsimp only at hSw)
    go_simp
    first | done | with_reducible rfl
  try simp only [Act.put, List.setIfInBounds_toArray, List.set]
  refine PhaseIn.takeD (i := 10) (v := ?_) [10, 11, 12, 13] 13 rfl (by rfl) (by kernel_rfl) (by kernel_rfl) (by kernel_rfl) (by kernel_rfl) (by kernel_rfl) (fun _ _ _ h => h) (Or.inl ⟨by kernel_rfl, ?_⟩) hHeld ?_
  rotate_left
  · intro w' hSw
    (try dsimp only at hSw)
    have z0 := hSw.cell 0 _ rfl; have z1 := hSw.cell 1 _ rfl; have z2 := hSw.cell 2 _ rfl; have z3 := hSw.cell 3 _ rfl
    go_simp
    first | done | with_reducible rfl
  try simp only [Act.put, List.setIfInBounds_toArray, List.set]
  refine PhaseIn.one (i := 7) (by kernel_rfl) rfl (by kernel_rfl) (fun K hK => ?_)
  unfold Oper.wpIn
  refine ⟨fun _ _ => trivial, ?_⟩
  go_simp
  refine ⟨rfl, (callsIn_wide.2 (l4Copy t.x bx _ _ HX.out HF.out.x (fun m hm => by have := HF.out.ax m hm; omega))).mono ?_⟩
  rintro e u1 ⟨ax, nx, kx, rfl, WX, hb⟩
  refine hK _ _ (fun _ => hHeld.below hb) ?_
  have DL : Hid (w.heap.size + 1 < d0.heap.size) := ZR.out.lt
  replace WX := hide WX
  have SZ1 : Hid (w.heap.size + 1 < u1.heap.size) := Nat.lt_of_lt_of_le ZR.out.lt hb.size
  have SZ0 : Hid (d0.heap.size ≤ u1.heap.size) := hb.size
  replace hHeld := hHeld.below hb
  replace AR := hide (AR.out.below hb)
  replace ZR := hide (ZR.out.below hb)
  replace HY := hide (HY.out.below hb)
  replace BW := hide (BW.out.trans (hb.mono BW.out.size))
  clear hb hK K HX
  try simp only [Act.put, List.setIfInBounds_toArray, List.set]
  refine PhaseIn.one (i := 11) (by kernel_rfl) rfl (by kernel_rfl) (fun K hK => ?_)
  unfold Oper.wpIn
  refine ⟨fun _ _ => trivial, ?_⟩
  go_simp
  refine ⟨rfl, (callsIn_wide.2 (l4Copy t.y b _ _ HY.out HF.out.y (fun m hm => by have := HF.out.ay m hm; omega))).mono ?_⟩
  rintro e u2 ⟨ay, ny, ky, rfl, WY, hb⟩
  refine hK _ _ (fun _ => hHeld.below hb) ?_
  replace WY := hide WY
  have SZ2 : Hid (u1.heap.size ≤ u2.heap.size) := hb.size
  replace AR := hide (AR.out.below hb)
  replace ZR := hide (ZR.out.below hb)
  replace WX := hide (WX.out.below hb)
  replace BW := hide (BW.out.trans (hb.mono BW.out.size))
  clear hb hK K HY hHeld
  try simp only [Act.put, List.setIfInBounds_toArray, List.set]
  refine PhaseIn.late (i := 12) (v := ?_) (by kernel_rfl) rfl 15 (by rfl) (by omega) (Or.inl ⟨by kernel_rfl, ?_⟩) ?_
  rotate_left
  · intro w' hSw
    go_simp
    first | done | with_reducible rfl
  try simp only [Act.put, List.setIfInBounds_toArray, List.set]
  have z0 := ZR.out.cell 0 _ rfl
  have y0 := ZR.out.soft 0
  have z1 := ZR.out.cell 1 _ rfl
  have y1 := ZR.out.soft 1
  have z2 := ZR.out.cell 2 _ rfl
  have y2 := ZR.out.soft 2
  have z3 := ZR.out.cell 3 _ rfl
  have y3 := ZR.out.soft 3
  refine PhaseIn.one (i := 13) (by kernel_rfl) rfl (by kernel_rfl) (fun K hK => ?_)
  unfold Oper.wpIn
  refine ⟨fun _ _ => trivial, ?_⟩
  go_simp
  have RF := hide ((((ZR.out.set 0 (.int .i64 t.kd) (by simp) (show _ = ([.int .i64 t.kd, .int .i64 0, .slice none 0 0, .slice none 0 0] : List Value) from rfl)).set 1 (.int .i64 t.k) (by simp) (show _ = ([.int .i64 t.kd, .int .i64 t.k, .slice none 0 0, .slice none 0 0] : List Value) from rfl)).set 2 (.slice ax nx kx) (by simp) (show _ = ([.int .i64 t.kd, .int .i64 t.k, .slice ax nx kx, .slice none 0 0] : List Value) from rfl)).set 3 (.slice ay ny ky) (by simp) (show _ = ([.int .i64 t.kd, .int .i64 t.k, .slice ax nx kx, .slice ay ny ky] : List Value) from rfl))
  have TN := hide (((((Turn.refl (w.heap.size + 1) u2).setCell (p := ⟨w.heap.size + 1, 0, none⟩) rfl (.int .i64 t.kd)).setCell (p := ⟨w.heap.size + 1, 1, none⟩) rfl (.int .i64 t.k)).setCell (p := ⟨w.heap.size + 1, 2, none⟩) rfl (.slice ax nx kx)).setCell (p := ⟨w.heap.size + 1, 3, none⟩) rfl (.slice ay ny ky))
  refine hK _ _ (fun h => absurd h (by omega)) ?_
  clear hK K z0 z1 z2 z3 y0 y1 y2 y3 ZR AR
  try simp only [Act.put, List.setIfInBounds_toArray, List.set]
  generalize ((((u2.setCell ⟨w.heap.size + 1, 0, none⟩ (.int .i64 t.kd)).setCell ⟨w.heap.size + 1, 1, none⟩ (.int .i64 t.k)).setCell ⟨w.heap.size + 1, 2, none⟩ (.slice ax nx kx)).setCell ⟨w.heap.size + 1, 3, none⟩ (.slice ay ny ky)) = y4 at RF TN ⊢
  have FX := hide ((WX.out.keep (Keep.of_turn TN.out) (fun b' h1 h2 (h3 : b' = _) => by have := DL.out; omega)).wide (lo' := w.heap.size) (hi' := u1.heap.size) (by have := DL.out; omega) (Nat.le_refl _))
  have FY := hide ((WY.out.keep (Keep.of_turn TN.out) (fun b' h1 h2 (h3 : b' = _) => by have := DL.out; have := SZ0.out; omega)).wide (lo' := u1.heap.size) (hi' := y4.heap.size) (Nat.le_refl _) TN.out.size)
  have M1 : Hid (w.heap.size ≤ u1.heap.size ∧ u1.heap.size ≤ y4.heap.size) := ⟨by have := DL.out; have := SZ0.out; omega, Nat.le_trans SZ2.out TN.out.size⟩
  replace BW := hide (BW.out.trans (TN.out.below (by omega) BW.out.size))
  refine PhaseIn.done (by kernel_rfl) ?_ _
  have z0 := RF.out.cell 0 _ rfl
  have z1 := RF.out.cell 1 _ rfl
  have z2 := RF.out.cell 2 _ rfl
  have z3 := RF.out.cell 3 _ rfl
  clear WX WY TN RF DL SZ0 SZ1 SZ2
  go_wp2
  exact bodyPost_ret (v := .agg #[.int .i64 t.kd, .int .i64 t.k, .slice ax nx kx, .slice ay ny ky]) (by simp [results, Try.results51, go_sem, z0, z1, z2, z3]) rfl ⟨ax, nx, kx, ay, ny, ky, u1.heap.size, rfl, FX.out, FY.out, M1.out.1, M1.out.2, BW.out⟩
/-- Where a copy of atoms is. -/
structure CopyT (w : World) (v : Value) (ts : List At) (k : Nat) (q : Option Addr) (cap : Nat) (cs : List C4) (l m h : Nat → Nat) (u : World) : Prop where
  a : Rec w.heap.size [v] u
  z : Rec (w.heap.size + 1) [.slice none 0 0] u
  x : Rec (w.heap.size + 1 + 1) [.slice q k cap] u
  tab : OTab u (w.heap.size + 3) q cap cs l m h (ts.take k)
  bw : Below w.heap.size w u
theorem CopyT.below {w u u' : World} {v : Value} {ts : List At} {k cap : Nat} {q : Option Addr} {cs : List C4} {l m h : Nat → Nat} (H : CopyT w v ts k q cap cs l m h u) (hb : Below u.heap.size u u') : CopyT w v ts k q cap cs l m h u' :=
  ⟨H.a.below hb, H.z.below hb, H.x.below hb, H.tab.below hb, H.bw.trans (hb.mono H.bw.size)⟩
theorem take_len {ts : List At} {k : Nat} (h : k ≤ ts.length) : (ts.take k).length = k := by rw [List.length_take]; omega
theorem take_next {ts : List At} {k : Nat} {t : At} (h : ts[k]? = some t) : ts.take k ++ [t] = ts.take (k + 1) := by rw [List.take_add_one, h]; rfl
/-- One more atom is copied: u ahead of its copy, u1 behind it, u2 with the row of one, u3 with all. -/
theorem CopyT.next {w u u1 u3 : World} {v : Value} {ts : List At} {k cap : Nat} {q : Option Addr} {cs : List C4} {l m h : Nat → Nat} (H : CopyT w v ts k q cap cs l m h u) {t : At} (ht : ts[k]? = some t) (hb : Below u.heap.size u u1) {ax : Option Addr} {nx kx : Nat} {ay : Option Addr} {ny ky mid : Nat}
    (wx : WPoly u1 u.heap.size mid (.slice ax nx kx) t.x) (wy : WPoly u1 mid u1.heap.size (.slice ay ny ky) t.y) (m1 : u.heap.size ≤ mid) (m2 : mid ≤ u1.heap.size) {o : Obj} {G' cap' : Nat} (ho : OwnT u3 (w.heap.size + 3) (.slice (some ⟨G', 0, none⟩) (k + 1) cap') (cs ++ [⟨t.kd, t.k, .slice ax nx kx, .slice ay ny ky⟩]))
    (hg : (Value.slice q k cap).ownBlock = some G' ∨ (u1.alloc o).heap.size ≤ G') (gr : (u1.alloc o).grownBy u3 (Value.slice q k cap).ownBlock) :
    CopyT w v ts (k + 1) (some ⟨G', 0, none⟩) cap' (cs ++ [⟨t.kd, t.k, .slice ax nx kx, .slice ay ny ky⟩]) (fun i => if i < (ts.take k).length then l i else u.heap.size) (fun i => if i < (ts.take k).length then m i else mid) (fun i => if i < (ts.take k).length then h i else u1.heap.size) (u3.setCell ⟨w.heap.size + 1 + 1, 0, none⟩ (.slice (some ⟨G', 0, none⟩) (k + 1) cap')) := by
  have hk : k ≤ ts.length := Nat.le_of_lt (List.getElem?_eq_some_iff.1 ht).1
  have el := take_len hk
  have hx := H.x.lt
  have bA : Below u1.heap.size u1 (u1.alloc o) := (Below.refl _ _).alloc (Nat.le_refl _) o
  have H1 := (H.below hb).below bA
  have sz : (u1.alloc o).heap.size = u1.heap.size + 1 := by simp
  have T2 : OTab u3 (w.heap.size + 3) (some ⟨G', 0, none⟩) cap' (cs ++ [⟨t.kd, t.k, .slice ax nx kx, .slice ay ny ky⟩]) (fun i => if i < (ts.take k).length then l i else u.heap.size) (fun i => if i < (ts.take k).length then m i else mid) (fun i => if i < (ts.take k).length then h i else u1.heap.size) (ts.take k ++ [t]) :=
    OTab.next H1.tab (wx.below bA) (wy.below bA) (by omega) m1 m2 (by omega) (fun i hi => by
      obtain ⟨z, hz⟩ : ∃ z, (ts.take k)[i]? = some z := ⟨_, List.getElem?_eq_getElem hi⟩
      obtain ⟨_, _, _, _, _, _, _, _, k7, _⟩ := H.tab.rows i z hz
      exact k7) (fun G e => (H.tab.q_lt e).2) (by rw [el]; exact ho) (by rw [el]; exact hg) (by rw [el]; exact gr)
  have gl : ∀ G, q = some ⟨G, 0, none⟩ → w.heap.size + 3 ≤ G := fun G e => (H.tab.q_lt e).1
  have kp : ∃ T, Turn T (u1.alloc o) u3 ∧ w.heap.size + 3 ≤ T := by
    rcases H.tab.q_form with ⟨rfl, rfl, _⟩ | ⟨G, rfl⟩
    · exact ⟨(u1.alloc o).heap.size, ⟨gr.os, gr.tape, gr.output, gr.size, fun k hk _ => gr.block k hk (by simp [Value.ownBlock])⟩, by have := H1.x.lt; omega⟩
    · exact ⟨G, Turn.of_grown gr, gl G rfl⟩
  obtain ⟨T, tn, tl⟩ := kp
  have t2 : Turn (w.heap.size + 1 + 1) u3 (u3.setCell ⟨w.heap.size + 1 + 1, 0, none⟩ (.slice (some ⟨G', 0, none⟩) (k + 1) cap')) := (Turn.refl _ _).setCell (p := ⟨w.heap.size + 1 + 1, 0, none⟩) rfl _
  refine ⟨(H1.a.turn tn (by omega)).turn t2 (by omega), (H1.z.turn tn (by omega)).turn t2 (by omega), (H1.x.turn tn (by omega)).set 0 _ (by simp) rfl, ?_, (H1.bw.trans (tn.below (by omega) H1.bw.size)).trans (t2.below (by omega) ?_)⟩
  · rw [← take_next ht]
    exact T2.turn t2 (Or.inl (by omega))
  · exact (H1.bw.trans (tn.below (by omega) H1.bw.size)).size
end Go.Proofs.Ytagfgbkclopoeaa.Tab
namespace Go.Proofs.Ytagfgbkclopoeaa.Tab
set_option linter.unusedVariables false
set_option linter.unusedSimpArgs false
open Go.ChangeShapes Go.WideShapes Go.ChangeAt Go.RowKit IntS Pol Push
theorem OTab.mono {w : World} {lo lo' cap : Nat} {q : Option Addr} {cs : List C4} {l m h : Nat → Nat} {ts : List At} (H : OTab w lo q cap cs l m h ts) (hl : lo' ≤ lo) : OTab w lo' q cap cs l m h ts := by
  refine ⟨owns_mono H.own hl, H.len, fun i t hi => ?_, H.inc⟩
  obtain ⟨sx, sy, k1, k2, k3, k4, r⟩ := H.rows i t hi
  exact ⟨sx, sy, k1, k2, k3, Nat.le_trans hl k4, r⟩
set_option maxRecDepth 8000 in
set_option maxHeartbeats 8000000 in
theorem l5Copy (ts : List At) (B : Nat) (v : Value) (w : World) (h : TRow w B v ts) (hf : ∀ t ∈ ts, FineA t) (hl : ts.length ≤ 1000) :
    Calls Try.prog 26 #[.agg #[v]] w fun e w' => ∃ q cap cs l m h, e = .returned (.agg #[.slice q ts.length cap]) ∧ OTab w' w.heap.size q cap cs l m h ts ∧ Below w.heap.size w w' := by
  have T := Three.new w [v] [.slice none 0 0] [.slice none 0 0] 34 34 34
  have C0 : Hid (CopyT w v ts 0 none 0 [] (fun _ => 0) (fun _ => 0) (fun _ => 0) (((w.alloc (.cells #[v] 34)).alloc (.cells #[.slice none 0 0] 34)).alloc (.cells #[.slice none 0 0] 34))) := ⟨T.a, T.z, T.o, OTab.nil _ _, T.bw⟩
  have HF := hide hf
  obtain ⟨a, cap0, off, rfl, h2, h3, _, h4⟩ := h
  have H4 := hide h4
  unfold maxLen at h3
  clear T hf h4
  go_enter Try.func26, Try.ntmps26
  go_wp2
  generalize (((w.alloc (.cells #[.slice a ts.length cap0] 34)).alloc (.cells #[.slice none 0 0] 34)).alloc (.cells #[.slice none 0 0] 34)) = V at C0 ⊢
  go_loopw [4] (fun i wr => ∃ k : Nat, k ≤ ts.length ∧ i = .int .i64 k ∧ Hid (∃ q cap cs l m h, CopyT w (.slice a ts.length cap0) ts k q cap cs l m h wr)) (fun i _ => ts.length - (intOf i).toNat)
  case atStart => exact ⟨0, by omega, rfl, ⟨_, _, _, _, _, _, C0.out⟩⟩
  case round =>
    obtain ⟨k, hk, rfl, HC⟩ := hrel
    obtain ⟨q, cap, cs, l, m, hh, CP0⟩ := HC.out
    have CP := hide CP0
    clear CP0 HC C0
    by_cases hlt : k < ts.length
    case neg =>
      obtain rfl : k = ts.length := by omega
      have x0 := CP.out.x.cell 0 _ rfl
      have a0 := CP.out.a.cell 0 _ rfl
      have z0 := CP.out.z.cell 0 _ rfl
      have s0 := CP.out.z.soft 0
      have T1 : Turn (w.heap.size + 1) wr (wr.setCell ⟨w.heap.size + 1, 0, none⟩ (.slice q ts.length cap)) := (Turn.refl _ wr).setCell (p := ⟨w.heap.size + 1, 0, none⟩) rfl _
      have B0 := hide (CP.out.bw.trans (T1.below (by omega) CP.out.bw.size))
      have Z0 := hide (CP.out.z.set 0 (.slice q ts.length cap) (by simp) rfl)
      have W0 := CP.out.tab.turn T1 (Or.inl (by omega))
      rw [List.take_length] at W0
      have W1 := hide (W0.mono (lo' := w.heap.size) (by omega))
      clear W0 T1
      go_wp2
      generalize wr.setCell ⟨w.heap.size + 1, 0, none⟩ (.slice q ts.length cap) = U at B0 Z0 W1 ⊢
      have z1 := Z0.out.cell 0 _ rfl
      exact bodyPost_ret (v := .agg #[.slice q ts.length cap]) (by simp [results, Try.results26, go_sem, z1]) rfl ⟨q, cap, cs, l, m, hh, rfl, W1.out, B0.out⟩
    · obtain ⟨t, et⟩ : ∃ t, ts[k]? = some t := ⟨_, List.getElem?_eq_getElem hlt⟩
      obtain ⟨rfl, hc⟩ := H4.out.resolve_left (fun e => by rw [e] at et; simp at et)
      obtain ⟨c0, c1, qx, cx, bx, qy, cy, b, c2, px, c3, py⟩ := (hc k t et).below CP.out.bw
      have FA := hide (HF.out t (List.mem_of_getElem? et))
      have ET := hide et
      have lk : ((k : Nat) : Int) < (ts.length : Nat) := by omega
      clear et hc
      have a0 := CP.out.a.cell 0 _ rfl
      have bA : Below wr.heap.size wr wr.drew := (Below.refl _ _).drew
      go_wp2_with fail
      have CPd := hide (CP.out.below bA)
      have PX := hide (px.below bA)
      have PY := hide (py.below bA)
      have C4 : Hid (wr.drew.cell? ⟨B, off + k * 4, none⟩ = some (.int .i64 t.kd) ∧ wr.drew.cell? ⟨B, off + k * 4 + 1, none⟩ = some (.int .i64 t.k) ∧ wr.drew.cell? ⟨B, off + k * 4 + 2, none⟩ = some (.slice qx t.x.length cx) ∧ wr.drew.cell? ⟨B, off + k * 4 + 3, none⟩ = some (.slice qy t.y.length cy)) := ⟨c0, c1, c2, c3⟩
      refine (wpIn_wide (n := 0)).1 ?_
      refine PhaseIn.region (S := fun w' => Rec (w.heap.size + 1 + 1) [.slice q k cap] w' ∧ Rec w.heap.size [.slice (some ⟨B, off, none⟩) ts.length cap0] w' ∧ w'.cell? ⟨B, off + k * 4, none⟩ = some (.int .i64 t.kd) ∧ w'.cell? ⟨B, off + k * 4 + 1, none⟩ = some (.int .i64 t.k) ∧ w'.cell? ⟨B, off + k * 4 + 2, none⟩ = some (.slice qx t.x.length cx) ∧ w'.cell? ⟨B, off + k * 4 + 3, none⟩ = some (.slice qy t.y.length cy)) 9 (by kernel_rfl) ?_
      generalize wr.drew = d1 at CPd PX PY C4 ⊢
      have hHeld := And.intro CPd.out.x (And.intro CPd.out.a C4.out)
      clear bA a0 c0 c1 c2 c3 px py CP C4
      refine PhaseIn.takeD (i := 0) (v := ?_) [0, 1, 9, 10, 11] 13 rfl (by rfl) (by kernel_rfl) (by kernel_rfl) (by kernel_rfl) (by kernel_rfl) (by kernel_rfl) (fun _ _ _ h => h) (Or.inl ⟨by kernel_rfl, ?_⟩) hHeld ?_
      rotate_left
      · intro w' hSw
        (try dsimp only at hSw)
        go_simp
        first | done | with_reducible rfl
      try simp only [Act.put, List.setIfInBounds_toArray, List.set]
      refine PhaseIn.takeD (i := 1) (v := ?_) [1, 9, 10, 11] 14 rfl (by rfl) (by kernel_rfl) (by kernel_rfl) (by kernel_rfl) (by kernel_rfl) (by kernel_rfl) (fun _ _ _ h => h) (Or.inl ⟨by kernel_rfl, ?_⟩) hHeld ?_
      rotate_left
      · intro w' hSw
        (try dsimp only at hSw)
        have z0 := hSw.1.cell 0 _ rfl
        go_simp
        first | done | with_reducible rfl
      try simp only [Act.put, List.setIfInBounds_toArray, List.set]
      refine PhaseIn.takeD (i := 2) (v := ?_) [2, 3, 5, 6, 7, 8, 9, 10, 11] 15 rfl (by rfl) (by kernel_rfl) (by kernel_rfl) (by kernel_rfl) (by kernel_rfl) (by kernel_rfl) (fun _ _ _ h => h) (Or.inl ⟨by kernel_rfl, ?_⟩) hHeld ?_
      rotate_left
      · intro w' hSw
        (try dsimp only at hSw)
        go_simp
        first | done | with_reducible rfl
      try simp only [Act.put, List.setIfInBounds_toArray, List.set]
      refine PhaseIn.takeD (i := 3) (v := ?_) [3, 5, 6, 7, 8, 9, 10, 11] 16 rfl (by rfl) (by kernel_rfl) (by kernel_rfl) (by kernel_rfl) (by kernel_rfl) (by kernel_rfl) (fun _ _ _ h => h) (Or.inl ⟨by kernel_rfl, ?_⟩) hHeld ?_
      rotate_left
      · intro w' hSw
        (try dsimp only at hSw)
        have z0 := hSw.2.1.cell 0 _ rfl
        go_simp
        first | done | with_reducible rfl
      try simp only [Act.put, List.setIfInBounds_toArray, List.set]
      refine PhaseIn.takeD (i := 4) (v := ?_) [4, 5, 6, 7, 8, 9, 10, 11] 17 rfl (by rfl) (by kernel_rfl) (by kernel_rfl) (by kernel_rfl) (by kernel_rfl) (by kernel_rfl) (fun _ _ _ h => h) (Or.inl ⟨by kernel_rfl, ?_⟩) hHeld ?_
      rotate_left
      · intro w' hSw
        (try dsimp only at hSw)
        go_simp
        first | done | with_reducible rfl
      try simp only [Act.put, List.setIfInBounds_toArray, List.set]
      refine PhaseIn.takeD (i := 5) (v := ?_) [5, 6, 7, 8, 9, 10, 11] 18 rfl (by rfl) (by kernel_rfl) (by kernel_rfl) (by kernel_rfl) (by kernel_rfl) (by kernel_rfl) (fun _ _ _ h => h) (Or.inl ⟨by kernel_rfl, ?_⟩) hHeld ?_
      rotate_left
      · intro w' hSw
        (try dsimp only at hSw)
        go_simp
        first | done | with_reducible rfl
      try simp only [Act.put, List.setIfInBounds_toArray, List.set]
      refine PhaseIn.takeD (i := 6) (v := ?_) [6, 7, 8, 9, 10, 11] 19 rfl (by rfl) (by kernel_rfl) (by kernel_rfl) (by kernel_rfl) (by kernel_rfl) (by kernel_rfl) (fun _ _ _ h => h) (Or.inl ⟨by kernel_rfl, ?_⟩) hHeld ?_
      rotate_left
      · intro w' hSw
        (try dsimp only at hSw)
        obtain ⟨_, _, z0, z1, z2, z3⟩ := hSw
        go_simp
        first | done | with_reducible rfl
      try simp only [Act.put, List.setIfInBounds_toArray, List.set]
      refine PhaseIn.one (i := 7) (by kernel_rfl) rfl (by kernel_rfl) (fun K hK => ?_)
      unfold Oper.wpIn
      refine ⟨fun _ _ => trivial, ?_⟩
      go_simp
      refine ⟨rfl, (callsIn_wide.2 (l5Twin t qx cx qy cy bx b _ PX.out PY.out FA.out)).mono ?_⟩
      rintro e u1 ⟨ax, nx, kx, ay, ny, ky, mid, rfl, WX, WY, m1, m2, hb⟩
      refine hK _ _ (fun _ => (And.intro (hHeld.1.below hb) (And.intro (hHeld.2.1.below hb) (And.intro (cell_below hb hHeld.2.2.1) (And.intro (cell_below hb hHeld.2.2.2.1) (And.intro (cell_below hb hHeld.2.2.2.2.1) (cell_below hb hHeld.2.2.2.2.2))))))) ?_
      replace hHeld := (And.intro (hHeld.1.below hb) (And.intro (hHeld.2.1.below hb) (And.intro (cell_below hb hHeld.2.2.1) (And.intro (cell_below hb hHeld.2.2.2.1) (And.intro (cell_below hb hHeld.2.2.2.2.1) (cell_below hb hHeld.2.2.2.2.2))))))
      replace WX := hide WX
      replace WY := hide WY
      have MM := hide (And.intro m1 m2)
      have HB1 := hide hb
      have C1 := hide (CPd.out.below hb)
      clear hK K hb m1 m2
      try simp only [Act.put, List.setIfInBounds_toArray, List.set]
      refine PhaseIn.one (i := 8) (by kernel_rfl) rfl (by kernel_rfl) (fun K hK => ?_)
      unfold Oper.wpIn
      refine ⟨fun _ _ => trivial, ?_⟩
      go_simp
      have bo : Below u1.heap.size u1 (u1.alloc (.cells #[.int .i64 t.kd, .int .i64 t.k, .slice ax nx kx, .slice ay ny ky] 42)) := (Below.refl _ _).alloc (Nat.le_refl _) _
      refine hK _ _ (fun _ => (And.intro (hHeld.1.below bo) (And.intro (hHeld.2.1.below bo) (And.intro (cell_below bo hHeld.2.2.1) (And.intro (cell_below bo hHeld.2.2.2.1) (And.intro (cell_below bo hHeld.2.2.2.2.1) (cell_below bo hHeld.2.2.2.2.2))))))) ?_
      have N := hide (Rec.new u1 [.int .i64 t.kd, .int .i64 t.k, .slice ax nx kx, .slice ay ny ky] 42)
      have C2 := hide (C1.out.below bo)
      clear hK K bo hHeld
      try simp only [Act.put, List.setIfInBounds_toArray, List.set]
      obtain ⟨G', cap', u3, hrun, ho, hg, hgl, gr⟩ := run_pushT (ty := 32) (w := u1.alloc (.cells #[.int .i64 t.kd, .int .i64 t.k, .slice ax nx kx, .slice ay ny ky] 42)) (by have := C2.out.tab.own; rwa [take_len hk] at this) (by rw [C2.out.tab.len, take_len hk]) (by omega) (by have := C2.out.x.lt; omega) ⟨u1.heap.size, 0, none⟩ t.kd t.k ax nx kx ay ny ky (by rw [Addr.add_lit]; exact N.out.cell 0 _ rfl) (by rw [Addr.add_lit]; exact N.out.cell 1 _ rfl) (by rw [Addr.add_lit]; exact N.out.cell 2 _ rfl) (by rw [Addr.add_lit]; exact N.out.cell 3 _ rfl)
      have CN := hide (CopyT.next CPd.out ET.out HB1.out WX.out WY.out MM.out.1 MM.out.2 ho hg gr)
      have X3 : Hid (Rec (w.heap.size + 1 + 1) [.slice q k cap] u3) := by
        rcases C2.out.tab.q_form with ⟨e1, _, _⟩ | ⟨G, e1⟩
        · exact C2.out.x.turn (B := (u1.alloc (.cells #[.int .i64 t.kd, .int .i64 t.k, .slice ax nx kx, .slice ay ny ky] 42)).heap.size) ⟨gr.os, gr.tape, gr.output, gr.size, fun j hj _ => gr.block j hj (by rw [e1]; simp [Value.ownBlock])⟩ (by have := C2.out.x.lt; omega)
        · have := (C2.out.tab.q_lt e1).1
          subst e1
          exact C2.out.x.turn (B := G) (Turn.of_grown gr) (by omega)
      clear ho hg hgl gr CPd HB1 WX WY MM C1 C2 N
      refine PhaseIn.one (i := 9) (by kernel_rfl) rfl (by kernel_rfl) (fun K hK => ?_)
      refine push_in _ _ rfl rfl rfl hrun (hK _ _ (fun h => absurd h (by omega)) ?_)
      clear hK K hrun
      try simp only [Act.put, List.setIfInBounds_toArray, List.set]
      refine PhaseIn.late (i := 10) (v := ?_) (by kernel_rfl) rfl 23 (by rfl) (by omega) (Or.inl ⟨by kernel_rfl, ?_⟩) ?_
      rotate_left
      · intro w' hSw
        go_simp
        first | done | with_reducible rfl
      try simp only [Act.put, List.setIfInBounds_toArray, List.set]
      have x0 := X3.out.cell 0 _ rfl
      have s0 := X3.out.soft 0
      refine PhaseIn.one (i := 11) (by kernel_rfl) rfl (by kernel_rfl) (fun K hK => ?_)
      unfold Oper.wpIn
      refine ⟨fun _ _ => trivial, ?_⟩
      go_simp
      refine hK _ _ (fun h => absurd h (by omega)) ?_
      clear hK K x0 s0 X3
      try simp only [Act.put, List.setIfInBounds_toArray, List.set]
      generalize u3.setCell ⟨w.heap.size + 1 + 1, 0, none⟩ (.slice (some ⟨G', 0, none⟩) (k + 1) cap') = u4 at CN ⊢
      refine PhaseIn.done (by kernel_rfl) ?_ _
      go_wp2
      exact ⟨⟨k + 1, by omega, by go_num, ⟨_, _, _, _, _, _, CN.out⟩⟩, by simp [intOf]; omega⟩
end Go.Proofs.Ytagfgbkclopoeaa.Tab
