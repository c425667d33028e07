/-
  Two lists held against each other, one by one (IrOp): the program's cursor, slices.Values and sameOneByOne.
-/
import Derived.Test.YthlpndligadnjaaOneC
namespace Go.Proofs.Ythlpndligadnjaa.OneO
set_option linter.unusedVariables false
set_option linter.unusedSimpArgs false
open Go.ChangeShapes Go.WideShapes Go.ChangeAt Go.RowKit Go.Shelf IntS Pol Rng Side
attribute [local go_sem] Oper.semAt_some
/-- What stands in the cells of one. -/
structure El where
  c0 : Int
  c1 : Int
  c2 : Int
  c3 : Int
  c4 : Int
def cellsOf (e : El) : List Value := [.int .i64 e.c0, .int .i64 e.c1, .int .i64 e.c2, .int .i64 e.c3, .int .i64 e.c4]
def At (w : World) (B p : Nat) (e : El) : Prop := w.cell? ⟨B, p, none⟩ = some (.int .i64 e.c0) ∧ w.cell? ⟨B, p + 1, none⟩ = some (.int .i64 e.c1) ∧ w.cell? ⟨B, p + 2, none⟩ = some (.int .i64 e.c2) ∧ w.cell? ⟨B, p + 3, none⟩ = some (.int .i64 e.c3) ∧ w.cell? ⟨B, p + 4, none⟩ = some (.int .i64 e.c4)
theorem At.below {w w' : World} {B p : Nat} {e : El} (h : At w B p e) (hb : Below w.heap.size w w') : At w' B p e := by
  unfold At at h ⊢
  obtain ⟨h0, h1, h2, h3, h4⟩ := h
  exact ⟨cell_below hb h0, cell_below hb h1, cell_below hb h2, cell_below hb h3, cell_below hb h4⟩
theorem At.turn {w w' : World} {B p C : Nat} {e : El} (h : At w B p e) (ht : Turn C w w') (hl : B < w.heap.size) (hB : B ≠ C) : At w' B p e := by
  unfold At at h ⊢
  obtain ⟨h0, h1, h2, h3, h4⟩ := h
  exact ⟨(ht.cell (p := ⟨B, _, none⟩) hl hB).trans h0, (ht.cell (p := ⟨B, _, none⟩) hl hB).trans h1, (ht.cell (p := ⟨B, _, none⟩) hl hB).trans h2, (ht.cell (p := ⟨B, _, none⟩) hl hB).trans h3, (ht.cell (p := ⟨B, _, none⟩) hl hB).trans h4⟩
theorem At.mild {w w' : World} {B p C : Nat} {e : El} (h : At w B p e) (hm : Mild C w w') : At w' B p e := by
  unfold At at h ⊢
  obtain ⟨h0, h1, h2, h3, h4⟩ := h
  exact ⟨hm.cell h0, hm.cell h1, hm.cell h2, hm.cell h3, hm.cell h4⟩
theorem At.lt {w : World} {B p : Nat} {e : El} (h : At w B p e) : B < w.heap.size := by
  unfold At at h
  exact cell_lt h.1
/-- A slice that holds them. -/
structure RowE (w : World) (B : Nat) (v : Value) (es : List El) : Prop where
  ex : ∃ a cap off, v = .slice a es.length cap ∧ es.length ≤ cap ∧ cap ≤ maxLen ∧ (a = none → cap = 0) ∧ (es = [] ∨ (a = some ⟨B, off, none⟩ ∧ ∀ (i : Nat) e, es[i]? = some e → At w B (off + i * 5) e))
theorem RowE.below {w w' : World} {B : Nat} {v : Value} {es : List El} (h : RowE w B v es) (hb : Below w.heap.size w w') : RowE w' B v es := by
  obtain ⟨a, cap, off, h1, h2, h3, hz, h4⟩ := h
  exact ⟨a, cap, off, h1, h2, h3, hz, h4.imp id fun ⟨e, q⟩ => ⟨e, fun i t ht => (q i t ht).below hb⟩⟩
theorem RowE.mild {w w' : World} {B C : Nat} {v : Value} {es : List El} (h : RowE w B v es) (hm : Mild C w w') : RowE w' B v es := by
  obtain ⟨a, cap, off, h1, h2, h3, hz, h4⟩ := h
  exact ⟨a, cap, off, h1, h2, h3, hz, h4.imp id fun ⟨e, q⟩ => ⟨e, fun i t ht => (q i t ht).mild hm⟩⟩
theorem RowE.turn {w w' : World} {B C : Nat} {v : Value} {es : List El} (h : RowE w B v es) (ht : Turn C w w') (hB : B ≠ C) : RowE w' B v es := by
  obtain ⟨a, cap, off, h1, h2, h3, hz, h4⟩ := h
  exact ⟨a, cap, off, h1, h2, h3, hz, h4.imp id fun ⟨e, q⟩ => ⟨e, fun i t hi => (q i t hi).turn ht (q i t hi).lt hB⟩⟩
theorem RowE.low {w w' : World} {B n : Nat} {v : Value} {es : List El} (h : RowE w B v es) (hb : Below w.heap.size w w') : RowE w' B v es := h.below hb
theorem RowE.parts {w : World} {B n cap : Nat} {a : Option Addr} {es : List El} (h : RowE w B (.slice a n cap) es) : es.length = n ∧ n ≤ cap ∧ cap ≤ maxLen ∧ (a = none → cap = 0) ∧ (es = [] ∨ ∃ off, a = some ⟨B, off, none⟩ ∧ ∀ (i : Nat) e, es[i]? = some e → At w B (off + i * 5) e) := by
  obtain ⟨a', cap', off, eq, h2, h3, hz, h4⟩ := h
  injection eq with e1 e2 e3
  subst e1 e3
  exact ⟨e2.symm, by omega, h3, hz, h4.imp id (fun q => ⟨off, q⟩)⟩
set_option maxRecDepth 8000 in
set_option maxHeartbeats 4000000 in
theorem next_none (C B cap : Nat) (a : Option Addr) (w : World) (h : Rec C [.slice a 0 cap] w) (hm : cap ≤ maxLen) :
    Calls Try.prog 77 #[.pointer (some ⟨C, 0, none⟩)] w fun e w' => e = .returned (.tuple #[.agg #[.int .i64 0, .int .i64 0, .int .i64 0, .int .i64 0, .int .i64 0], .bool false]) ∧ Below w.heap.size w w' := by
  unfold maxLen at hm
  have cl := h.lt
  have B2 : Hid (Below w.heap.size w ((w.alloc (.cells #[.int .i64 0, .int .i64 0, .int .i64 0, .int .i64 0, .int .i64 0] 96)).alloc (.cells #[.int .i64 0, .int .i64 0, .int .i64 0, .int .i64 0, .int .i64 0] 96))) := ((Below.refl _ _).alloc (Nat.le_refl _) _).alloc (by simp) _
  have R1 := (Rec.new w [.int .i64 0, .int .i64 0, .int .i64 0, .int .i64 0, .int .i64 0] 96).alloc (.cells #[.int .i64 0, .int .i64 0, .int .i64 0, .int .i64 0, .int .i64 0] 96)
  have RH := hide R1
  have c0 := ((h.alloc (.cells #[.int .i64 0, .int .i64 0, .int .i64 0, .int .i64 0, .int .i64 0] 96)).alloc (.cells #[.int .i64 0, .int .i64 0, .int .i64 0, .int .i64 0, .int .i64 0] 96)).cell 0 _ rfl
  clear R1
  go_enter Try.func77, Try.ntmps77
  go_wp2

  have r0 := RH.out.cell 0 _ rfl
  have r1 := RH.out.cell 1 _ rfl
  have r2 := RH.out.cell 2 _ rfl
  have r3 := RH.out.cell 3 _ rfl
  have r4 := RH.out.cell 4 _ rfl
  exact bodyPost_ret (v := .tuple #[.agg #[.int .i64 0, .int .i64 0, .int .i64 0, .int .i64 0, .int .i64 0], .bool false]) (by simp [results, Try.results77, go_sem, r0, r1, r2, r3, r4]) rfl ⟨rfl, B2.out⟩

set_option maxRecDepth 8000 in
set_option maxHeartbeats 4000000 in
theorem next_some (C B n cap : Nat) (a : Option Addr) (e : El) (es : List El) (w : World) (h : Rec C [.slice a n cap] w) (hr : RowE w B (.slice a n cap) (e :: es)) (hC : B ≠ C) :
    Calls Try.prog 77 #[.pointer (some ⟨C, 0, none⟩)] w fun x w' => ∃ a' cap', x = .returned (.tuple #[(.agg #[.int .i64 e.c0, .int .i64 e.c1, .int .i64 e.c2, .int .i64 e.c3, .int .i64 e.c4]), .bool true]) ∧ Rec C [.slice a' es.length cap'] w' ∧ RowE w' B (.slice a' es.length cap') es ∧ Turn C w w' := by
  obtain ⟨en, hc, hm, hz, h4⟩ := hr.parts
  obtain ⟨off, rfl, h5⟩ := h4.resolve_left (by simp)
  clear h4
  have h4 := h5
  have c0 := h4 0 e rfl
  have tl : ∀ (i : Nat) x, es[i]? = some x → At w B ((off + 5) + i * 5) x := fun i x hx => by
    have := h4 (i + 1) x (by simpa using hx)
    rw [show off + (i + 1) * 5 = (off + 5) + i * 5 by omega] at this
    exact this
  simp at c0
  unfold maxLen at hm
  have cl := h.lt
  have nl : B < w.heap.size := (h4 0 e rfl).lt
  simp at en
  obtain ⟨k, ek⟩ : ∃ k, es.length = k := ⟨_, rfl⟩
  rw [ek] at en ⊢
  subst en
  have EK := hide ek
  have Z0 := Rec.new w [.int .i64 0, .int .i64 0, .int .i64 0, .int .i64 0, .int .i64 0] 96
  have Z1 := Rec.new (w.alloc (.cells #[.int .i64 0, .int .i64 0, .int .i64 0, .int .i64 0, .int .i64 0] 96)) [.int .i64 0, .int .i64 0, .int .i64 0, .int .i64 0, .int .i64 0] 96
  rw [show (w.alloc (.cells #[.int .i64 0, .int .i64 0, .int .i64 0, .int .i64 0, .int .i64 0] 96)).heap.size = w.heap.size + 1 by simp] at Z1
  have b0 : Below w.heap.size w ((w.alloc (.cells #[.int .i64 0, .int .i64 0, .int .i64 0, .int .i64 0, .int .i64 0] 96)).alloc (.cells #[.int .i64 0, .int .i64 0, .int .i64 0, .int .i64 0, .int .i64 0] 96)) := ((Below.refl _ _).alloc (Nat.le_refl _) _).alloc (by simp) _
  have SS := hide (And.intro (Z0.alloc (.cells #[.int .i64 0, .int .i64 0, .int .i64 0, .int .i64 0, .int .i64 0] 96)) (And.intro Z1 (h.below b0)))
  have CC := hide (c0.below b0)
  have BB := hide b0
  have TL := hide tl
  have NL : Hid (B < w.heap.size ∧ B ≠ C ∧ C < w.heap.size) := ⟨nl, hC, cl⟩
  have kc : k + 1 ≤ cap := by omega
  clear Z0 Z1 b0 c0 tl h4 h hr ek hC hz
  have FI : Hid (∀ a' cap' V, Rec C [.slice a' k cap'] V → (∀ (i : Nat) x, es[i]? = some x → ∃ o, a' = some ⟨B, o, none⟩ ∧ At w B (o + i * 5) x) → Turn C w V → k ≤ cap' → cap' ≤ maxLen → (a' = none → cap' = 0) → ∃ a' cap', Rec C [.slice a' k cap'] V ∧ RowE V B (.slice a' k cap') es ∧ Turn C w V) := fun a' cap' V h1 h2 h3 h4 h5 h6 => by
    refine ⟨a', cap', h1, ⟨a', cap', ?_⟩, h3⟩
    by_cases e0 : es = []
    · exact ⟨0, by rw [EK.out], by rw [EK.out]; exact h4, h5, h6, Or.inl e0⟩
    · obtain ⟨x0, ex0⟩ : ∃ x, es[0]? = some x := ⟨_, List.getElem?_eq_getElem (List.length_pos_iff.2 e0)⟩
      obtain ⟨o, rfl, _⟩ := h2 0 x0 ex0
      refine ⟨o, by rw [EK.out], by rw [EK.out]; exact h4, h5, h6, Or.inr ⟨rfl, fun i x hx => ?_⟩⟩
      obtain ⟨o', eo, q⟩ := h2 i x hx
      injection eo with e1
      injection e1 with _ e2 _
      rw [e2]
      exact q.turn h3 NL.out.1 NL.out.2.1
  go_enter Try.func77, Try.ntmps77
  have cc0 := SS.out.2.2.cell 0 _ rfl
  have kn : ((k + 1 : Nat) : Int) ≠ 0 := by omega
  go_wp2_with fail
  generalize (w.alloc (.cells #[.int .i64 0, .int .i64 0, .int .i64 0, .int .i64 0, .int .i64 0] 96)).alloc (.cells #[.int .i64 0, .int .i64 0, .int .i64 0, .int .i64 0, .int .i64 0] 96) = u at SS CC BB ⊢
  clear cc0

  have ZC := hide (And.intro SS.out.1 SS.out.2.1)
  have CR := hide SS.out.2.2
  clear SS
  have D : Below u.heap.size u u.drew := (Below.refl _ _).drew
  replace ZC := hide (And.intro (ZC.out.1.below D) (ZC.out.2.below D))
  replace CR := hide (CR.out.below D)
  replace CC := hide (CC.out.below D)
  replace BB := hide (BB.out.trans (D.mono BB.out.size))
  clear D
  refine (wpIn_wide (n := 0)).1 ?_
  refine PhaseIn.region (S := fun D => D.cell? ⟨C, 0, none⟩ = some (.slice (some ⟨B, off, none⟩) (k + 1) cap) ∧ At D B off e) 15 (by kernel_rfl) ?_
  generalize u.drew = v at ZC CR CC BB ⊢
  have hHeld : v.cell? ⟨C, 0, none⟩ = some (.slice (some ⟨B, off, none⟩) (k + 1) cap) ∧ At v B off e := ⟨CR.out.cell 0 _ rfl, CC.out⟩
  by_cases hcap : cap = 1
  · subst hcap
    have k0 : k = 0 := by omega
    subst k0
    refine PhaseIn.takeD (i := 0) (v := ?_) [0, 13, 14, 15] 12 rfl (by rfl) (by kernel_rfl) (by kernel_rfl) (by kernel_rfl) (by kernel_rfl) (by kernel_rfl) (fun _ _ _ h => h) (Or.inl ⟨by kernel_rfl, ?_⟩) hHeld ?_
    rotate_left
    · intro w' hSw
      (try dsimp only at hSw)
      go_simp
      first | done | with_reducible rfl
    try simp only [Act.put, List.setIfInBounds_toArray, List.set]
    refine PhaseIn.takeD (i := 1) (v := ?_) [1, 2, 3, 4, 5, 6, 12, 13, 14, 15] 13 rfl (by rfl) (by kernel_rfl) (by kernel_rfl) (by kernel_rfl) (by kernel_rfl) (by kernel_rfl) (fun _ _ _ h => h) (Or.inl ⟨by kernel_rfl, ?_⟩) hHeld ?_
    rotate_left
    · intro w' hSw
      (try dsimp only at hSw)
      go_simp
      first | done | with_reducible rfl
    try simp only [Act.put, List.setIfInBounds_toArray, List.set]
    refine PhaseIn.takeD (i := 2) (v := ?_) [2, 3, 4, 5, 6, 12, 13, 14, 15] 14 rfl (by rfl) (by kernel_rfl) (by kernel_rfl) (by kernel_rfl) (by kernel_rfl) (by kernel_rfl) (fun _ _ _ h => h) (Or.inl ⟨by kernel_rfl, ?_⟩) hHeld ?_
    rotate_left
    · intro w' hSw
      (try dsimp only at hSw)
      go_simp
      first | done | with_reducible rfl
    try simp only [Act.put, List.setIfInBounds_toArray, List.set]
    refine PhaseIn.takeD (i := 3) (v := ?_) [3, 4, 5, 6, 12, 13, 14, 15] 15 rfl (by rfl) (by kernel_rfl) (by kernel_rfl) (by kernel_rfl) (by kernel_rfl) (by kernel_rfl) (fun _ _ _ h => h) (Or.inl ⟨by kernel_rfl, ?_⟩) hHeld ?_
    rotate_left
    · intro w' hSw
      (try dsimp only at hSw)
      go_simp
      first | done | with_reducible rfl
    try simp only [Act.put, List.setIfInBounds_toArray, List.set]
    refine PhaseIn.takeD (i := 4) (v := ?_) [4, 5, 6, 12, 13, 14, 15] 16 rfl (by rfl) (by kernel_rfl) (by kernel_rfl) (by kernel_rfl) (by kernel_rfl) (by kernel_rfl) (fun _ _ _ h => h) (Or.inl ⟨by kernel_rfl, ?_⟩) hHeld ?_
    rotate_left
    · intro w' hSw
      (try dsimp only at hSw)
      have z0 := hSw.1
      go_simp
      first | done | with_reducible rfl
    try simp only [Act.put, List.setIfInBounds_toArray, List.set]
    refine PhaseIn.takeD (i := 5) (v := ?_) [5, 6, 12, 13, 14, 15] 17 rfl (by rfl) (by kernel_rfl) (by kernel_rfl) (by kernel_rfl) (by kernel_rfl) (by kernel_rfl) (fun _ _ _ h => h) (Or.inl ⟨by kernel_rfl, ?_⟩) hHeld ?_
    rotate_left
    · intro w' hSw
      (try dsimp only at hSw)
      go_simp
      first | done | with_reducible rfl
    try simp only [Act.put, List.setIfInBounds_toArray, List.set]
    refine PhaseIn.takeD (i := 6) (v := ?_) [6, 12, 13, 14, 15] 18 rfl (by rfl) (by kernel_rfl) (by kernel_rfl) (by kernel_rfl) (by kernel_rfl) (by kernel_rfl) (fun _ _ _ h => h) (Or.inl ⟨by kernel_rfl, ?_⟩) hHeld ?_
    rotate_left
    · intro w' hSw
      (try dsimp only at hSw)
      obtain ⟨z0, zz⟩ := hSw
      unfold At at zz
      obtain ⟨z1, z2, z3, z4, z5⟩ := zz
      go_simp
      first | done | with_reducible rfl
    try simp only [Act.put, List.setIfInBounds_toArray, List.set]
    refine PhaseIn.takeD (i := 7) (v := ?_) [7, 8, 9, 10, 11, 13, 14, 15] 19 rfl (by rfl) (by kernel_rfl) (by kernel_rfl) (by kernel_rfl) (by kernel_rfl) (by kernel_rfl) (fun _ _ _ h => h) (Or.inl ⟨by kernel_rfl, ?_⟩) hHeld ?_
    rotate_left
    · intro w' hSw
      (try dsimp only at hSw)
      go_simp
      first | done | with_reducible rfl
    try simp only [Act.put, List.setIfInBounds_toArray, List.set]
    refine PhaseIn.takeD (i := 8) (v := ?_) [8, 9, 10, 11, 13, 14, 15] 20 rfl (by rfl) (by kernel_rfl) (by kernel_rfl) (by kernel_rfl) (by kernel_rfl) (by kernel_rfl) (fun _ _ _ h => h) (Or.inl ⟨by kernel_rfl, ?_⟩) hHeld ?_
    rotate_left
    · intro w' hSw
      (try dsimp only at hSw)
      go_simp
      first | done | with_reducible rfl
    try simp only [Act.put, List.setIfInBounds_toArray, List.set]
    refine PhaseIn.takeD (i := 9) (v := ?_) [9, 10, 11, 13, 14, 15] 21 rfl (by rfl) (by kernel_rfl) (by kernel_rfl) (by kernel_rfl) (by kernel_rfl) (by kernel_rfl) (fun _ _ _ h => h) (Or.inl ⟨by kernel_rfl, ?_⟩) hHeld ?_
    rotate_left
    · intro w' hSw
      (try dsimp only at hSw)
      go_simp
      first | done | with_reducible rfl
    try simp only [Act.put, List.setIfInBounds_toArray, List.set]
    refine PhaseIn.takeD (i := 10) (v := ?_) [10, 11, 13, 14, 15] 22 rfl (by rfl) (by kernel_rfl) (by kernel_rfl) (by kernel_rfl) (by kernel_rfl) (by kernel_rfl) (fun _ _ _ h => h) (Or.inl ⟨by kernel_rfl, ?_⟩) hHeld ?_
    rotate_left
    · intro w' hSw
      (try dsimp only at hSw)
      have z0 := hSw.1
      go_simp
      first | done | with_reducible rfl
    try simp only [Act.put, List.setIfInBounds_toArray, List.set]
    refine PhaseIn.takeD (i := 11) (v := ?_) [11, 13, 14, 15] 23 rfl (by rfl) (by kernel_rfl) (by kernel_rfl) (by kernel_rfl) (by kernel_rfl) (by kernel_rfl) (fun _ _ _ h => h) (Or.inl ⟨by kernel_rfl, ?_⟩) hHeld ?_
    rotate_left
    · intro w' hSw
      (try dsimp only at hSw)
      go_simp
      first | done | with_reducible rfl
    try simp only [Act.put, List.setIfInBounds_toArray, List.set]
    have p0 := ZC.out.2.cell 0 _ rfl
    have s0 := ZC.out.2.soft 0
    have p1 := ZC.out.2.cell 1 _ rfl
    have s1 := ZC.out.2.soft 1
    have p2 := ZC.out.2.cell 2 _ rfl
    have s2 := ZC.out.2.soft 2
    have p3 := ZC.out.2.cell 3 _ rfl
    have s3 := ZC.out.2.soft 3
    have p4 := ZC.out.2.cell 4 _ rfl
    have s4 := ZC.out.2.soft 4
    have T1 : Turn (w.heap.size + 1) v (((((v.setCell ⟨w.heap.size + 1, 0, none⟩ (.int .i64 e.c0)).setCell ⟨w.heap.size + 1, 1, none⟩ (.int .i64 e.c1)).setCell ⟨w.heap.size + 1, 2, none⟩ (.int .i64 e.c2)).setCell ⟨w.heap.size + 1, 3, none⟩ (.int .i64 e.c3)).setCell ⟨w.heap.size + 1, 4, none⟩ (.int .i64 e.c4)) := ((((((Turn.refl (w.heap.size + 1) v).setCell (p := ⟨w.heap.size + 1, 0, none⟩) rfl (.int .i64 e.c0)).setCell (p := ⟨w.heap.size + 1, 1, none⟩) rfl (.int .i64 e.c1)).setCell (p := ⟨w.heap.size + 1, 2, none⟩) rfl (.int .i64 e.c2)).setCell (p := ⟨w.heap.size + 1, 3, none⟩) rfl (.int .i64 e.c3)).setCell (p := ⟨w.heap.size + 1, 4, none⟩) rfl (.int .i64 e.c4))
    have R1 : Rec (w.heap.size + 1) [.int .i64 e.c0, .int .i64 e.c1, .int .i64 e.c2, .int .i64 e.c3, .int .i64 e.c4] (((((v.setCell ⟨w.heap.size + 1, 0, none⟩ (.int .i64 e.c0)).setCell ⟨w.heap.size + 1, 1, none⟩ (.int .i64 e.c1)).setCell ⟨w.heap.size + 1, 2, none⟩ (.int .i64 e.c2)).setCell ⟨w.heap.size + 1, 3, none⟩ (.int .i64 e.c3)).setCell ⟨w.heap.size + 1, 4, none⟩ (.int .i64 e.c4)) := (((((ZC.out.2.set 0 (.int .i64 e.c0) (by simp) (show _ = ([.int .i64 e.c0, .int .i64 0, .int .i64 0, .int .i64 0, .int .i64 0] : List Value) from rfl)).set 1 (.int .i64 e.c1) (by simp) (show _ = ([.int .i64 e.c0, .int .i64 e.c1, .int .i64 0, .int .i64 0, .int .i64 0] : List Value) from rfl)).set 2 (.int .i64 e.c2) (by simp) (show _ = ([.int .i64 e.c0, .int .i64 e.c1, .int .i64 e.c2, .int .i64 0, .int .i64 0] : List Value) from rfl)).set 3 (.int .i64 e.c3) (by simp) (show _ = ([.int .i64 e.c0, .int .i64 e.c1, .int .i64 e.c2, .int .i64 e.c3, .int .i64 0] : List Value) from rfl)).set 4 (.int .i64 e.c4) (by simp) (show _ = ([.int .i64 e.c0, .int .i64 e.c1, .int .i64 e.c2, .int .i64 e.c3, .int .i64 e.c4] : List Value) from rfl))
    refine PhaseIn.one (i := 12) (by kernel_rfl) rfl (by kernel_rfl) (fun K hK => ?_)
    unfold Oper.wpIn
    refine ⟨fun _ _ => trivial, ?_⟩
    go_simp
    clear p0 s0 p1 s1 p2 s2 p3 s3 p4 s4
    generalize (((((v.setCell ⟨w.heap.size + 1, 0, none⟩ (.int .i64 e.c0)).setCell ⟨w.heap.size + 1, 1, none⟩ (.int .i64 e.c1)).setCell ⟨w.heap.size + 1, 2, none⟩ (.int .i64 e.c2)).setCell ⟨w.heap.size + 1, 3, none⟩ (.int .i64 e.c3)).setCell ⟨w.heap.size + 1, 4, none⟩ (.int .i64 e.c4)) = V1 at T1 R1 hK ⊢
    have nc : C ≠ w.heap.size + 1 := by have := NL.out; omega
    have C1 := CR.out.turn T1 nc
    have E1 := CC.out.turn T1 CC.out.lt (by have := NL.out; omega)
    have Z1 := ZC.out.1.turn T1 (by omega)
    have TT1 := turn_high (Turn.of_below (B := C) BB.out) T1 (by omega)
    have hHeld1 : V1.cell? ⟨C, 0, none⟩ = some (.slice (some ⟨B, off, none⟩) (0 + 1) 1) ∧ At V1 B off e := ⟨C1.cell 0 _ rfl, E1⟩
    refine hK _ _ (fun _ => hHeld1) ?_
    clear hK K hHeld
    try simp only [Act.put, List.setIfInBounds_toArray, List.set]
    refine PhaseIn.takeD (i := 13) (v := ?_) [13, 14, 15] 24 rfl (by rfl) (by kernel_rfl) (by kernel_rfl) (by kernel_rfl) (by kernel_rfl) (by kernel_rfl) (fun _ _ _ h => h) (Or.inl ⟨by kernel_rfl, ?_⟩) hHeld1 ?_
    rotate_left
    · intro w' hSw
      (try dsimp only at hSw)
      go_simp
      first | done | with_reducible rfl
    try simp only [Act.put, List.setIfInBounds_toArray, List.set]
    refine PhaseIn.takeD (i := 14) (v := ?_) [14, 15] 25 rfl (by rfl) (by kernel_rfl) (by kernel_rfl) (by kernel_rfl) (by kernel_rfl) (by kernel_rfl) (fun _ _ _ h => h) (Or.inl ⟨by kernel_rfl, ?_⟩) hHeld1 ?_
    rotate_left
    · intro w' hSw
      (try dsimp only at hSw)
      go_simp
      first | done | with_reducible rfl
    try simp only [Act.put, List.setIfInBounds_toArray, List.set]
    have x0 := C1.cell 0 _ rfl
    have y0 := C1.soft 0
    refine PhaseIn.one (i := 15) (by kernel_rfl) rfl (by kernel_rfl) (fun K hK => ?_)
    unfold Oper.wpIn
    refine ⟨fun _ _ => trivial, ?_⟩
    go_simp
    refine hK _ _ (fun h => absurd h (by omega)) ?_
    clear hK K x0 y0
    try simp only [Act.put, List.setIfInBounds_toArray, List.set]
    have T2 : Turn C V1 (V1.setCell ⟨C, 0, none⟩ (.slice (some ⟨B, off, none⟩) 0 0)) := (Turn.refl C V1).setCell (p := ⟨C, 0, none⟩) rfl _
    have C2 := C1.set 0 (.slice (some ⟨B, off, none⟩) 0 0) (by simp) (show _ = ([.slice (some ⟨B, off, none⟩) 0 0] : List Value) from rfl)
    have R2 := R1.turn T2 (fun e => nc e.symm)
    have Z2 := Z1.turn T2 (by have := NL.out; omega)
    have TT2 := TT1.trans T2
    generalize V1.setCell ⟨C, 0, none⟩ (.slice (some ⟨B, off, none⟩) 0 0) = V2 at T2 C2 R2 Z2 TT2 ⊢
    have W3 : Turn w.heap.size V2 (((((V2.setCell ⟨w.heap.size, 0, none⟩ (.int .i64 e.c0)).setCell ⟨w.heap.size, 1, none⟩ (.int .i64 e.c1)).setCell ⟨w.heap.size, 2, none⟩ (.int .i64 e.c2)).setCell ⟨w.heap.size, 3, none⟩ (.int .i64 e.c3)).setCell ⟨w.heap.size, 4, none⟩ (.int .i64 e.c4)) := ((((((Turn.refl (w.heap.size) V2).setCell (p := ⟨w.heap.size, 0, none⟩) rfl (.int .i64 e.c0)).setCell (p := ⟨w.heap.size, 1, none⟩) rfl (.int .i64 e.c1)).setCell (p := ⟨w.heap.size, 2, none⟩) rfl (.int .i64 e.c2)).setCell (p := ⟨w.heap.size, 3, none⟩) rfl (.int .i64 e.c3)).setCell (p := ⟨w.heap.size, 4, none⟩) rfl (.int .i64 e.c4))
    have Z3 := (((((Z2.set 0 (.int .i64 e.c0) (by simp) (show _ = ([.int .i64 e.c0, .int .i64 0, .int .i64 0, .int .i64 0, .int .i64 0] : List Value) from rfl)).set 1 (.int .i64 e.c1) (by simp) (show _ = ([.int .i64 e.c0, .int .i64 e.c1, .int .i64 0, .int .i64 0, .int .i64 0] : List Value) from rfl)).set 2 (.int .i64 e.c2) (by simp) (show _ = ([.int .i64 e.c0, .int .i64 e.c1, .int .i64 e.c2, .int .i64 0, .int .i64 0] : List Value) from rfl)).set 3 (.int .i64 e.c3) (by simp) (show _ = ([.int .i64 e.c0, .int .i64 e.c1, .int .i64 e.c2, .int .i64 e.c3, .int .i64 0] : List Value) from rfl)).set 4 (.int .i64 e.c4) (by simp) (show _ = ([.int .i64 e.c0, .int .i64 e.c1, .int .i64 e.c2, .int .i64 e.c3, .int .i64 e.c4] : List Value) from rfl))
    have C3 := C2.turn W3 (by have := NL.out; omega)
    have TT3 := turn_high TT2 W3 (Nat.le_refl _)
    have FX := hide (FI.out (some ⟨B, off, none⟩) 0 _ C3 (fun i x hx => by rw [List.length_eq_zero_iff.1 EK.out] at hx; simp at hx) TT3 (by omega) (by unfold maxLen; omega) (fun e => by cases e))
    have ZZ := hide Z3
    have a0 := R2.cell 0 _ rfl
    have b0 := Z2.cell 0 _ rfl
    have d0 := Z2.soft 0
    have a1 := R2.cell 1 _ rfl
    have b1 := Z2.cell 1 _ rfl
    have d1 := Z2.soft 1
    have a2 := R2.cell 2 _ rfl
    have b2 := Z2.cell 2 _ rfl
    have d2 := Z2.soft 2
    have a3 := R2.cell 3 _ rfl
    have b3 := Z2.cell 3 _ rfl
    have d3 := Z2.soft 3
    have a4 := R2.cell 4 _ rfl
    have b4 := Z2.cell 4 _ rfl
    have d4 := Z2.soft 4
    clear T1 R1 C1 E1 Z1 TT1 hHeld1 T2 C2 R2 Z2 TT2 W3 Z3 C3 TT3 FI ZC CR CC BB TL
    refine PhaseIn.done (by kernel_rfl) ?_ _
    go_wp2
    generalize (((((V2.setCell ⟨w.heap.size, 0, none⟩ (.int .i64 e.c0)).setCell ⟨w.heap.size, 1, none⟩ (.int .i64 e.c1)).setCell ⟨w.heap.size, 2, none⟩ (.int .i64 e.c2)).setCell ⟨w.heap.size, 3, none⟩ (.int .i64 e.c3)).setCell ⟨w.heap.size, 4, none⟩ (.int .i64 e.c4)) = V3 at FX ZZ ⊢
    obtain ⟨a', cap', q1, q2, q3⟩ := FX.out
    have g0 := ZZ.out.cell 0 _ rfl
    have g1 := ZZ.out.cell 1 _ rfl
    have g2 := ZZ.out.cell 2 _ rfl
    have g3 := ZZ.out.cell 3 _ rfl
    have g4 := ZZ.out.cell 4 _ rfl
    exact bodyPost_ret (v := .tuple #[(.agg #[.int .i64 e.c0, .int .i64 e.c1, .int .i64 e.c2, .int .i64 e.c3, .int .i64 e.c4]), .bool true]) (by simp [results, Try.results77, go_sem, g0, g1, g2, g3, g4]) rfl ⟨a', cap', rfl, q1, q2, q3⟩
  · have hcap2 : 1 < cap := by omega
    have k1 : (1 : Int) ≤ (k : Int) + 1 := by omega
    refine PhaseIn.takeD (i := 0) (v := ?_) [0, 13, 14, 15] 12 rfl (by rfl) (by kernel_rfl) (by kernel_rfl) (by kernel_rfl) (by kernel_rfl) (by kernel_rfl) (fun _ _ _ h => h) (Or.inl ⟨by kernel_rfl, ?_⟩) hHeld ?_
    rotate_left
    · intro w' hSw
      (try dsimp only at hSw)
      go_simp
      first | done | with_reducible rfl
    try simp only [Act.put, List.setIfInBounds_toArray, List.set]
    refine PhaseIn.takeD (i := 1) (v := ?_) [1, 2, 3, 4, 5, 6, 12, 13, 14, 15] 13 rfl (by rfl) (by kernel_rfl) (by kernel_rfl) (by kernel_rfl) (by kernel_rfl) (by kernel_rfl) (fun _ _ _ h => h) (Or.inl ⟨by kernel_rfl, ?_⟩) hHeld ?_
    rotate_left
    · intro w' hSw
      (try dsimp only at hSw)
      go_simp
      first | done | with_reducible rfl
    try simp only [Act.put, List.setIfInBounds_toArray, List.set]
    refine PhaseIn.takeD (i := 2) (v := ?_) [2, 3, 4, 5, 6, 12, 13, 14, 15] 14 rfl (by rfl) (by kernel_rfl) (by kernel_rfl) (by kernel_rfl) (by kernel_rfl) (by kernel_rfl) (fun _ _ _ h => h) (Or.inl ⟨by kernel_rfl, ?_⟩) hHeld ?_
    rotate_left
    · intro w' hSw
      (try dsimp only at hSw)
      go_simp
      first | done | with_reducible rfl
    try simp only [Act.put, List.setIfInBounds_toArray, List.set]
    refine PhaseIn.takeD (i := 3) (v := ?_) [3, 4, 5, 6, 12, 13, 14, 15] 15 rfl (by rfl) (by kernel_rfl) (by kernel_rfl) (by kernel_rfl) (by kernel_rfl) (by kernel_rfl) (fun _ _ _ h => h) (Or.inl ⟨by kernel_rfl, ?_⟩) hHeld ?_
    rotate_left
    · intro w' hSw
      (try dsimp only at hSw)
      go_simp
      first | done | with_reducible rfl
    try simp only [Act.put, List.setIfInBounds_toArray, List.set]
    refine PhaseIn.takeD (i := 4) (v := ?_) [4, 5, 6, 12, 13, 14, 15] 16 rfl (by rfl) (by kernel_rfl) (by kernel_rfl) (by kernel_rfl) (by kernel_rfl) (by kernel_rfl) (fun _ _ _ h => h) (Or.inl ⟨by kernel_rfl, ?_⟩) hHeld ?_
    rotate_left
    · intro w' hSw
      (try dsimp only at hSw)
      have z0 := hSw.1
      go_simp
      first | done | with_reducible rfl
    try simp only [Act.put, List.setIfInBounds_toArray, List.set]
    refine PhaseIn.takeD (i := 5) (v := ?_) [5, 6, 12, 13, 14, 15] 17 rfl (by rfl) (by kernel_rfl) (by kernel_rfl) (by kernel_rfl) (by kernel_rfl) (by kernel_rfl) (fun _ _ _ h => h) (Or.inl ⟨by kernel_rfl, ?_⟩) hHeld ?_
    rotate_left
    · intro w' hSw
      (try dsimp only at hSw)
      go_simp
      first | done | with_reducible rfl
    try simp only [Act.put, List.setIfInBounds_toArray, List.set]
    refine PhaseIn.takeD (i := 6) (v := ?_) [6, 12, 13, 14, 15] 18 rfl (by rfl) (by kernel_rfl) (by kernel_rfl) (by kernel_rfl) (by kernel_rfl) (by kernel_rfl) (fun _ _ _ h => h) (Or.inl ⟨by kernel_rfl, ?_⟩) hHeld ?_
    rotate_left
    · intro w' hSw
      (try dsimp only at hSw)
      obtain ⟨z0, zz⟩ := hSw
      unfold At at zz
      obtain ⟨z1, z2, z3, z4, z5⟩ := zz
      go_simp
      first | done | with_reducible rfl
    try simp only [Act.put, List.setIfInBounds_toArray, List.set]
    refine PhaseIn.takeD (i := 7) (v := ?_) [7, 8, 9, 10, 11, 13, 14, 15] 19 rfl (by rfl) (by kernel_rfl) (by kernel_rfl) (by kernel_rfl) (by kernel_rfl) (by kernel_rfl) (fun _ _ _ h => h) (Or.inl ⟨by kernel_rfl, ?_⟩) hHeld ?_
    rotate_left
    · intro w' hSw
      (try dsimp only at hSw)
      go_simp
      first | done | with_reducible rfl
    try simp only [Act.put, List.setIfInBounds_toArray, List.set]
    refine PhaseIn.takeD (i := 8) (v := ?_) [8, 9, 10, 11, 13, 14, 15] 20 rfl (by rfl) (by kernel_rfl) (by kernel_rfl) (by kernel_rfl) (by kernel_rfl) (by kernel_rfl) (fun _ _ _ h => h) (Or.inl ⟨by kernel_rfl, ?_⟩) hHeld ?_
    rotate_left
    · intro w' hSw
      (try dsimp only at hSw)
      go_simp
      first | done | with_reducible rfl
    try simp only [Act.put, List.setIfInBounds_toArray, List.set]
    refine PhaseIn.takeD (i := 9) (v := ?_) [9, 10, 11, 13, 14, 15] 21 rfl (by rfl) (by kernel_rfl) (by kernel_rfl) (by kernel_rfl) (by kernel_rfl) (by kernel_rfl) (fun _ _ _ h => h) (Or.inl ⟨by kernel_rfl, ?_⟩) hHeld ?_
    rotate_left
    · intro w' hSw
      (try dsimp only at hSw)
      go_simp
      first | done | with_reducible rfl
    try simp only [Act.put, List.setIfInBounds_toArray, List.set]
    refine PhaseIn.takeD (i := 10) (v := ?_) [10, 11, 13, 14, 15] 22 rfl (by rfl) (by kernel_rfl) (by kernel_rfl) (by kernel_rfl) (by kernel_rfl) (by kernel_rfl) (fun _ _ _ h => h) (Or.inl ⟨by kernel_rfl, ?_⟩) hHeld ?_
    rotate_left
    · intro w' hSw
      (try dsimp only at hSw)
      have z0 := hSw.1
      go_simp
      first | done | with_reducible rfl
    try simp only [Act.put, List.setIfInBounds_toArray, List.set]
    refine PhaseIn.takeD (i := 11) (v := ?_) [11, 13, 14, 15] 23 rfl (by rfl) (by kernel_rfl) (by kernel_rfl) (by kernel_rfl) (by kernel_rfl) (by kernel_rfl) (fun _ _ _ h => h) (Or.inl ⟨by kernel_rfl, ?_⟩) hHeld ?_
    rotate_left
    · intro w' hSw
      (try dsimp only at hSw)
      go_simp
      first | done | with_reducible rfl
    try simp only [Act.put, List.setIfInBounds_toArray, List.set]
    have p0 := ZC.out.2.cell 0 _ rfl
    have s0 := ZC.out.2.soft 0
    have p1 := ZC.out.2.cell 1 _ rfl
    have s1 := ZC.out.2.soft 1
    have p2 := ZC.out.2.cell 2 _ rfl
    have s2 := ZC.out.2.soft 2
    have p3 := ZC.out.2.cell 3 _ rfl
    have s3 := ZC.out.2.soft 3
    have p4 := ZC.out.2.cell 4 _ rfl
    have s4 := ZC.out.2.soft 4
    have T1 : Turn (w.heap.size + 1) v (((((v.setCell ⟨w.heap.size + 1, 0, none⟩ (.int .i64 e.c0)).setCell ⟨w.heap.size + 1, 1, none⟩ (.int .i64 e.c1)).setCell ⟨w.heap.size + 1, 2, none⟩ (.int .i64 e.c2)).setCell ⟨w.heap.size + 1, 3, none⟩ (.int .i64 e.c3)).setCell ⟨w.heap.size + 1, 4, none⟩ (.int .i64 e.c4)) := ((((((Turn.refl (w.heap.size + 1) v).setCell (p := ⟨w.heap.size + 1, 0, none⟩) rfl (.int .i64 e.c0)).setCell (p := ⟨w.heap.size + 1, 1, none⟩) rfl (.int .i64 e.c1)).setCell (p := ⟨w.heap.size + 1, 2, none⟩) rfl (.int .i64 e.c2)).setCell (p := ⟨w.heap.size + 1, 3, none⟩) rfl (.int .i64 e.c3)).setCell (p := ⟨w.heap.size + 1, 4, none⟩) rfl (.int .i64 e.c4))
    have R1 : Rec (w.heap.size + 1) [.int .i64 e.c0, .int .i64 e.c1, .int .i64 e.c2, .int .i64 e.c3, .int .i64 e.c4] (((((v.setCell ⟨w.heap.size + 1, 0, none⟩ (.int .i64 e.c0)).setCell ⟨w.heap.size + 1, 1, none⟩ (.int .i64 e.c1)).setCell ⟨w.heap.size + 1, 2, none⟩ (.int .i64 e.c2)).setCell ⟨w.heap.size + 1, 3, none⟩ (.int .i64 e.c3)).setCell ⟨w.heap.size + 1, 4, none⟩ (.int .i64 e.c4)) := (((((ZC.out.2.set 0 (.int .i64 e.c0) (by simp) (show _ = ([.int .i64 e.c0, .int .i64 0, .int .i64 0, .int .i64 0, .int .i64 0] : List Value) from rfl)).set 1 (.int .i64 e.c1) (by simp) (show _ = ([.int .i64 e.c0, .int .i64 e.c1, .int .i64 0, .int .i64 0, .int .i64 0] : List Value) from rfl)).set 2 (.int .i64 e.c2) (by simp) (show _ = ([.int .i64 e.c0, .int .i64 e.c1, .int .i64 e.c2, .int .i64 0, .int .i64 0] : List Value) from rfl)).set 3 (.int .i64 e.c3) (by simp) (show _ = ([.int .i64 e.c0, .int .i64 e.c1, .int .i64 e.c2, .int .i64 e.c3, .int .i64 0] : List Value) from rfl)).set 4 (.int .i64 e.c4) (by simp) (show _ = ([.int .i64 e.c0, .int .i64 e.c1, .int .i64 e.c2, .int .i64 e.c3, .int .i64 e.c4] : List Value) from rfl))
    refine PhaseIn.one (i := 12) (by kernel_rfl) rfl (by kernel_rfl) (fun K hK => ?_)
    unfold Oper.wpIn
    refine ⟨fun _ _ => trivial, ?_⟩
    go_simp
    clear p0 s0 p1 s1 p2 s2 p3 s3 p4 s4
    generalize (((((v.setCell ⟨w.heap.size + 1, 0, none⟩ (.int .i64 e.c0)).setCell ⟨w.heap.size + 1, 1, none⟩ (.int .i64 e.c1)).setCell ⟨w.heap.size + 1, 2, none⟩ (.int .i64 e.c2)).setCell ⟨w.heap.size + 1, 3, none⟩ (.int .i64 e.c3)).setCell ⟨w.heap.size + 1, 4, none⟩ (.int .i64 e.c4)) = V1 at T1 R1 hK ⊢
    have nc : C ≠ w.heap.size + 1 := by have := NL.out; omega
    have C1 := CR.out.turn T1 nc
    have E1 := CC.out.turn T1 CC.out.lt (by have := NL.out; omega)
    have Z1 := ZC.out.1.turn T1 (by omega)
    have TT1 := turn_high (Turn.of_below (B := C) BB.out) T1 (by omega)
    have hHeld1 : V1.cell? ⟨C, 0, none⟩ = some (.slice (some ⟨B, off, none⟩) (k + 1) cap) ∧ At V1 B off e := ⟨C1.cell 0 _ rfl, E1⟩
    refine hK _ _ (fun _ => hHeld1) ?_
    clear hK K hHeld
    try simp only [Act.put, List.setIfInBounds_toArray, List.set]
    refine PhaseIn.takeD (i := 13) (v := ?_) [13, 14, 15] 24 rfl (by rfl) (by kernel_rfl) (by kernel_rfl) (by kernel_rfl) (by kernel_rfl) (by kernel_rfl) (fun _ _ _ h => h) (Or.inl ⟨by kernel_rfl, ?_⟩) hHeld1 ?_
    rotate_left
    · intro w' hSw
      (try dsimp only at hSw)
      go_simp
      first | done | with_reducible rfl
    try simp only [Act.put, List.setIfInBounds_toArray, List.set]
    refine PhaseIn.takeD (i := 14) (v := ?_) [14, 15] 25 rfl (by rfl) (by kernel_rfl) (by kernel_rfl) (by kernel_rfl) (by kernel_rfl) (by kernel_rfl) (fun _ _ _ h => h) (Or.inl ⟨by kernel_rfl, ?_⟩) hHeld1 ?_
    rotate_left
    · intro w' hSw
      (try dsimp only at hSw)
      go_simp
      first | done | with_reducible rfl
    try simp only [Act.put, List.setIfInBounds_toArray, List.set]
    have x0 := C1.cell 0 _ rfl
    have y0 := C1.soft 0
    refine PhaseIn.one (i := 15) (by kernel_rfl) rfl (by kernel_rfl) (fun K hK => ?_)
    unfold Oper.wpIn
    refine ⟨fun _ _ => trivial, ?_⟩
    go_simp
    refine hK _ _ (fun h => absurd h (by omega)) ?_
    clear hK K x0 y0
    try simp only [Act.put, List.setIfInBounds_toArray, List.set]
    have T2 : Turn C V1 (V1.setCell ⟨C, 0, none⟩ (.slice (some ⟨B, off + 5, none⟩) k (cap - 1))) := (Turn.refl C V1).setCell (p := ⟨C, 0, none⟩) rfl _
    have C2 := C1.set 0 (.slice (some ⟨B, off + 5, none⟩) k (cap - 1)) (by simp) (show _ = ([.slice (some ⟨B, off + 5, none⟩) k (cap - 1)] : List Value) from rfl)
    have R2 := R1.turn T2 (fun e => nc e.symm)
    have Z2 := Z1.turn T2 (by have := NL.out; omega)
    have TT2 := TT1.trans T2
    generalize V1.setCell ⟨C, 0, none⟩ (.slice (some ⟨B, off + 5, none⟩) k (cap - 1)) = V2 at T2 C2 R2 Z2 TT2 ⊢
    have W3 : Turn w.heap.size V2 (((((V2.setCell ⟨w.heap.size, 0, none⟩ (.int .i64 e.c0)).setCell ⟨w.heap.size, 1, none⟩ (.int .i64 e.c1)).setCell ⟨w.heap.size, 2, none⟩ (.int .i64 e.c2)).setCell ⟨w.heap.size, 3, none⟩ (.int .i64 e.c3)).setCell ⟨w.heap.size, 4, none⟩ (.int .i64 e.c4)) := ((((((Turn.refl (w.heap.size) V2).setCell (p := ⟨w.heap.size, 0, none⟩) rfl (.int .i64 e.c0)).setCell (p := ⟨w.heap.size, 1, none⟩) rfl (.int .i64 e.c1)).setCell (p := ⟨w.heap.size, 2, none⟩) rfl (.int .i64 e.c2)).setCell (p := ⟨w.heap.size, 3, none⟩) rfl (.int .i64 e.c3)).setCell (p := ⟨w.heap.size, 4, none⟩) rfl (.int .i64 e.c4))
    have Z3 := (((((Z2.set 0 (.int .i64 e.c0) (by simp) (show _ = ([.int .i64 e.c0, .int .i64 0, .int .i64 0, .int .i64 0, .int .i64 0] : List Value) from rfl)).set 1 (.int .i64 e.c1) (by simp) (show _ = ([.int .i64 e.c0, .int .i64 e.c1, .int .i64 0, .int .i64 0, .int .i64 0] : List Value) from rfl)).set 2 (.int .i64 e.c2) (by simp) (show _ = ([.int .i64 e.c0, .int .i64 e.c1, .int .i64 e.c2, .int .i64 0, .int .i64 0] : List Value) from rfl)).set 3 (.int .i64 e.c3) (by simp) (show _ = ([.int .i64 e.c0, .int .i64 e.c1, .int .i64 e.c2, .int .i64 e.c3, .int .i64 0] : List Value) from rfl)).set 4 (.int .i64 e.c4) (by simp) (show _ = ([.int .i64 e.c0, .int .i64 e.c1, .int .i64 e.c2, .int .i64 e.c3, .int .i64 e.c4] : List Value) from rfl))
    have C3 := C2.turn W3 (by have := NL.out; omega)
    have TT3 := turn_high TT2 W3 (Nat.le_refl _)
    have FX := hide (FI.out (some ⟨B, off + 5, none⟩) (cap - 1) _ C3 (fun i x hx => ⟨_, rfl, TL.out i x hx⟩) TT3 (by omega) (by unfold maxLen; omega) (fun e => by cases e))
    have ZZ := hide Z3
    have a0 := R2.cell 0 _ rfl
    have b0 := Z2.cell 0 _ rfl
    have d0 := Z2.soft 0
    have a1 := R2.cell 1 _ rfl
    have b1 := Z2.cell 1 _ rfl
    have d1 := Z2.soft 1
    have a2 := R2.cell 2 _ rfl
    have b2 := Z2.cell 2 _ rfl
    have d2 := Z2.soft 2
    have a3 := R2.cell 3 _ rfl
    have b3 := Z2.cell 3 _ rfl
    have d3 := Z2.soft 3
    have a4 := R2.cell 4 _ rfl
    have b4 := Z2.cell 4 _ rfl
    have d4 := Z2.soft 4
    clear T1 R1 C1 E1 Z1 TT1 hHeld1 T2 C2 R2 Z2 TT2 W3 Z3 C3 TT3 FI ZC CR CC BB TL
    refine PhaseIn.done (by kernel_rfl) ?_ _
    go_wp2
    generalize (((((V2.setCell ⟨w.heap.size, 0, none⟩ (.int .i64 e.c0)).setCell ⟨w.heap.size, 1, none⟩ (.int .i64 e.c1)).setCell ⟨w.heap.size, 2, none⟩ (.int .i64 e.c2)).setCell ⟨w.heap.size, 3, none⟩ (.int .i64 e.c3)).setCell ⟨w.heap.size, 4, none⟩ (.int .i64 e.c4)) = V3 at FX ZZ ⊢
    obtain ⟨a', cap', q1, q2, q3⟩ := FX.out
    have g0 := ZZ.out.cell 0 _ rfl
    have g1 := ZZ.out.cell 1 _ rfl
    have g2 := ZZ.out.cell 2 _ rfl
    have g3 := ZZ.out.cell 3 _ rfl
    have g4 := ZZ.out.cell 4 _ rfl
    exact bodyPost_ret (v := .tuple #[(.agg #[.int .i64 e.c0, .int .i64 e.c1, .int .i64 e.c2, .int .i64 e.c3, .int .i64 e.c4]), .bool true]) (by simp [results, Try.results77, go_sem, g0, g1, g2, g3, g4]) rfl ⟨a', cap', rfl, q1, q2, q3⟩
end Go.Proofs.Ythlpndligadnjaa.OneO
