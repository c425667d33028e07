/-
  The contract of the program's guess: of the words of an instruction that is ok it is that instruction.
-/
import Derived.Test.YthpajjlhjfhdpaaGreatDoorInsK
import Derived.Test.YthpajjlhjfhdpaaGreatDoorInsRd
namespace Go.Proofs.YthpajjlhjfhdpaaGreatDoor.InsI
open Go.ChangeShapes Go.WideShapes Go.ChangeAt Go.RowKit Ins
theorem opOf_t {s : ByteArray} {o t : Int} (h : OpOf s o t) : ¬ o = 0 → t = 0 := fun h0 => by
  rcases h with ⟨k, hk, rfl, _⟩ | ⟨_, ⟨k, h1, h2, rfl, rfl, _⟩ | ⟨rfl, rfl, _⟩⟩
  · exact absurd rfl h0
  · rfl
  · rfl
/-- A block of three numbers. -/
structure Tri (Z : Nat) (a b c : Int) (w : World) : Prop where
  lt : Z < w.heap.size
  c0 : w.cell? ⟨Z, 0, none⟩ = some (.int .i64 a)
  c1 : w.cell? ⟨Z, 1, none⟩ = some (.int .i64 b)
  c2 : w.cell? ⟨Z, 2, none⟩ = some (.int .i64 c)
  f0 : w.frozen? ⟨Z, 0, none⟩ = false
  f1 : w.frozen? ⟨Z, 1, none⟩ = false
  f2 : w.frozen? ⟨Z, 2, none⟩ = false
theorem Tri.new (w : World) (a b c : Int) (t : TypeId) : Tri w.heap.size a b c (w.alloc (.cells #[.int .i64 a, .int .i64 b, .int .i64 c] t)) :=
  ⟨by simp, by simp, by simp, by simp, by simp, by simp, by simp⟩
theorem Tri.below {Z : Nat} {a b c : Int} {w w' : World} (h : Tri Z a b c w) (hb : Below w.heap.size w w') : Tri Z a b c w' :=
  ⟨Nat.lt_of_lt_of_le h.lt hb.size, cell_below hb h.c0, cell_below hb h.c1, cell_below hb h.c2, (hb.frozen (p := ⟨Z, 0, none⟩) h.lt).trans h.f0, (hb.frozen (p := ⟨Z, 1, none⟩) h.lt).trans h.f1, (hb.frozen (p := ⟨Z, 2, none⟩) h.lt).trans h.f2⟩
theorem Tri.set0 {Z : Nat} {a b c : Int} {w : World} (h : Tri Z a b c w) (x : Int) : Tri Z x b c (w.setCell ⟨Z, 0, none⟩ (.int .i64 x)) :=
  ⟨by simpa [World.setCell] using h.lt, World.cell?_setCell_same w _ _ h.c0, (World.cell?_setCell_other w _ _ _ (by simp)).trans h.c1, (World.cell?_setCell_other w _ _ _ (by simp)).trans h.c2, (World.frozen?_setCell ..).trans h.f0, (World.frozen?_setCell ..).trans h.f1, (World.frozen?_setCell ..).trans h.f2⟩
theorem Tri.set1 {Z : Nat} {a b c : Int} {w : World} (h : Tri Z a b c w) (x : Int) : Tri Z a x c (w.setCell ⟨Z, 1, none⟩ (.int .i64 x)) :=
  ⟨by simpa [World.setCell] using h.lt, (World.cell?_setCell_other w _ _ _ (by simp)).trans h.c0, World.cell?_setCell_same w _ _ h.c1, (World.cell?_setCell_other w _ _ _ (by simp)).trans h.c2, (World.frozen?_setCell ..).trans h.f0, (World.frozen?_setCell ..).trans h.f1, (World.frozen?_setCell ..).trans h.f2⟩
theorem Tri.set2 {Z : Nat} {a b c : Int} {w : World} (h : Tri Z a b c w) (x : Int) : Tri Z a b x (w.setCell ⟨Z, 2, none⟩ (.int .i64 x)) :=
  ⟨by simpa [World.setCell] using h.lt, (World.cell?_setCell_other w _ _ _ (by simp)).trans h.c0, (World.cell?_setCell_other w _ _ _ (by simp)).trans h.c1, World.cell?_setCell_same w _ _ h.c2, (World.frozen?_setCell ..).trans h.f0, (World.frozen?_setCell ..).trans h.f1, (World.frozen?_setCell ..).trans h.f2⟩
/-- The blocks of guess: the answer, the instruction of the name, the values. -/
structure Gus (w : World) (n I : Nat) (o t v0 v1 v2 : Int) (u : World) : Prop where
  bw : Below n w u
  nI : n < I
  z : Blk n 0 0 0 0 u
  i : Blk I o 0 0 t u
  v : Tri (I + 1) v0 v1 v2 u
theorem Gus.new {w u : World} {n : Nat} {o t : Int} (hn : n < u.heap.size) (bw : Below n w u) (z : Blk n 0 0 0 0 u) (t1 t2 : TypeId) : Gus w n u.heap.size o t 0 0 0 ((u.alloc (.cells #[.int .i64 o, .int .i64 0, .int .i64 0, .int .i64 t] t1)).alloc (.cells #[.int .i64 0, .int .i64 0, .int .i64 0] t2)) := by
  refine ⟨(bw.alloc (Nat.le_of_lt hn) _).alloc (by simp; omega) _, hn, (z.alloc _).alloc _, (Blk.new u o 0 0 t t1).alloc _, ?_⟩
  have h := Tri.new (u.alloc (.cells #[.int .i64 o, .int .i64 0, .int .i64 0, .int .i64 t] t1)) 0 0 0 t2
  have e : (u.alloc (.cells #[.int .i64 o, .int .i64 0, .int .i64 0, .int .i64 t] t1)).heap.size = u.heap.size + 1 := by simp
  rw [e] at h
  exact h
theorem Gus.below {w u u' : World} {n I : Nat} {o t v0 v1 v2 : Int} (h : Gus w n I o t v0 v1 v2 u) (hb : Below u.heap.size u u') : Gus w n I o t v0 v1 v2 u' :=
  ⟨h.bw.trans (hb.mono (Nat.le_of_lt h.z.lt)), h.nI, h.z.below hb, h.i.below hb, h.v.below hb⟩
theorem Gus.set0 {w u : World} {n I : Nat} {o t v0 v1 v2 : Int} (h : Gus w n I o t v0 v1 v2 u) (x : Int) : Gus w n I o t x v1 v2 (u.setCell ⟨I + 1, 0, none⟩ (.int .i64 x)) :=
  ⟨h.bw.setCell (by have := h.nI; show n ≤ I + 1; omega) _, h.nI, h.z.other _ (by have := h.nI; show I + 1 ≠ n; omega), h.i.other _ (by show I + 1 ≠ I; omega), h.v.set0 x⟩
theorem Gus.set1 {w u : World} {n I : Nat} {o t v0 v1 v2 : Int} (h : Gus w n I o t v0 v1 v2 u) (x : Int) : Gus w n I o t v0 x v2 (u.setCell ⟨I + 1, 1, none⟩ (.int .i64 x)) :=
  ⟨h.bw.setCell (by have := h.nI; show n ≤ I + 1; omega) _, h.nI, h.z.other _ (by have := h.nI; show I + 1 ≠ n; omega), h.i.other _ (by show I + 1 ≠ I; omega), h.v.set1 x⟩
theorem Gus.set2 {w u : World} {n I : Nat} {o t v0 v1 v2 : Int} (h : Gus w n I o t v0 v1 v2 u) (x : Int) : Gus w n I o t v0 v1 x (u.setCell ⟨I + 1, 2, none⟩ (.int .i64 x)) :=
  ⟨h.bw.setCell (by have := h.nI; show n ≤ I + 1; omega) _, h.nI, h.z.other _ (by have := h.nI; show I + 1 ≠ n; omega), h.i.other _ (by show I + 1 ≠ I; omega), h.v.set2 x⟩
/-- What is guessed: an instruction, and of the words of one that is ok that. -/
def Guess (xs : List (List UInt8)) (o d a k : Int) (B : Bool) : Prop := ∀ op' d' a' k', okB op' d' a' k' = true → wordsOf op' d' a' k' = xs → B = true ∧ o = op' ∧ d = d' ∧ a = a' ∧ k = k'
/-- What guess leaves. -/
def Guessed (w : World) (xs : List (List UInt8)) (e : Ending) (w' : World) : Prop := ∃ (o d a k : Int) (B : Bool), e = .returned (.tuple #[.agg #[.int .i64 o, .int .i64 d, .int .i64 a, .int .i64 k], .bool B]) ∧ Guess xs o d a k B ∧ Below w.heap.size w w'
theorem guess_ok {xs : List (List UInt8)} {o t v0 v1 v2 : Int} (hop : OpOf ⟨(xs.getD 0 []).toArray⟩ o t) (hv : Vals xs (xs.length - 1) v0 v1 v2) : Guess xs o (fillD o v0) (fillA o v0 v1) (fillK o t v1 v2) true := fun _ _ _ _ h1 h2 => by
  subst h2
  exact ⟨rfl, words_fill h1 hop hv⟩
theorem guess_noName {xs : List (List UInt8)} {t : Int} (hop : OpOf ⟨(xs.getD 0 []).toArray⟩ (-1) t) : Guess xs 0 0 0 0 false := fun _ _ _ _ h1 h2 => by
  subst h2
  have := (words_kind h1 hop).1
  have := (okB_bd h1).1
  omega
theorem guess_noField {xs : List (List UInt8)} {j : Nat} (h1 : 1 ≤ j) (h2 : j < xs.length) (hf : fvB (xs.getD j []) = false) : Guess xs 0 0 0 0 false := fun _ _ _ _ g1 g2 => by
  subst g2
  rw [words_fv g1 h1 h2] at hf
  cases hf
theorem guess_long {xs : List (List UInt8)} (h : 4 < xs.length) : Guess xs 0 0 0 0 false := fun op' d' a' k' _ g2 => by
  subst g2
  have := (words_len (op := op') (d := d') (a := a') (k := k')).2
  omega
theorem op_list {y : ByteArray} {o t : Int} (h : OpOf y o t) : OpOf ⟨y.data.toList.toArray⟩ o t := by rw [mk_list]; exact h
theorem not_m1 {o : Int} (h : ¬ o = -1) : decide (o ≠ -1) = true := decide_eq_true h
set_option maxRecDepth 8000 in
set_option maxHeartbeats 8000000 in
theorem guess_0 (y0 : ByteArray) (b : Nat) (w : World) (c0 : w.cell? ⟨b, 0, none⟩ = some (.string y0)) (ht : RT w) :
    Calls Tryz.prog 18 #[.slice (some ⟨b, 0, none⟩) 1 1] w (Guessed w [y0.data.toList]) := by
  have c0' : (w.alloc (.cells #[.int .i64 0, .int .i64 0, .int .i64 0, .int .i64 0] 24)).cell? ⟨b, 0, none⟩ = some (.string y0) := cell_below ((Below.refl _ _).alloc (Nat.le_refl _) _) c0
  have HT := hide ht
  clear c0 ht
  go_enter Tryz.func18, Tryz.ntmps18
  go_wp2_with fail
  refine (byName y0 _ (HT.out.tabs.below ((Below.refl _ _).alloc (Nat.le_refl _) _))).mono ?_
  rintro e w1 ⟨o, t, hop, rfl, hb⟩
  have zB := (Blk.new w 0 0 0 0 24).below hb
  have BW : Below w.heap.size w w1 := ((Below.refl _ _).alloc (Nat.le_refl _) _).trans (hb.mono (by simp))
  have HOP := hide hop
  have ho : -1 ≤ o ∧ o ≤ 15 := opOf_bd hop
  have htt : Hid (¬ o = 0 → t = 0) := opOf_t hop
  clear hb c0' hop
  by_cases e : o = -1
  · subst e
    obtain ⟨zlt, z0, z1, z2, z3, g0, g1, g2, g3⟩ := zB
    go_wp2
    exact bodyPost_ret (v := .tuple #[.agg #[.int .i64 0, .int .i64 0, .int .i64 0, .int .i64 0], .bool false]) (by simp [results, Tryz.results18, go_sem, z0, z1, z2, z3, zlt]) rfl ⟨_, _, _, _, _, rfl, guess_noName (op_list HOP.out), ((((BW.setCell (Nat.le_refl _) _).setCell (Nat.le_refl _) _).setCell (Nat.le_refl _) _).setCell (Nat.le_refl _) _).alloc (Nat.le_of_lt (by simpa [World.setCell] using zlt)) _⟩
  · have GH := hide (Gus.new (o := o) (t := t) zB.lt BW zB 24 60)
    clear zB BW
    have ne : (o != -1) = true := by simpa using e
    have d1 : decide (o = -1) = false := decide_eq_false e
    have HO : Hid (0 ≤ o ∧ o ≤ 15) := show 0 ≤ o ∧ o ≤ 15 by omega
    rw [if_neg e]
    clear e ho
    obtain ⟨_, i0, i1, i2, i3, _, _, _, _⟩ := GH.out.i
    obtain ⟨_, q0, q1, q2, _, _, _⟩ := GH.out.v
    go_wp2
    refine wp_loop_rounds 1 ?_
    rw [rounds_succ]
    go_wp2_with fail
    refine (filled o t (0) (0) (0) _ HO.out.1 HO.out.2 htt.out).mono ?_
    rintro e u9 ⟨rfl, hb⟩
    have G := GH.out.below hb
    have BW := G.bw
    obtain ⟨zlt, z0, z1, z2, z3, g0, g1, g2, g3⟩ := G.z
    clear G GH hb
    have HG := hide (guess_ok (xs := [y0.data.toList]) (v0 := 0) (v1 := 0) (v2 := 0) (op_list HOP.out) (Vals.none [y0.data.toList]))
    obtain ⟨D, eD⟩ : ∃ x, fillD o 0 = x := ⟨_, rfl⟩
    obtain ⟨A, eA⟩ : ∃ x, fillA o 0 0 = x := ⟨_, rfl⟩
    obtain ⟨K, eK⟩ : ∃ x, fillK o t 0 0 = x := ⟨_, rfl⟩
    rw [eD, eA, eK] at HG ⊢
    clear eD eA eK
    go_wp2
    exact bodyPost_ret (v := .tuple #[.agg #[.int .i64 o, .int .i64 D, .int .i64 A, .int .i64 K], .bool true]) (by simp [results, Tryz.results18, go_sem, z0, z1, z2, z3]) rfl ⟨_, _, _, _, _, rfl, HG.out, (((BW.setCell (Nat.le_refl _) _).setCell (Nat.le_refl _) _).setCell (Nat.le_refl _) _).setCell (Nat.le_refl _) _⟩
set_option maxRecDepth 8000 in
set_option maxHeartbeats 8000000 in
theorem guess_1 (y0 y1 : ByteArray) (b : Nat) (w : World) (s1 : y1.size ≤ 1000) (c0 : w.cell? ⟨b, 0, none⟩ = some (.string y0)) (c1 : w.cell? ⟨b, 1, none⟩ = some (.string y1)) (ht : RT w) :
    Calls Tryz.prog 18 #[.slice (some ⟨b, 0, none⟩) 2 2] w (Guessed w [y0.data.toList, y1.data.toList]) := by
  have c0' : (w.alloc (.cells #[.int .i64 0, .int .i64 0, .int .i64 0, .int .i64 0] 24)).cell? ⟨b, 0, none⟩ = some (.string y0) := cell_below ((Below.refl _ _).alloc (Nat.le_refl _) _) c0
  have HT := hide ht
  have C1 := hide c1
  clear c0 c1 ht
  go_enter Tryz.func18, Tryz.ntmps18
  go_wp2_with fail
  refine (byName y0 _ (HT.out.tabs.below ((Below.refl _ _).alloc (Nat.le_refl _) _))).mono ?_
  rintro e w1 ⟨o, t, hop, rfl, hb⟩
  have zB := (Blk.new w 0 0 0 0 24).below hb
  have BW : Below w.heap.size w w1 := ((Below.refl _ _).alloc (Nat.le_refl _) _).trans (hb.mono (by simp))
  have HOP := hide hop
  have ho : -1 ≤ o ∧ o ≤ 15 := opOf_bd hop
  have htt : Hid (¬ o = 0 → t = 0) := opOf_t hop
  clear hb c0' hop
  by_cases e : o = -1
  · subst e
    obtain ⟨zlt, z0, z1, z2, z3, g0, g1, g2, g3⟩ := zB
    go_wp2
    exact bodyPost_ret (v := .tuple #[.agg #[.int .i64 0, .int .i64 0, .int .i64 0, .int .i64 0], .bool false]) (by simp [results, Tryz.results18, go_sem, z0, z1, z2, z3, zlt]) rfl ⟨_, _, _, _, _, rfl, guess_noName (op_list HOP.out), ((((BW.setCell (Nat.le_refl _) _).setCell (Nat.le_refl _) _).setCell (Nat.le_refl _) _).setCell (Nat.le_refl _) _).alloc (Nat.le_of_lt (by simpa [World.setCell] using zlt)) _⟩
  · have GH := hide (Gus.new (o := o) (t := t) zB.lt BW zB 24 60)
    clear zB BW
    have ne : (o != -1) = true := by simpa using e
    have d1 : decide (o = -1) = false := decide_eq_false e
    have HO : Hid (0 ≤ o ∧ o ≤ 15) := show 0 ≤ o ∧ o ≤ 15 by omega
    rw [if_neg e]
    clear e ho
    have c1 := cell_below GH.out.bw C1.out
    go_wp2
    refine wp_loop_rounds 2 ?_
    rw [rounds_succ]
    go_wp2_with fail
    refine (fieldValue y1 _ s1 (HT.out.below GH.out.bw)).mono ?_
    rintro e u1 ⟨rfl, hb⟩
    have G := GH.out.below hb
    clear GH hb c1
    obtain ⟨x1, ex⟩ : ∃ x, fvN y1.data.toList = x := ⟨_, rfl⟩
    rw [ex]
    have EX1 := hide ex
    clear ex
    cases f1 : fvB y1.data.toList with
    | false =>
      have F1 := hide f1
      clear f1
      have BW := G.bw
      obtain ⟨zlt, z0, z1, z2, z3, g0, g1, g2, g3⟩ := G.z
      clear G
      go_wp2
      exact bodyPost_ret (v := .tuple #[.agg #[.int .i64 0, .int .i64 0, .int .i64 0, .int .i64 0], .bool false]) (by simp [results, Tryz.results18, go_sem, z0, z1, z2, z3]) rfl ⟨_, _, _, _, _, rfl, guess_noField (j := 1) (by omega) (by simp) F1.out, (((BW.setCell (Nat.le_refl _) _).setCell (Nat.le_refl _) _).setCell (Nat.le_refl _) _).setCell (Nat.le_refl _) _⟩
    | true =>
      clear f1
      have GH := hide (G.set0 x1)
      obtain ⟨_, q0, q1, q2, p0, p1, p2⟩ := G.v
      clear G
      obtain ⟨_, i0, i1, i2, i3, _, _, _, _⟩ := GH.out.i
      obtain ⟨_, r0, r1, r2, _, _, _⟩ := GH.out.v
      go_wp2
      rw [rounds_succ]
      go_wp2_with fail
      refine (filled o t (x1) (0) (0) _ HO.out.1 HO.out.2 htt.out).mono ?_
      rintro e u9 ⟨rfl, hb⟩
      have G := GH.out.below hb
      have BW := G.bw
      obtain ⟨zlt, z0, z1, z2, z3, g0, g1, g2, g3⟩ := G.z
      clear G GH hb
      have HG := hide (guess_ok (xs := [y0.data.toList, y1.data.toList]) (v0 := x1) (v1 := 0) (v2 := 0) (op_list HOP.out) (by have h := (Vals.none [y0.data.toList, y1.data.toList]).s0; simp only [List.getD_cons_zero, List.getD_cons_succ, EX1.out] at h; exact h))
      obtain ⟨D, eD⟩ : ∃ x, fillD o x1 = x := ⟨_, rfl⟩
      obtain ⟨A, eA⟩ : ∃ x, fillA o x1 0 = x := ⟨_, rfl⟩
      obtain ⟨K, eK⟩ : ∃ x, fillK o t 0 0 = x := ⟨_, rfl⟩
      rw [eD, eA, eK] at HG ⊢
      clear eD eA eK
      go_wp2
      exact bodyPost_ret (v := .tuple #[.agg #[.int .i64 o, .int .i64 D, .int .i64 A, .int .i64 K], .bool true]) (by simp [results, Tryz.results18, go_sem, z0, z1, z2, z3]) rfl ⟨_, _, _, _, _, rfl, HG.out, (((BW.setCell (Nat.le_refl _) _).setCell (Nat.le_refl _) _).setCell (Nat.le_refl _) _).setCell (Nat.le_refl _) _⟩
set_option maxRecDepth 8000 in
set_option maxHeartbeats 8000000 in
theorem guess_2 (y0 y1 y2 : ByteArray) (b : Nat) (w : World) (s1 : y1.size ≤ 1000) (s2 : y2.size ≤ 1000) (c0 : w.cell? ⟨b, 0, none⟩ = some (.string y0)) (c1 : w.cell? ⟨b, 1, none⟩ = some (.string y1)) (c2 : w.cell? ⟨b, 2, none⟩ = some (.string y2)) (ht : RT w) :
    Calls Tryz.prog 18 #[.slice (some ⟨b, 0, none⟩) 3 3] w (Guessed w [y0.data.toList, y1.data.toList, y2.data.toList]) := by
  have c0' : (w.alloc (.cells #[.int .i64 0, .int .i64 0, .int .i64 0, .int .i64 0] 24)).cell? ⟨b, 0, none⟩ = some (.string y0) := cell_below ((Below.refl _ _).alloc (Nat.le_refl _) _) c0
  have HT := hide ht
  have C1 := hide c1
  have C2 := hide c2
  clear c0 c1 c2 ht
  go_enter Tryz.func18, Tryz.ntmps18
  go_wp2_with fail
  refine (byName y0 _ (HT.out.tabs.below ((Below.refl _ _).alloc (Nat.le_refl _) _))).mono ?_
  rintro e w1 ⟨o, t, hop, rfl, hb⟩
  have zB := (Blk.new w 0 0 0 0 24).below hb
  have BW : Below w.heap.size w w1 := ((Below.refl _ _).alloc (Nat.le_refl _) _).trans (hb.mono (by simp))
  have HOP := hide hop
  have ho : -1 ≤ o ∧ o ≤ 15 := opOf_bd hop
  have htt : Hid (¬ o = 0 → t = 0) := opOf_t hop
  clear hb c0' hop
  by_cases e : o = -1
  · subst e
    obtain ⟨zlt, z0, z1, z2, z3, g0, g1, g2, g3⟩ := zB
    go_wp2
    exact bodyPost_ret (v := .tuple #[.agg #[.int .i64 0, .int .i64 0, .int .i64 0, .int .i64 0], .bool false]) (by simp [results, Tryz.results18, go_sem, z0, z1, z2, z3, zlt]) rfl ⟨_, _, _, _, _, rfl, guess_noName (op_list HOP.out), ((((BW.setCell (Nat.le_refl _) _).setCell (Nat.le_refl _) _).setCell (Nat.le_refl _) _).setCell (Nat.le_refl _) _).alloc (Nat.le_of_lt (by simpa [World.setCell] using zlt)) _⟩
  · have GH := hide (Gus.new (o := o) (t := t) zB.lt BW zB 24 60)
    clear zB BW
    have ne : (o != -1) = true := by simpa using e
    have d1 : decide (o = -1) = false := decide_eq_false e
    have HO : Hid (0 ≤ o ∧ o ≤ 15) := show 0 ≤ o ∧ o ≤ 15 by omega
    rw [if_neg e]
    clear e ho
    have c1 := cell_below GH.out.bw C1.out
    go_wp2
    refine wp_loop_rounds 3 ?_
    rw [rounds_succ]
    go_wp2_with fail
    refine (fieldValue y1 _ s1 (HT.out.below GH.out.bw)).mono ?_
    rintro e u1 ⟨rfl, hb⟩
    have G := GH.out.below hb
    clear GH hb c1
    obtain ⟨x1, ex⟩ : ∃ x, fvN y1.data.toList = x := ⟨_, rfl⟩
    rw [ex]
    have EX1 := hide ex
    clear ex
    cases f1 : fvB y1.data.toList with
    | false =>
      have F1 := hide f1
      clear f1
      have BW := G.bw
      obtain ⟨zlt, z0, z1, z2, z3, g0, g1, g2, g3⟩ := G.z
      clear G
      go_wp2
      exact bodyPost_ret (v := .tuple #[.agg #[.int .i64 0, .int .i64 0, .int .i64 0, .int .i64 0], .bool false]) (by simp [results, Tryz.results18, go_sem, z0, z1, z2, z3]) rfl ⟨_, _, _, _, _, rfl, guess_noField (j := 1) (by omega) (by simp) F1.out, (((BW.setCell (Nat.le_refl _) _).setCell (Nat.le_refl _) _).setCell (Nat.le_refl _) _).setCell (Nat.le_refl _) _⟩
    | true =>
      clear f1
      have GH := hide (G.set0 x1)
      have c2 := cell_below GH.out.bw C2.out
      obtain ⟨_, q0, q1, q2, p0, p1, p2⟩ := G.v
      clear G
      go_wp2
      rw [rounds_succ]
      go_wp2_with fail
      refine (fieldValue y2 _ s2 (HT.out.below GH.out.bw)).mono ?_
      rintro e u2 ⟨rfl, hb⟩
      have G := GH.out.below hb
      clear GH hb c2
      obtain ⟨x2, ex⟩ : ∃ x, fvN y2.data.toList = x := ⟨_, rfl⟩
      rw [ex]
      have EX2 := hide ex
      clear ex
      cases f1 : fvB y2.data.toList with
      | false =>
        have F1 := hide f1
        clear f1
        have BW := G.bw
        obtain ⟨zlt, z0, z1, z2, z3, g0, g1, g2, g3⟩ := G.z
        clear G
        go_wp2
        exact bodyPost_ret (v := .tuple #[.agg #[.int .i64 0, .int .i64 0, .int .i64 0, .int .i64 0], .bool false]) (by simp [results, Tryz.results18, go_sem, z0, z1, z2, z3]) rfl ⟨_, _, _, _, _, rfl, guess_noField (j := 2) (by omega) (by simp) F1.out, (((BW.setCell (Nat.le_refl _) _).setCell (Nat.le_refl _) _).setCell (Nat.le_refl _) _).setCell (Nat.le_refl _) _⟩
      | true =>
        clear f1
        have GH := hide (G.set1 x2)
        obtain ⟨_, q0, q1, q2, p0, p1, p2⟩ := G.v
        clear G
        obtain ⟨_, i0, i1, i2, i3, _, _, _, _⟩ := GH.out.i
        obtain ⟨_, r0, r1, r2, _, _, _⟩ := GH.out.v
        go_wp2
        rw [rounds_succ]
        go_wp2_with fail
        refine (filled o t (x1) (x2) (0) _ HO.out.1 HO.out.2 htt.out).mono ?_
        rintro e u9 ⟨rfl, hb⟩
        have G := GH.out.below hb
        have BW := G.bw
        obtain ⟨zlt, z0, z1, z2, z3, g0, g1, g2, g3⟩ := G.z
        clear G GH hb
        have HG := hide (guess_ok (xs := [y0.data.toList, y1.data.toList, y2.data.toList]) (v0 := x1) (v1 := x2) (v2 := 0) (op_list HOP.out) (by have h := ((Vals.none [y0.data.toList, y1.data.toList, y2.data.toList]).s0).s1; simp only [List.getD_cons_zero, List.getD_cons_succ, EX1.out, EX2.out] at h; exact h))
        obtain ⟨D, eD⟩ : ∃ x, fillD o x1 = x := ⟨_, rfl⟩
        obtain ⟨A, eA⟩ : ∃ x, fillA o x1 x2 = x := ⟨_, rfl⟩
        obtain ⟨K, eK⟩ : ∃ x, fillK o t x2 0 = x := ⟨_, rfl⟩
        rw [eD, eA, eK] at HG ⊢
        clear eD eA eK
        go_wp2
        exact bodyPost_ret (v := .tuple #[.agg #[.int .i64 o, .int .i64 D, .int .i64 A, .int .i64 K], .bool true]) (by simp [results, Tryz.results18, go_sem, z0, z1, z2, z3]) rfl ⟨_, _, _, _, _, rfl, HG.out, (((BW.setCell (Nat.le_refl _) _).setCell (Nat.le_refl _) _).setCell (Nat.le_refl _) _).setCell (Nat.le_refl _) _⟩
set_option maxRecDepth 8000 in
set_option maxHeartbeats 8000000 in
theorem guess_3 (y0 y1 y2 y3 : ByteArray) (b : Nat) (w : World) (s1 : y1.size ≤ 1000) (s2 : y2.size ≤ 1000) (s3 : y3.size ≤ 1000) (c0 : w.cell? ⟨b, 0, none⟩ = some (.string y0)) (c1 : w.cell? ⟨b, 1, none⟩ = some (.string y1)) (c2 : w.cell? ⟨b, 2, none⟩ = some (.string y2)) (c3 : w.cell? ⟨b, 3, none⟩ = some (.string y3)) (ht : RT w) :
    Calls Tryz.prog 18 #[.slice (some ⟨b, 0, none⟩) 4 4] w (Guessed w [y0.data.toList, y1.data.toList, y2.data.toList, y3.data.toList]) := by
  have c0' : (w.alloc (.cells #[.int .i64 0, .int .i64 0, .int .i64 0, .int .i64 0] 24)).cell? ⟨b, 0, none⟩ = some (.string y0) := cell_below ((Below.refl _ _).alloc (Nat.le_refl _) _) c0
  have HT := hide ht
  have C1 := hide c1
  have C2 := hide c2
  have C3 := hide c3
  clear c0 c1 c2 c3 ht
  go_enter Tryz.func18, Tryz.ntmps18
  go_wp2_with fail
  refine (byName y0 _ (HT.out.tabs.below ((Below.refl _ _).alloc (Nat.le_refl _) _))).mono ?_
  rintro e w1 ⟨o, t, hop, rfl, hb⟩
  have zB := (Blk.new w 0 0 0 0 24).below hb
  have BW : Below w.heap.size w w1 := ((Below.refl _ _).alloc (Nat.le_refl _) _).trans (hb.mono (by simp))
  have HOP := hide hop
  have ho : -1 ≤ o ∧ o ≤ 15 := opOf_bd hop
  have htt : Hid (¬ o = 0 → t = 0) := opOf_t hop
  clear hb c0' hop
  by_cases e : o = -1
  · subst e
    obtain ⟨zlt, z0, z1, z2, z3, g0, g1, g2, g3⟩ := zB
    go_wp2
    exact bodyPost_ret (v := .tuple #[.agg #[.int .i64 0, .int .i64 0, .int .i64 0, .int .i64 0], .bool false]) (by simp [results, Tryz.results18, go_sem, z0, z1, z2, z3, zlt]) rfl ⟨_, _, _, _, _, rfl, guess_noName (op_list HOP.out), ((((BW.setCell (Nat.le_refl _) _).setCell (Nat.le_refl _) _).setCell (Nat.le_refl _) _).setCell (Nat.le_refl _) _).alloc (Nat.le_of_lt (by simpa [World.setCell] using zlt)) _⟩
  · have GH := hide (Gus.new (o := o) (t := t) zB.lt BW zB 24 60)
    clear zB BW
    have ne : (o != -1) = true := by simpa using e
    have d1 : decide (o = -1) = false := decide_eq_false e
    have HO : Hid (0 ≤ o ∧ o ≤ 15) := show 0 ≤ o ∧ o ≤ 15 by omega
    rw [if_neg e]
    clear e ho
    have c1 := cell_below GH.out.bw C1.out
    go_wp2
    refine wp_loop_rounds 4 ?_
    rw [rounds_succ]
    go_wp2_with fail
    refine (fieldValue y1 _ s1 (HT.out.below GH.out.bw)).mono ?_
    rintro e u1 ⟨rfl, hb⟩
    have G := GH.out.below hb
    clear GH hb c1
    obtain ⟨x1, ex⟩ : ∃ x, fvN y1.data.toList = x := ⟨_, rfl⟩
    rw [ex]
    have EX1 := hide ex
    clear ex
    cases f1 : fvB y1.data.toList with
    | false =>
      have F1 := hide f1
      clear f1
      have BW := G.bw
      obtain ⟨zlt, z0, z1, z2, z3, g0, g1, g2, g3⟩ := G.z
      clear G
      go_wp2
      exact bodyPost_ret (v := .tuple #[.agg #[.int .i64 0, .int .i64 0, .int .i64 0, .int .i64 0], .bool false]) (by simp [results, Tryz.results18, go_sem, z0, z1, z2, z3]) rfl ⟨_, _, _, _, _, rfl, guess_noField (j := 1) (by omega) (by simp) F1.out, (((BW.setCell (Nat.le_refl _) _).setCell (Nat.le_refl _) _).setCell (Nat.le_refl _) _).setCell (Nat.le_refl _) _⟩
    | true =>
      clear f1
      have GH := hide (G.set0 x1)
      have c2 := cell_below GH.out.bw C2.out
      obtain ⟨_, q0, q1, q2, p0, p1, p2⟩ := G.v
      clear G
      go_wp2
      rw [rounds_succ]
      go_wp2_with fail
      refine (fieldValue y2 _ s2 (HT.out.below GH.out.bw)).mono ?_
      rintro e u2 ⟨rfl, hb⟩
      have G := GH.out.below hb
      clear GH hb c2
      obtain ⟨x2, ex⟩ : ∃ x, fvN y2.data.toList = x := ⟨_, rfl⟩
      rw [ex]
      have EX2 := hide ex
      clear ex
      cases f1 : fvB y2.data.toList with
      | false =>
        have F1 := hide f1
        clear f1
        have BW := G.bw
        obtain ⟨zlt, z0, z1, z2, z3, g0, g1, g2, g3⟩ := G.z
        clear G
        go_wp2
        exact bodyPost_ret (v := .tuple #[.agg #[.int .i64 0, .int .i64 0, .int .i64 0, .int .i64 0], .bool false]) (by simp [results, Tryz.results18, go_sem, z0, z1, z2, z3]) rfl ⟨_, _, _, _, _, rfl, guess_noField (j := 2) (by omega) (by simp) F1.out, (((BW.setCell (Nat.le_refl _) _).setCell (Nat.le_refl _) _).setCell (Nat.le_refl _) _).setCell (Nat.le_refl _) _⟩
      | true =>
        clear f1
        have GH := hide (G.set1 x2)
        have c3 := cell_below GH.out.bw C3.out
        obtain ⟨_, q0, q1, q2, p0, p1, p2⟩ := G.v
        clear G
        go_wp2
        rw [rounds_succ]
        go_wp2_with fail
        refine (fieldValue y3 _ s3 (HT.out.below GH.out.bw)).mono ?_
        rintro e u3 ⟨rfl, hb⟩
        have G := GH.out.below hb
        clear GH hb c3
        obtain ⟨x3, ex⟩ : ∃ x, fvN y3.data.toList = x := ⟨_, rfl⟩
        rw [ex]
        have EX3 := hide ex
        clear ex
        cases f1 : fvB y3.data.toList with
        | false =>
          have F1 := hide f1
          clear f1
          have BW := G.bw
          obtain ⟨zlt, z0, z1, z2, z3, g0, g1, g2, g3⟩ := G.z
          clear G
          go_wp2
          exact bodyPost_ret (v := .tuple #[.agg #[.int .i64 0, .int .i64 0, .int .i64 0, .int .i64 0], .bool false]) (by simp [results, Tryz.results18, go_sem, z0, z1, z2, z3]) rfl ⟨_, _, _, _, _, rfl, guess_noField (j := 3) (by omega) (by simp) F1.out, (((BW.setCell (Nat.le_refl _) _).setCell (Nat.le_refl _) _).setCell (Nat.le_refl _) _).setCell (Nat.le_refl _) _⟩
        | true =>
          clear f1
          have GH := hide (G.set2 x3)
          obtain ⟨_, q0, q1, q2, p0, p1, p2⟩ := G.v
          clear G
          obtain ⟨_, i0, i1, i2, i3, _, _, _, _⟩ := GH.out.i
          obtain ⟨_, r0, r1, r2, _, _, _⟩ := GH.out.v
          go_wp2
          rw [rounds_succ]
          go_wp2_with fail
          refine (filled o t (x1) (x2) (x3) _ HO.out.1 HO.out.2 htt.out).mono ?_
          rintro e u9 ⟨rfl, hb⟩
          have G := GH.out.below hb
          have BW := G.bw
          obtain ⟨zlt, z0, z1, z2, z3, g0, g1, g2, g3⟩ := G.z
          clear G GH hb
          have HG := hide (guess_ok (xs := [y0.data.toList, y1.data.toList, y2.data.toList, y3.data.toList]) (v0 := x1) (v1 := x2) (v2 := x3) (op_list HOP.out) (by have h := (((Vals.none [y0.data.toList, y1.data.toList, y2.data.toList, y3.data.toList]).s0).s1).s2; simp only [List.getD_cons_zero, List.getD_cons_succ, EX1.out, EX2.out, EX3.out] at h; exact h))
          obtain ⟨D, eD⟩ : ∃ x, fillD o x1 = x := ⟨_, rfl⟩
          obtain ⟨A, eA⟩ : ∃ x, fillA o x1 x2 = x := ⟨_, rfl⟩
          obtain ⟨K, eK⟩ : ∃ x, fillK o t x2 x3 = x := ⟨_, rfl⟩
          rw [eD, eA, eK] at HG ⊢
          clear eD eA eK
          go_wp2
          exact bodyPost_ret (v := .tuple #[.agg #[.int .i64 o, .int .i64 D, .int .i64 A, .int .i64 K], .bool true]) (by simp [results, Tryz.results18, go_sem, z0, z1, z2, z3]) rfl ⟨_, _, _, _, _, rfl, HG.out, (((BW.setCell (Nat.le_refl _) _).setCell (Nat.le_refl _) _).setCell (Nat.le_refl _) _).setCell (Nat.le_refl _) _⟩
end Go.Proofs.YthpajjlhjfhdpaaGreatDoor.InsI
