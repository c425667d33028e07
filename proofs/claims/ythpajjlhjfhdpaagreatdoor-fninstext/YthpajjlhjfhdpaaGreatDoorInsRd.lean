/-
  Contracts of the specification's l2Num and InsRead.
-/
import Derived.Test.YthpajjlhjfhdpaaGreatDoorInsM
import Derived.Test.YthpajjlhjfhdpaaGreatDoorInsB
import Derived.Test.YthpajjlhjfhdpaaGreatDoorReads
namespace Go.Proofs.YthpajjlhjfhdpaaGreatDoor.Ins
open Go.ChangeShapes Go.WideShapes Go.ChangeAt Go.RowKit

/-- The parts of a text that is short are short. -/
def xsBound (xs : List (List UInt8)) : Prop := ∀ x, x ∈ xs → x.length ≤ 1000
theorem splitGo_bound : ∀ (l acc : List UInt8) (n : Nat), l.length + acc.length ≤ n → ∀ x, x ∈ splitGo acc l → x.length ≤ n
  | [], acc, n, h, x, hx => by
    simp [splitGo] at hx
    subst hx; simpa using h
  | b :: r, acc, n, h, x, hx => by
    unfold splitGo at hx
    split at hx
    · simp only [List.mem_cons] at hx
      rcases hx with rfl | hx
      · simp at h; omega
      · exact splitGo_bound r [] n (by simp at h ⊢; omega) x hx
    · exact splitGo_bound r (acc ++ [b]) n (by simp at h ⊢; omega) x hx
theorem split_bound (s : ByteArray) (h : s.size ≤ 20) : xsBound (splitGo [] s.data.toList) := fun x hx => splitGo_bound _ [] 1000 (by have : s.data.toList.length = s.size := Array.length_toList; simp; omega) x hx
theorem l2Num (s : ByteArray) (w : World) (hl : s.size ≤ 1001) :
    Calls Tryz.prog 24 #[.string s] w fun e w' => e = .returned (.int .i64 (numOf s.data.toList)) ∧ Below w.heap.size w w' := by
  go_enter Tryz.func24, Tryz.ntmps24
  go_wp2_with fail
  refine (Words.specRead s (by omega) _).mono ?_
  rintro e w1 ⟨rfl, hb⟩
  cases hB : Words.rdB s.data.toList with
  | true =>
    have H : Hid (numOf s.data.toList = Words.rdN s.data.toList) := show _ = _ by unfold numOf; rw [hB]; rfl
    clear hB
    generalize Words.rdN s.data.toList = n at H ⊢
    go_wp2
    go_ret
    exact ⟨ret_int (by rw [H.out]), hb⟩
  | false =>
    have H : Hid (numOf s.data.toList = -1) := show _ = _ by unfold numOf; rw [hB]; rfl
    clear hB
    generalize Words.rdN s.data.toList = n
    go_wp2
    go_ret
    exact ⟨ret_int (by rw [H.out]), hb⟩
theorem own_below {w w' : World} {base e size n : Nat} {v : Value} {xs : List Value} (h : w.ownsRow base e size v n xs) (hb : Below w.heap.size w w') : w'.ownsRow base e size v n xs := by
  refine ⟨h.1, ?_⟩
  rcases h.2 with h0 | ⟨g, cap, cur, hv, hB, hg, rest⟩
  · exact Or.inl h0
  · refine Or.inr ⟨g, cap, cur, hv, hB, ?_, rest⟩
    have hlt : g < w.heap.size := by
      rcases Nat.lt_or_ge g w.heap.size with h' | h'
      · exact h'
      · rw [Array.getElem?_eq_none h'] at hg; cases hg
    rw [hb.block g hlt]; exact hg
theorem opOf_bd {s : ByteArray} {o t : Int} (h : OpOf s o t) : -1 ≤ o ∧ o ≤ 15 := by
  rcases h with ⟨k, hk, rfl, _⟩ | ⟨_, ⟨k, h1, h2, rfl, _⟩ | ⟨rfl, _⟩⟩ <;> omega
theorem part_size {xs : List (List UInt8)} (h : xsBound xs) (k : Nat) : (⟨(xs.getD k []).toArray⟩ : ByteArray).size ≤ 1000 := by
  have : (xs.getD k []).length ≤ 1000 := by
    rw [List.getD_eq_getElem?_getD]
    cases hk : xs[k]? with
    | none => simp
    | some x => exact h x (List.mem_of_getElem? hk)
  simpa [ByteArray.size] using this
theorem nonempty {op d a k : Int} (h : okB op d a k = true) : ¬ textS op d a k = ⟨#[]⟩ := by
  intro e
  have h1 := split_text h
  rw [e] at h1
  obtain ⟨o0, o1, d0, d1, a0, a1, k0, k1, hF⟩ := okB_bd h
  have h2 : (wordsOf op d a k).getD 0 [] = [] := by rw [← h1]; rfl
  by_cases e0 : op = 0
  · subst e0
    have hw : wordsOf 0 d a k = [stopL k] := if_pos rfl
    rw [hw] at h2
    rcases four4 k0 (form_0 hF) with rfl | rfl | rfl | rfl <;> exact absurd h2 (by decide)
  · have h0 : (wordsOf op d a k).getD 0 [] = nameL op := by
      unfold wordsOf
      rw [if_neg e0]
      repeat' split
      all_goals rfl
    rw [h0] at h2
    rcases ops16 o0 o1 with rfl | rfl | rfl | rfl | rfl | rfl | rfl | rfl | rfl | rfl | rfl | rfl | rfl | rfl | rfl | rfl <;> exact absurd h2 (by decide)
theorem ne_bytes2 {a b : ByteArray} (h : ¬ a = b) : (a.toList != b.toList) = true := by
  have := ne_bytes h
  simp only [bne, this, Bool.not_false]
theorem ne_empty {a : ByteArray} (h : ¬ a = ⟨#[]⟩) : a.toList.isEmpty = false := by
  cases e : a.toList with
  | nil =>
    exfalso
    apply h
    apply ByteArray.ext
    rw [ByteArray.toList_eq] at e
    exact Array.ext' (by simpa using e)
  | cons x l => rfl
theorem eq_bytes2 (a : ByteArray) : (a.toList != a.toList) = false := by simp
/-- What is read of a line is the only instruction whose text it may be. -/
structure Only (s : ByteArray) (o d a k : Int) : Prop where
  one : ∀ op' d' a' k', okB op' d' a' k' = true → textS op' d' a' k' = s → o = op' ∧ d = d' ∧ a = a' ∧ k = k'
theorem Only.no {s : ByteArray} {o d a k : Int} (h : Only s o d a k) (hk : okB o d a k = false) : ∀ op' d' a' k', okB op' d' a' k' = true → ¬ textS op' d' a' k' = s := fun op' d' a' k' h1 h2 => by
  obtain ⟨rfl, rfl, rfl, rfl⟩ := h.one op' d' a' k' h1 h2
  rw [h1] at hk; cases hk
theorem Only.other {s : ByteArray} {o d a k : Int} (h : Only s o d a k) (hk : ¬ textS o d a k = s) : ∀ op' d' a' k', okB op' d' a' k' = true → ¬ textS op' d' a' k' = s := fun op' d' a' k' h1 h2 => by
  obtain ⟨rfl, rfl, rfl, rfl⟩ := h.one op' d' a' k' h1 h2
  exact hk h2
theorem only_of {s : ByteArray} {o t : Int} {x0 x1 x2 x3 : List UInt8} (xs : List (List UInt8)) (hs : splitGo [] s.data.toList = xs) (e0 : xs.getD 0 [] = x0) (e1 : xs.getD 1 [] = x1) (e2 : xs.getD 2 [] = x2) (e3 : xs.getD 3 [] = x3) (hop : OpOf ⟨x0.toArray⟩ o t) : Only s o (dOf o x1) (aOf o x1 x2) (kOf o t x2 x3) := by
  refine ⟨fun op' d' a' k' hk ht => ?_⟩
  have hw : wordsOf op' d' a' k' = xs := by rw [← split_text hk, ht, hs]
  have h := read_text (o := o) (t := t) hk (by rw [hw, e0]; exact hop)
  rw [hw, e1, e2, e3] at h
  exact ⟨h.1, h.2.1, h.2.2.1, h.2.2.2⟩
set_option maxHeartbeats 16000000 in
theorem insRead_in (s : ByteArray) (w : World) (hl : s.size ≤ 20) :
    Calls Tryz.prog 7 #[.string s] w fun e w' => ∃ c b, e = .returned (.tuple #[.agg c, .bool b]) ∧ RdRel s c b ∧ Below w.heap.size w w' := by
  have zB := Blk.new w 0 0 0 0 24
  have BW : Below w.heap.size w (w.alloc (.cells #[.int .i64 0, .int .i64 0, .int .i64 0, .int .i64 0] 24)) := (Below.refl _ _).alloc (Nat.le_refl _) _
  go_enter Tryz.func7, Tryz.ntmps7
  go_wp2_with fail
  refine (l2Words s (by omega) _).mono ?_
  rintro e w1 ⟨v, rfl, ho, B1⟩
  replace zB := zB.below B1
  replace BW := BW.trans (B1.mono BW.size)
  have hlen := split_len s.data.toList
  have hx : xsBound (splitGo [] s.data.toList) := split_bound s hl
  have hlen2 : (splitGo [] s.data.toList).length ≤ 1001 := by have : s.data.toList.length = s.size := Array.length_toList; omega
  obtain ⟨xs, hxs⟩ : ∃ xs, splitGo [] s.data.toList = xs := ⟨_, rfl⟩
  rw [hxs] at ho hlen hlen2 hx
  have HXS := Words.hide hxs
  clear B1 hxs
  obtain ⟨g, cap, rfl, hc⟩ := own_cell ho 0 (by omega)
  have HO := Words.hide ho
  clear ho
  obtain ⟨x0, ex0⟩ : ∃ x0, xs.getD 0 [] = x0 := ⟨_, rfl⟩
  rw [ex0] at hc
  have EX0 := Words.hide ex0
  clear ex0
  have zB1 := zB.lt
  go_wp2_with fail
  refine (l2Op ⟨x0.toArray⟩ _).mono ?_
  rintro e w2 ⟨o, t, rfl, hop, B2⟩
  have zB2 := zB.below B2
  have hzs : w.heap.size < w2.heap.size := Nat.lt_of_lt_of_le zB1 B2.size
  replace BW := BW.trans (B2.mono BW.size)
  have HO2 := Words.hide ((own_below HO.out B2).alloc (.cells #[.int .i64 o, .int .i64 0, .int .i64 0, .int .i64 0] 24))
  have HOP := Words.hide hop
  have ho : -1 ≤ o ∧ o ≤ 15 := opOf_bd hop
  clear B2 HO hc hop hlen
  go_wp2_with fail
  refine (l2At xs _ _ 1 _ (by omega) HO2.out hlen2).mono ?_
  rintro e w3 ⟨rfl, rfl⟩
  obtain ⟨X1, eX1, b1⟩ : ∃ X : ByteArray, X = ⟨(xs.getD (Int.toNat 1) []).toArray⟩ ∧ X.size ≤ 1000 := ⟨_, rfl, part_size hx 1⟩
  rw [← eX1]
  have E1 : Hid (xs.getD 1 [] = X1.data.toList) := show _ = _ by rw [eX1]; rfl
  clear eX1
  go_wp2_with fail
  refine (l2At xs _ _ 2 _ (by omega) HO2.out hlen2).mono ?_
  rintro e w3 ⟨rfl, rfl⟩
  obtain ⟨X2, eX2, b2⟩ : ∃ X : ByteArray, X = ⟨(xs.getD (Int.toNat 2) []).toArray⟩ ∧ X.size ≤ 1000 := ⟨_, rfl, part_size hx 2⟩
  rw [← eX2]
  have E2 : Hid (xs.getD 2 [] = X2.data.toList) := show _ = _ by rw [eX2]; rfl
  clear eX2
  go_wp2_with fail
  refine (l2At xs _ _ 3 _ (by omega) HO2.out hlen2).mono ?_
  rintro e w3 ⟨rfl, rfl⟩
  obtain ⟨X3, eX3, b3⟩ : ∃ X : ByteArray, X = ⟨(xs.getD (Int.toNat 3) []).toArray⟩ ∧ X.size ≤ 1000 := ⟨_, rfl, part_size hx 3⟩
  rw [← eX3]
  have E3 : Hid (xs.getD 3 [] = X3.data.toList) := show _ = _ by rw [eX3]; rfl
  clear eX3
  have HC0 := Words.hide (only_of xs HXS.out EX0.out E1.out E2.out E3.out HOP.out)
  clear HO2 hx hlen2 HXS EX0 E1 E2 E3 HOP
  have hcase : o = -1 ∨ o = 0 ∨ o = 1 ∨ o = 2 ∨ o = 3 ∨ o = 4 ∨ o = 5 ∨ o = 6 ∨ o = 7 ∨ o = 8 ∨ o = 9 ∨ o = 10 ∨ o = 11 ∨ o = 12 ∨ o = 13 ∨ o = 14 ∨ o = 15 := by omega
  clear ho
  rcases hcase with rfl | rfl | rfl | rfl | rfl | rfl | rfl | rfl | rfl | rfl | rfl | rfl | rfl | rfl | rfl | rfl | rfl
  · go_wp2_with fail
    refine (l2RegOf X1 _ (by omega)).mono ?_
    rintro e w3 ⟨rfl, rfl⟩
    obtain ⟨d, ed⟩ : ∃ d, regOf X1.data.toList = d := ⟨_, rfl⟩
    rw [ed]
    have Ed := Words.hide ed
    clear ed
    go_wp2_with fail
    refine (l2RegOf X2 _ (by omega)).mono ?_
    rintro e w3 ⟨rfl, rfl⟩
    obtain ⟨a, ea⟩ : ∃ a, regOf X2.data.toList = a := ⟨_, rfl⟩
    rw [ea]
    have Ea := Words.hide ea
    clear ea
    have iB := Blk.new w2 (-1) (d) (a) 0 24
    replace zB : Blk w.heap.size 0 0 0 0 (w2.alloc (.cells #[.int .i64 (-1), .int .i64 (d), .int .i64 (a), .int .i64 0] 24)) := zB2.alloc _
    replace BW := BW.alloc BW.size (.cells #[.int .i64 (-1), .int .i64 (d), .int .i64 (a), .int .i64 0] 24)
    go_wp2_with fail
    refine (l2Num X3 _ (by omega)).mono ?_
    rintro e w4 ⟨rfl, hb⟩
    obtain ⟨k, ek⟩ : ∃ k, numOf X3.data.toList = k := ⟨_, rfl⟩
    rw [ek]
    have Ek := Words.hide ek
    clear ek
    replace iB := iB.below hb
    replace zB := zB.below hb
    replace BW := BW.trans (hb.mono BW.size)
    clear hb
    have iB0 := iB
    replace iB := iB.set3 k
    replace zB := zB.other (p := ⟨w2.heap.size, 3, none⟩) (.int .i64 k) (by show w2.heap.size ≠ w.heap.size; omega)
    replace BW := BW.setCell (p := ⟨w2.heap.size, 3, none⟩) (by show w.heap.size ≤ w2.heap.size; omega) (.int .i64 k)
    obtain ⟨_, j0, j1, j2, j3, _, _, _, j4⟩ := iB0
    have HC : Hid (Only s (-1) (d) (a) (k)) := show Only s (-1) (d) (a) (k) by
      have h := HC0.out
      simp [dOf, aOf, kOf] at h
      rw [Ed.out, Ea.out, Ek.out] at h
      exact h
    clear HC0 Ed Ea Ek
    go_wp2_with fail
    refine (insText (-1) (d) (a) (k) _).mono ?_
    rintro e v ⟨rfl, hb⟩
    replace iB := iB.below hb
    replace zB := zB.below hb
    replace BW := BW.trans (hb.mono BW.size)
    clear hb
    obtain ⟨_, i0, i1, i2, i3, _, _, _, _⟩ := iB
    obtain ⟨_, z0, z1, z2, z3, g0, g1, g2, g3⟩ := zB
    cases hk : okB (-1) (d) (a) (k) with
    | false =>
      have ht : itext (-1) (d) (a) (k) = ⟨#[]⟩ := by unfold itext; rw [hk]; rfl
      rw [ht]
      have HN := Words.hide (HC.out.no hk)
      clear ht hk HC
      go_wp2
      exact bodyPost_ret (v := .tuple #[.agg #[.int .i64 0, .int .i64 0, .int .i64 0, .int .i64 0], .bool false]) (by simp [results, Tryz.results7, go_sem, z0, z1, z2, z3]) rfl ⟨_, _, rfl, Or.inr ⟨rfl, rfl, HN.out⟩, (((BW.setCell (Nat.le_refl _) _).setCell (Nat.le_refl _) _).setCell (Nat.le_refl _) _).setCell (Nat.le_refl _) _⟩
    | true =>
      exact absurd hk (by simp [okB, inB])
  · have iB := Blk.new w2 (0) (0) (0) (t) 24
    replace zB : Blk w.heap.size 0 0 0 0 (w2.alloc (.cells #[.int .i64 (0), .int .i64 (0), .int .i64 (0), .int .i64 (t)] 24)) := zB2.alloc _
    replace BW := BW.alloc BW.size (.cells #[.int .i64 (0), .int .i64 (0), .int .i64 (0), .int .i64 (t)] 24)
    have HC : Hid (Only s (0) (0) (0) (t)) := show Only s (0) (0) (0) (t) by
      have h := HC0.out
      simp [dOf, aOf, kOf] at h
      exact h
    clear HC0 
    go_wp2_with fail
    refine (insText (0) (0) (0) (t) _).mono ?_
    rintro e v ⟨rfl, hb⟩
    replace iB := iB.below hb
    replace zB := zB.below hb
    replace BW := BW.trans (hb.mono BW.size)
    clear hb
    obtain ⟨_, i0, i1, i2, i3, _, _, _, _⟩ := iB
    obtain ⟨_, z0, z1, z2, z3, g0, g1, g2, g3⟩ := zB
    cases hk : okB (0) (0) (0) (t) with
    | false =>
      have ht : itext (0) (0) (0) (t) = ⟨#[]⟩ := by unfold itext; rw [hk]; rfl
      rw [ht]
      have HN := Words.hide (HC.out.no hk)
      clear ht hk HC
      go_wp2
      exact bodyPost_ret (v := .tuple #[.agg #[.int .i64 0, .int .i64 0, .int .i64 0, .int .i64 0], .bool false]) (by simp [results, Tryz.results7, go_sem, z0, z1, z2, z3]) rfl ⟨_, _, rfl, Or.inr ⟨rfl, rfl, HN.out⟩, (((BW.setCell (Nat.le_refl _) _).setCell (Nat.le_refl _) _).setCell (Nat.le_refl _) _).setCell (Nat.le_refl _) _⟩
    | true =>
      have ht : itext (0) (0) (0) (t) = textS (0) (0) (0) (t) := by unfold itext; rw [hk]; rfl
      rw [ht]
      have hne := nonempty hk
      have HK := Words.hide hk
      clear ht hk
      by_cases e : textS (0) (0) (0) (t) = s
      · rw [e] at hne ⊢
        have q1 := ne_bytes hne
        have q0 := ne_empty hne
        have q2 := eq_bytes2 s
        have HE := Words.hide e
        clear e hne HC
        go_wp2
        exact bodyPost_ret (v := .tuple #[.agg #[.int .i64 (0), .int .i64 (0), .int .i64 (0), .int .i64 (t)], .bool true]) (by simp [results, Tryz.results7, go_sem, z0, z1, z2, z3]) rfl ⟨_, _, rfl, Or.inl ⟨rfl, _, _, _, _, rfl, HK.out, HE.out⟩, (((BW.setCell (Nat.le_refl _) _).setCell (Nat.le_refl _) _).setCell (Nat.le_refl _) _).setCell (Nat.le_refl _) _⟩
      · have HN := Words.hide (HC.out.other e)
        generalize textS (0) (0) (0) (t) = tx at e hne ⊢
        have q1 := ne_bytes hne
        have q0 := ne_empty hne
        have q2 := ne_bytes e
        clear e hne HC
        go_wp2
        exact bodyPost_ret (v := .tuple #[.agg #[.int .i64 0, .int .i64 0, .int .i64 0, .int .i64 0], .bool false]) (by simp [results, Tryz.results7, go_sem, z0, z1, z2, z3]) rfl ⟨_, _, rfl, Or.inr ⟨rfl, rfl, HN.out⟩, (((BW.setCell (Nat.le_refl _) _).setCell (Nat.le_refl _) _).setCell (Nat.le_refl _) _).setCell (Nat.le_refl _) _⟩
  · go_wp2_with fail
    refine (l2RegOf X1 _ (by omega)).mono ?_
    rintro e w3 ⟨rfl, rfl⟩
    obtain ⟨d, ed⟩ : ∃ d, regOf X1.data.toList = d := ⟨_, rfl⟩
    rw [ed]
    have Ed := Words.hide ed
    clear ed
    have iB := Blk.new w2 (1) (d) (0) 0 24
    replace zB : Blk w.heap.size 0 0 0 0 (w2.alloc (.cells #[.int .i64 (1), .int .i64 (d), .int .i64 (0), .int .i64 0] 24)) := zB2.alloc _
    replace BW := BW.alloc BW.size (.cells #[.int .i64 (1), .int .i64 (d), .int .i64 (0), .int .i64 0] 24)
    go_wp2_with fail
    refine (l2Num X2 _ (by omega)).mono ?_
    rintro e w4 ⟨rfl, hb⟩
    obtain ⟨k, ek⟩ : ∃ k, numOf X2.data.toList = k := ⟨_, rfl⟩
    rw [ek]
    have Ek := Words.hide ek
    clear ek
    replace iB := iB.below hb
    replace zB := zB.below hb
    replace BW := BW.trans (hb.mono BW.size)
    clear hb
    have iB0 := iB
    replace iB := iB.set3 k
    replace zB := zB.other (p := ⟨w2.heap.size, 3, none⟩) (.int .i64 k) (by show w2.heap.size ≠ w.heap.size; omega)
    replace BW := BW.setCell (p := ⟨w2.heap.size, 3, none⟩) (by show w.heap.size ≤ w2.heap.size; omega) (.int .i64 k)
    obtain ⟨_, j0, j1, j2, j3, _, _, _, j4⟩ := iB0
    have HC : Hid (Only s (1) (d) (0) (k)) := show Only s (1) (d) (0) (k) by
      have h := HC0.out
      simp [dOf, aOf, kOf] at h
      rw [Ed.out, Ek.out] at h
      exact h
    clear HC0 Ed Ek
    go_wp2_with fail
    refine (insText (1) (d) (0) (k) _).mono ?_
    rintro e v ⟨rfl, hb⟩
    replace iB := iB.below hb
    replace zB := zB.below hb
    replace BW := BW.trans (hb.mono BW.size)
    clear hb
    obtain ⟨_, i0, i1, i2, i3, _, _, _, _⟩ := iB
    obtain ⟨_, z0, z1, z2, z3, g0, g1, g2, g3⟩ := zB
    cases hk : okB (1) (d) (0) (k) with
    | false =>
      have ht : itext (1) (d) (0) (k) = ⟨#[]⟩ := by unfold itext; rw [hk]; rfl
      rw [ht]
      have HN := Words.hide (HC.out.no hk)
      clear ht hk HC
      go_wp2
      exact bodyPost_ret (v := .tuple #[.agg #[.int .i64 0, .int .i64 0, .int .i64 0, .int .i64 0], .bool false]) (by simp [results, Tryz.results7, go_sem, z0, z1, z2, z3]) rfl ⟨_, _, rfl, Or.inr ⟨rfl, rfl, HN.out⟩, (((BW.setCell (Nat.le_refl _) _).setCell (Nat.le_refl _) _).setCell (Nat.le_refl _) _).setCell (Nat.le_refl _) _⟩
    | true =>
      have ht : itext (1) (d) (0) (k) = textS (1) (d) (0) (k) := by unfold itext; rw [hk]; rfl
      rw [ht]
      have hne := nonempty hk
      have HK := Words.hide hk
      clear ht hk
      by_cases e : textS (1) (d) (0) (k) = s
      · rw [e] at hne ⊢
        have q1 := ne_bytes hne
        have q0 := ne_empty hne
        have q2 := eq_bytes2 s
        have HE := Words.hide e
        clear e hne HC
        go_wp2
        exact bodyPost_ret (v := .tuple #[.agg #[.int .i64 (1), .int .i64 (d), .int .i64 (0), .int .i64 (k)], .bool true]) (by simp [results, Tryz.results7, go_sem, z0, z1, z2, z3]) rfl ⟨_, _, rfl, Or.inl ⟨rfl, _, _, _, _, rfl, HK.out, HE.out⟩, (((BW.setCell (Nat.le_refl _) _).setCell (Nat.le_refl _) _).setCell (Nat.le_refl _) _).setCell (Nat.le_refl _) _⟩
      · have HN := Words.hide (HC.out.other e)
        generalize textS (1) (d) (0) (k) = tx at e hne ⊢
        have q1 := ne_bytes hne
        have q0 := ne_empty hne
        have q2 := ne_bytes e
        clear e hne HC
        go_wp2
        exact bodyPost_ret (v := .tuple #[.agg #[.int .i64 0, .int .i64 0, .int .i64 0, .int .i64 0], .bool false]) (by simp [results, Tryz.results7, go_sem, z0, z1, z2, z3]) rfl ⟨_, _, rfl, Or.inr ⟨rfl, rfl, HN.out⟩, (((BW.setCell (Nat.le_refl _) _).setCell (Nat.le_refl _) _).setCell (Nat.le_refl _) _).setCell (Nat.le_refl _) _⟩
  · go_wp2_with fail
    refine (l2RegOf X1 _ (by omega)).mono ?_
    rintro e w3 ⟨rfl, rfl⟩
    obtain ⟨d, ed⟩ : ∃ d, regOf X1.data.toList = d := ⟨_, rfl⟩
    rw [ed]
    have Ed := Words.hide ed
    clear ed
    go_wp2_with fail
    refine (l2RegOf X2 _ (by omega)).mono ?_
    rintro e w3 ⟨rfl, rfl⟩
    obtain ⟨a, ea⟩ : ∃ a, regOf X2.data.toList = a := ⟨_, rfl⟩
    rw [ea]
    have Ea := Words.hide ea
    clear ea
    have iB := Blk.new w2 (2) (d) (a) (0) 24
    replace zB : Blk w.heap.size 0 0 0 0 (w2.alloc (.cells #[.int .i64 (2), .int .i64 (d), .int .i64 (a), .int .i64 (0)] 24)) := zB2.alloc _
    replace BW := BW.alloc BW.size (.cells #[.int .i64 (2), .int .i64 (d), .int .i64 (a), .int .i64 (0)] 24)
    have HC : Hid (Only s (2) (d) (a) (0)) := show Only s (2) (d) (a) (0) by
      have h := HC0.out
      simp [dOf, aOf, kOf] at h
      rw [Ed.out, Ea.out] at h
      exact h
    clear HC0 Ed Ea
    go_wp2_with fail
    refine (insText (2) (d) (a) (0) _).mono ?_
    rintro e v ⟨rfl, hb⟩
    replace iB := iB.below hb
    replace zB := zB.below hb
    replace BW := BW.trans (hb.mono BW.size)
    clear hb
    obtain ⟨_, i0, i1, i2, i3, _, _, _, _⟩ := iB
    obtain ⟨_, z0, z1, z2, z3, g0, g1, g2, g3⟩ := zB
    cases hk : okB (2) (d) (a) (0) with
    | false =>
      have ht : itext (2) (d) (a) (0) = ⟨#[]⟩ := by unfold itext; rw [hk]; rfl
      rw [ht]
      have HN := Words.hide (HC.out.no hk)
      clear ht hk HC
      go_wp2
      exact bodyPost_ret (v := .tuple #[.agg #[.int .i64 0, .int .i64 0, .int .i64 0, .int .i64 0], .bool false]) (by simp [results, Tryz.results7, go_sem, z0, z1, z2, z3]) rfl ⟨_, _, rfl, Or.inr ⟨rfl, rfl, HN.out⟩, (((BW.setCell (Nat.le_refl _) _).setCell (Nat.le_refl _) _).setCell (Nat.le_refl _) _).setCell (Nat.le_refl _) _⟩
    | true =>
      have ht : itext (2) (d) (a) (0) = textS (2) (d) (a) (0) := by unfold itext; rw [hk]; rfl
      rw [ht]
      have hne := nonempty hk
      have HK := Words.hide hk
      clear ht hk
      by_cases e : textS (2) (d) (a) (0) = s
      · rw [e] at hne ⊢
        have q1 := ne_bytes hne
        have q0 := ne_empty hne
        have q2 := eq_bytes2 s
        have HE := Words.hide e
        clear e hne HC
        go_wp2
        exact bodyPost_ret (v := .tuple #[.agg #[.int .i64 (2), .int .i64 (d), .int .i64 (a), .int .i64 (0)], .bool true]) (by simp [results, Tryz.results7, go_sem, z0, z1, z2, z3]) rfl ⟨_, _, rfl, Or.inl ⟨rfl, _, _, _, _, rfl, HK.out, HE.out⟩, (((BW.setCell (Nat.le_refl _) _).setCell (Nat.le_refl _) _).setCell (Nat.le_refl _) _).setCell (Nat.le_refl _) _⟩
      · have HN := Words.hide (HC.out.other e)
        generalize textS (2) (d) (a) (0) = tx at e hne ⊢
        have q1 := ne_bytes hne
        have q0 := ne_empty hne
        have q2 := ne_bytes e
        clear e hne HC
        go_wp2
        exact bodyPost_ret (v := .tuple #[.agg #[.int .i64 0, .int .i64 0, .int .i64 0, .int .i64 0], .bool false]) (by simp [results, Tryz.results7, go_sem, z0, z1, z2, z3]) rfl ⟨_, _, rfl, Or.inr ⟨rfl, rfl, HN.out⟩, (((BW.setCell (Nat.le_refl _) _).setCell (Nat.le_refl _) _).setCell (Nat.le_refl _) _).setCell (Nat.le_refl _) _⟩
  · go_wp2_with fail
    refine (l2RegOf X1 _ (by omega)).mono ?_
    rintro e w3 ⟨rfl, rfl⟩
    obtain ⟨d, ed⟩ : ∃ d, regOf X1.data.toList = d := ⟨_, rfl⟩
    rw [ed]
    have Ed := Words.hide ed
    clear ed
    go_wp2_with fail
    refine (l2RegOf X2 _ (by omega)).mono ?_
    rintro e w3 ⟨rfl, rfl⟩
    obtain ⟨a, ea⟩ : ∃ a, regOf X2.data.toList = a := ⟨_, rfl⟩
    rw [ea]
    have Ea := Words.hide ea
    clear ea
    go_wp2_with fail
    refine (l2RegOf X3 _ (by omega)).mono ?_
    rintro e w3 ⟨rfl, rfl⟩
    obtain ⟨k, ek⟩ : ∃ k, regOf X3.data.toList = k := ⟨_, rfl⟩
    rw [ek]
    have Ek := Words.hide ek
    clear ek
    have iB := Blk.new w2 (3) (d) (a) (k) 24
    replace zB : Blk w.heap.size 0 0 0 0 (w2.alloc (.cells #[.int .i64 (3), .int .i64 (d), .int .i64 (a), .int .i64 (k)] 24)) := zB2.alloc _
    replace BW := BW.alloc BW.size (.cells #[.int .i64 (3), .int .i64 (d), .int .i64 (a), .int .i64 (k)] 24)
    have HC : Hid (Only s (3) (d) (a) (k)) := show Only s (3) (d) (a) (k) by
      have h := HC0.out
      simp [dOf, aOf, kOf] at h
      rw [Ed.out, Ea.out, Ek.out] at h
      exact h
    clear HC0 Ed Ea Ek
    go_wp2_with fail
    refine (insText (3) (d) (a) (k) _).mono ?_
    rintro e v ⟨rfl, hb⟩
    replace iB := iB.below hb
    replace zB := zB.below hb
    replace BW := BW.trans (hb.mono BW.size)
    clear hb
    obtain ⟨_, i0, i1, i2, i3, _, _, _, _⟩ := iB
    obtain ⟨_, z0, z1, z2, z3, g0, g1, g2, g3⟩ := zB
    cases hk : okB (3) (d) (a) (k) with
    | false =>
      have ht : itext (3) (d) (a) (k) = ⟨#[]⟩ := by unfold itext; rw [hk]; rfl
      rw [ht]
      have HN := Words.hide (HC.out.no hk)
      clear ht hk HC
      go_wp2
      exact bodyPost_ret (v := .tuple #[.agg #[.int .i64 0, .int .i64 0, .int .i64 0, .int .i64 0], .bool false]) (by simp [results, Tryz.results7, go_sem, z0, z1, z2, z3]) rfl ⟨_, _, rfl, Or.inr ⟨rfl, rfl, HN.out⟩, (((BW.setCell (Nat.le_refl _) _).setCell (Nat.le_refl _) _).setCell (Nat.le_refl _) _).setCell (Nat.le_refl _) _⟩
    | true =>
      have ht : itext (3) (d) (a) (k) = textS (3) (d) (a) (k) := by unfold itext; rw [hk]; rfl
      rw [ht]
      have hne := nonempty hk
      have HK := Words.hide hk
      clear ht hk
      by_cases e : textS (3) (d) (a) (k) = s
      · rw [e] at hne ⊢
        have q1 := ne_bytes hne
        have q0 := ne_empty hne
        have q2 := eq_bytes2 s
        have HE := Words.hide e
        clear e hne HC
        go_wp2
        exact bodyPost_ret (v := .tuple #[.agg #[.int .i64 (3), .int .i64 (d), .int .i64 (a), .int .i64 (k)], .bool true]) (by simp [results, Tryz.results7, go_sem, z0, z1, z2, z3]) rfl ⟨_, _, rfl, Or.inl ⟨rfl, _, _, _, _, rfl, HK.out, HE.out⟩, (((BW.setCell (Nat.le_refl _) _).setCell (Nat.le_refl _) _).setCell (Nat.le_refl _) _).setCell (Nat.le_refl _) _⟩
      · have HN := Words.hide (HC.out.other e)
        generalize textS (3) (d) (a) (k) = tx at e hne ⊢
        have q1 := ne_bytes hne
        have q0 := ne_empty hne
        have q2 := ne_bytes e
        clear e hne HC
        go_wp2
        exact bodyPost_ret (v := .tuple #[.agg #[.int .i64 0, .int .i64 0, .int .i64 0, .int .i64 0], .bool false]) (by simp [results, Tryz.results7, go_sem, z0, z1, z2, z3]) rfl ⟨_, _, rfl, Or.inr ⟨rfl, rfl, HN.out⟩, (((BW.setCell (Nat.le_refl _) _).setCell (Nat.le_refl _) _).setCell (Nat.le_refl _) _).setCell (Nat.le_refl _) _⟩
  · go_wp2_with fail
    refine (l2RegOf X1 _ (by omega)).mono ?_
    rintro e w3 ⟨rfl, rfl⟩
    obtain ⟨d, ed⟩ : ∃ d, regOf X1.data.toList = d := ⟨_, rfl⟩
    rw [ed]
    have Ed := Words.hide ed
    clear ed
    go_wp2_with fail
    refine (l2RegOf X2 _ (by omega)).mono ?_
    rintro e w3 ⟨rfl, rfl⟩
    obtain ⟨a, ea⟩ : ∃ a, regOf X2.data.toList = a := ⟨_, rfl⟩
    rw [ea]
    have Ea := Words.hide ea
    clear ea
    go_wp2_with fail
    refine (l2RegOf X3 _ (by omega)).mono ?_
    rintro e w3 ⟨rfl, rfl⟩
    obtain ⟨k, ek⟩ : ∃ k, regOf X3.data.toList = k := ⟨_, rfl⟩
    rw [ek]
    have Ek := Words.hide ek
    clear ek
    have iB := Blk.new w2 (4) (d) (a) (k) 24
    replace zB : Blk w.heap.size 0 0 0 0 (w2.alloc (.cells #[.int .i64 (4), .int .i64 (d), .int .i64 (a), .int .i64 (k)] 24)) := zB2.alloc _
    replace BW := BW.alloc BW.size (.cells #[.int .i64 (4), .int .i64 (d), .int .i64 (a), .int .i64 (k)] 24)
    have HC : Hid (Only s (4) (d) (a) (k)) := show Only s (4) (d) (a) (k) by
      have h := HC0.out
      simp [dOf, aOf, kOf] at h
      rw [Ed.out, Ea.out, Ek.out] at h
      exact h
    clear HC0 Ed Ea Ek
    go_wp2_with fail
    refine (insText (4) (d) (a) (k) _).mono ?_
    rintro e v ⟨rfl, hb⟩
    replace iB := iB.below hb
    replace zB := zB.below hb
    replace BW := BW.trans (hb.mono BW.size)
    clear hb
    obtain ⟨_, i0, i1, i2, i3, _, _, _, _⟩ := iB
    obtain ⟨_, z0, z1, z2, z3, g0, g1, g2, g3⟩ := zB
    cases hk : okB (4) (d) (a) (k) with
    | false =>
      have ht : itext (4) (d) (a) (k) = ⟨#[]⟩ := by unfold itext; rw [hk]; rfl
      rw [ht]
      have HN := Words.hide (HC.out.no hk)
      clear ht hk HC
      go_wp2
      exact bodyPost_ret (v := .tuple #[.agg #[.int .i64 0, .int .i64 0, .int .i64 0, .int .i64 0], .bool false]) (by simp [results, Tryz.results7, go_sem, z0, z1, z2, z3]) rfl ⟨_, _, rfl, Or.inr ⟨rfl, rfl, HN.out⟩, (((BW.setCell (Nat.le_refl _) _).setCell (Nat.le_refl _) _).setCell (Nat.le_refl _) _).setCell (Nat.le_refl _) _⟩
    | true =>
      have ht : itext (4) (d) (a) (k) = textS (4) (d) (a) (k) := by unfold itext; rw [hk]; rfl
      rw [ht]
      have hne := nonempty hk
      have HK := Words.hide hk
      clear ht hk
      by_cases e : textS (4) (d) (a) (k) = s
      · rw [e] at hne ⊢
        have q1 := ne_bytes hne
        have q0 := ne_empty hne
        have q2 := eq_bytes2 s
        have HE := Words.hide e
        clear e hne HC
        go_wp2
        exact bodyPost_ret (v := .tuple #[.agg #[.int .i64 (4), .int .i64 (d), .int .i64 (a), .int .i64 (k)], .bool true]) (by simp [results, Tryz.results7, go_sem, z0, z1, z2, z3]) rfl ⟨_, _, rfl, Or.inl ⟨rfl, _, _, _, _, rfl, HK.out, HE.out⟩, (((BW.setCell (Nat.le_refl _) _).setCell (Nat.le_refl _) _).setCell (Nat.le_refl _) _).setCell (Nat.le_refl _) _⟩
      · have HN := Words.hide (HC.out.other e)
        generalize textS (4) (d) (a) (k) = tx at e hne ⊢
        have q1 := ne_bytes hne
        have q0 := ne_empty hne
        have q2 := ne_bytes e
        clear e hne HC
        go_wp2
        exact bodyPost_ret (v := .tuple #[.agg #[.int .i64 0, .int .i64 0, .int .i64 0, .int .i64 0], .bool false]) (by simp [results, Tryz.results7, go_sem, z0, z1, z2, z3]) rfl ⟨_, _, rfl, Or.inr ⟨rfl, rfl, HN.out⟩, (((BW.setCell (Nat.le_refl _) _).setCell (Nat.le_refl _) _).setCell (Nat.le_refl _) _).setCell (Nat.le_refl _) _⟩
  · go_wp2_with fail
    refine (l2RegOf X1 _ (by omega)).mono ?_
    rintro e w3 ⟨rfl, rfl⟩
    obtain ⟨d, ed⟩ : ∃ d, regOf X1.data.toList = d := ⟨_, rfl⟩
    rw [ed]
    have Ed := Words.hide ed
    clear ed
    go_wp2_with fail
    refine (l2RegOf X2 _ (by omega)).mono ?_
    rintro e w3 ⟨rfl, rfl⟩
    obtain ⟨a, ea⟩ : ∃ a, regOf X2.data.toList = a := ⟨_, rfl⟩
    rw [ea]
    have Ea := Words.hide ea
    clear ea
    go_wp2_with fail
    refine (l2RegOf X3 _ (by omega)).mono ?_
    rintro e w3 ⟨rfl, rfl⟩
    obtain ⟨k, ek⟩ : ∃ k, regOf X3.data.toList = k := ⟨_, rfl⟩
    rw [ek]
    have Ek := Words.hide ek
    clear ek
    have iB := Blk.new w2 (5) (d) (a) (k) 24
    replace zB : Blk w.heap.size 0 0 0 0 (w2.alloc (.cells #[.int .i64 (5), .int .i64 (d), .int .i64 (a), .int .i64 (k)] 24)) := zB2.alloc _
    replace BW := BW.alloc BW.size (.cells #[.int .i64 (5), .int .i64 (d), .int .i64 (a), .int .i64 (k)] 24)
    have HC : Hid (Only s (5) (d) (a) (k)) := show Only s (5) (d) (a) (k) by
      have h := HC0.out
      simp [dOf, aOf, kOf] at h
      rw [Ed.out, Ea.out, Ek.out] at h
      exact h
    clear HC0 Ed Ea Ek
    go_wp2_with fail
    refine (insText (5) (d) (a) (k) _).mono ?_
    rintro e v ⟨rfl, hb⟩
    replace iB := iB.below hb
    replace zB := zB.below hb
    replace BW := BW.trans (hb.mono BW.size)
    clear hb
    obtain ⟨_, i0, i1, i2, i3, _, _, _, _⟩ := iB
    obtain ⟨_, z0, z1, z2, z3, g0, g1, g2, g3⟩ := zB
    cases hk : okB (5) (d) (a) (k) with
    | false =>
      have ht : itext (5) (d) (a) (k) = ⟨#[]⟩ := by unfold itext; rw [hk]; rfl
      rw [ht]
      have HN := Words.hide (HC.out.no hk)
      clear ht hk HC
      go_wp2
      exact bodyPost_ret (v := .tuple #[.agg #[.int .i64 0, .int .i64 0, .int .i64 0, .int .i64 0], .bool false]) (by simp [results, Tryz.results7, go_sem, z0, z1, z2, z3]) rfl ⟨_, _, rfl, Or.inr ⟨rfl, rfl, HN.out⟩, (((BW.setCell (Nat.le_refl _) _).setCell (Nat.le_refl _) _).setCell (Nat.le_refl _) _).setCell (Nat.le_refl _) _⟩
    | true =>
      have ht : itext (5) (d) (a) (k) = textS (5) (d) (a) (k) := by unfold itext; rw [hk]; rfl
      rw [ht]
      have hne := nonempty hk
      have HK := Words.hide hk
      clear ht hk
      by_cases e : textS (5) (d) (a) (k) = s
      · rw [e] at hne ⊢
        have q1 := ne_bytes hne
        have q0 := ne_empty hne
        have q2 := eq_bytes2 s
        have HE := Words.hide e
        clear e hne HC
        go_wp2
        exact bodyPost_ret (v := .tuple #[.agg #[.int .i64 (5), .int .i64 (d), .int .i64 (a), .int .i64 (k)], .bool true]) (by simp [results, Tryz.results7, go_sem, z0, z1, z2, z3]) rfl ⟨_, _, rfl, Or.inl ⟨rfl, _, _, _, _, rfl, HK.out, HE.out⟩, (((BW.setCell (Nat.le_refl _) _).setCell (Nat.le_refl _) _).setCell (Nat.le_refl _) _).setCell (Nat.le_refl _) _⟩
      · have HN := Words.hide (HC.out.other e)
        generalize textS (5) (d) (a) (k) = tx at e hne ⊢
        have q1 := ne_bytes hne
        have q0 := ne_empty hne
        have q2 := ne_bytes e
        clear e hne HC
        go_wp2
        exact bodyPost_ret (v := .tuple #[.agg #[.int .i64 0, .int .i64 0, .int .i64 0, .int .i64 0], .bool false]) (by simp [results, Tryz.results7, go_sem, z0, z1, z2, z3]) rfl ⟨_, _, rfl, Or.inr ⟨rfl, rfl, HN.out⟩, (((BW.setCell (Nat.le_refl _) _).setCell (Nat.le_refl _) _).setCell (Nat.le_refl _) _).setCell (Nat.le_refl _) _⟩
  · go_wp2_with fail
    refine (l2RegOf X1 _ (by omega)).mono ?_
    rintro e w3 ⟨rfl, rfl⟩
    obtain ⟨d, ed⟩ : ∃ d, regOf X1.data.toList = d := ⟨_, rfl⟩
    rw [ed]
    have Ed := Words.hide ed
    clear ed
    go_wp2_with fail
    refine (l2RegOf X2 _ (by omega)).mono ?_
    rintro e w3 ⟨rfl, rfl⟩
    obtain ⟨a, ea⟩ : ∃ a, regOf X2.data.toList = a := ⟨_, rfl⟩
    rw [ea]
    have Ea := Words.hide ea
    clear ea
    go_wp2_with fail
    refine (l2RegOf X3 _ (by omega)).mono ?_
    rintro e w3 ⟨rfl, rfl⟩
    obtain ⟨k, ek⟩ : ∃ k, regOf X3.data.toList = k := ⟨_, rfl⟩
    rw [ek]
    have Ek := Words.hide ek
    clear ek
    have iB := Blk.new w2 (6) (d) (a) (k) 24
    replace zB : Blk w.heap.size 0 0 0 0 (w2.alloc (.cells #[.int .i64 (6), .int .i64 (d), .int .i64 (a), .int .i64 (k)] 24)) := zB2.alloc _
    replace BW := BW.alloc BW.size (.cells #[.int .i64 (6), .int .i64 (d), .int .i64 (a), .int .i64 (k)] 24)
    have HC : Hid (Only s (6) (d) (a) (k)) := show Only s (6) (d) (a) (k) by
      have h := HC0.out
      simp [dOf, aOf, kOf] at h
      rw [Ed.out, Ea.out, Ek.out] at h
      exact h
    clear HC0 Ed Ea Ek
    go_wp2_with fail
    refine (insText (6) (d) (a) (k) _).mono ?_
    rintro e v ⟨rfl, hb⟩
    replace iB := iB.below hb
    replace zB := zB.below hb
    replace BW := BW.trans (hb.mono BW.size)
    clear hb
    obtain ⟨_, i0, i1, i2, i3, _, _, _, _⟩ := iB
    obtain ⟨_, z0, z1, z2, z3, g0, g1, g2, g3⟩ := zB
    cases hk : okB (6) (d) (a) (k) with
    | false =>
      have ht : itext (6) (d) (a) (k) = ⟨#[]⟩ := by unfold itext; rw [hk]; rfl
      rw [ht]
      have HN := Words.hide (HC.out.no hk)
      clear ht hk HC
      go_wp2
      exact bodyPost_ret (v := .tuple #[.agg #[.int .i64 0, .int .i64 0, .int .i64 0, .int .i64 0], .bool false]) (by simp [results, Tryz.results7, go_sem, z0, z1, z2, z3]) rfl ⟨_, _, rfl, Or.inr ⟨rfl, rfl, HN.out⟩, (((BW.setCell (Nat.le_refl _) _).setCell (Nat.le_refl _) _).setCell (Nat.le_refl _) _).setCell (Nat.le_refl _) _⟩
    | true =>
      have ht : itext (6) (d) (a) (k) = textS (6) (d) (a) (k) := by unfold itext; rw [hk]; rfl
      rw [ht]
      have hne := nonempty hk
      have HK := Words.hide hk
      clear ht hk
      by_cases e : textS (6) (d) (a) (k) = s
      · rw [e] at hne ⊢
        have q1 := ne_bytes hne
        have q0 := ne_empty hne
        have q2 := eq_bytes2 s
        have HE := Words.hide e
        clear e hne HC
        go_wp2
        exact bodyPost_ret (v := .tuple #[.agg #[.int .i64 (6), .int .i64 (d), .int .i64 (a), .int .i64 (k)], .bool true]) (by simp [results, Tryz.results7, go_sem, z0, z1, z2, z3]) rfl ⟨_, _, rfl, Or.inl ⟨rfl, _, _, _, _, rfl, HK.out, HE.out⟩, (((BW.setCell (Nat.le_refl _) _).setCell (Nat.le_refl _) _).setCell (Nat.le_refl _) _).setCell (Nat.le_refl _) _⟩
      · have HN := Words.hide (HC.out.other e)
        generalize textS (6) (d) (a) (k) = tx at e hne ⊢
        have q1 := ne_bytes hne
        have q0 := ne_empty hne
        have q2 := ne_bytes e
        clear e hne HC
        go_wp2
        exact bodyPost_ret (v := .tuple #[.agg #[.int .i64 0, .int .i64 0, .int .i64 0, .int .i64 0], .bool false]) (by simp [results, Tryz.results7, go_sem, z0, z1, z2, z3]) rfl ⟨_, _, rfl, Or.inr ⟨rfl, rfl, HN.out⟩, (((BW.setCell (Nat.le_refl _) _).setCell (Nat.le_refl _) _).setCell (Nat.le_refl _) _).setCell (Nat.le_refl _) _⟩
  · go_wp2_with fail
    refine (l2RegOf X1 _ (by omega)).mono ?_
    rintro e w3 ⟨rfl, rfl⟩
    obtain ⟨d, ed⟩ : ∃ d, regOf X1.data.toList = d := ⟨_, rfl⟩
    rw [ed]
    have Ed := Words.hide ed
    clear ed
    go_wp2_with fail
    refine (l2RegOf X2 _ (by omega)).mono ?_
    rintro e w3 ⟨rfl, rfl⟩
    obtain ⟨a, ea⟩ : ∃ a, regOf X2.data.toList = a := ⟨_, rfl⟩
    rw [ea]
    have Ea := Words.hide ea
    clear ea
    go_wp2_with fail
    refine (l2RegOf X3 _ (by omega)).mono ?_
    rintro e w3 ⟨rfl, rfl⟩
    obtain ⟨k, ek⟩ : ∃ k, regOf X3.data.toList = k := ⟨_, rfl⟩
    rw [ek]
    have Ek := Words.hide ek
    clear ek
    have iB := Blk.new w2 (7) (d) (a) (k) 24
    replace zB : Blk w.heap.size 0 0 0 0 (w2.alloc (.cells #[.int .i64 (7), .int .i64 (d), .int .i64 (a), .int .i64 (k)] 24)) := zB2.alloc _
    replace BW := BW.alloc BW.size (.cells #[.int .i64 (7), .int .i64 (d), .int .i64 (a), .int .i64 (k)] 24)
    have HC : Hid (Only s (7) (d) (a) (k)) := show Only s (7) (d) (a) (k) by
      have h := HC0.out
      simp [dOf, aOf, kOf] at h
      rw [Ed.out, Ea.out, Ek.out] at h
      exact h
    clear HC0 Ed Ea Ek
    go_wp2_with fail
    refine (insText (7) (d) (a) (k) _).mono ?_
    rintro e v ⟨rfl, hb⟩
    replace iB := iB.below hb
    replace zB := zB.below hb
    replace BW := BW.trans (hb.mono BW.size)
    clear hb
    obtain ⟨_, i0, i1, i2, i3, _, _, _, _⟩ := iB
    obtain ⟨_, z0, z1, z2, z3, g0, g1, g2, g3⟩ := zB
    cases hk : okB (7) (d) (a) (k) with
    | false =>
      have ht : itext (7) (d) (a) (k) = ⟨#[]⟩ := by unfold itext; rw [hk]; rfl
      rw [ht]
      have HN := Words.hide (HC.out.no hk)
      clear ht hk HC
      go_wp2
      exact bodyPost_ret (v := .tuple #[.agg #[.int .i64 0, .int .i64 0, .int .i64 0, .int .i64 0], .bool false]) (by simp [results, Tryz.results7, go_sem, z0, z1, z2, z3]) rfl ⟨_, _, rfl, Or.inr ⟨rfl, rfl, HN.out⟩, (((BW.setCell (Nat.le_refl _) _).setCell (Nat.le_refl _) _).setCell (Nat.le_refl _) _).setCell (Nat.le_refl _) _⟩
    | true =>
      have ht : itext (7) (d) (a) (k) = textS (7) (d) (a) (k) := by unfold itext; rw [hk]; rfl
      rw [ht]
      have hne := nonempty hk
      have HK := Words.hide hk
      clear ht hk
      by_cases e : textS (7) (d) (a) (k) = s
      · rw [e] at hne ⊢
        have q1 := ne_bytes hne
        have q0 := ne_empty hne
        have q2 := eq_bytes2 s
        have HE := Words.hide e
        clear e hne HC
        go_wp2
        exact bodyPost_ret (v := .tuple #[.agg #[.int .i64 (7), .int .i64 (d), .int .i64 (a), .int .i64 (k)], .bool true]) (by simp [results, Tryz.results7, go_sem, z0, z1, z2, z3]) rfl ⟨_, _, rfl, Or.inl ⟨rfl, _, _, _, _, rfl, HK.out, HE.out⟩, (((BW.setCell (Nat.le_refl _) _).setCell (Nat.le_refl _) _).setCell (Nat.le_refl _) _).setCell (Nat.le_refl _) _⟩
      · have HN := Words.hide (HC.out.other e)
        generalize textS (7) (d) (a) (k) = tx at e hne ⊢
        have q1 := ne_bytes hne
        have q0 := ne_empty hne
        have q2 := ne_bytes e
        clear e hne HC
        go_wp2
        exact bodyPost_ret (v := .tuple #[.agg #[.int .i64 0, .int .i64 0, .int .i64 0, .int .i64 0], .bool false]) (by simp [results, Tryz.results7, go_sem, z0, z1, z2, z3]) rfl ⟨_, _, rfl, Or.inr ⟨rfl, rfl, HN.out⟩, (((BW.setCell (Nat.le_refl _) _).setCell (Nat.le_refl _) _).setCell (Nat.le_refl _) _).setCell (Nat.le_refl _) _⟩
  · go_wp2_with fail
    refine (l2RegOf X1 _ (by omega)).mono ?_
    rintro e w3 ⟨rfl, rfl⟩
    obtain ⟨d, ed⟩ : ∃ d, regOf X1.data.toList = d := ⟨_, rfl⟩
    rw [ed]
    have Ed := Words.hide ed
    clear ed
    go_wp2_with fail
    refine (l2RegOf X2 _ (by omega)).mono ?_
    rintro e w3 ⟨rfl, rfl⟩
    obtain ⟨a, ea⟩ : ∃ a, regOf X2.data.toList = a := ⟨_, rfl⟩
    rw [ea]
    have Ea := Words.hide ea
    clear ea
    have iB := Blk.new w2 (8) (d) (a) 0 24
    replace zB : Blk w.heap.size 0 0 0 0 (w2.alloc (.cells #[.int .i64 (8), .int .i64 (d), .int .i64 (a), .int .i64 0] 24)) := zB2.alloc _
    replace BW := BW.alloc BW.size (.cells #[.int .i64 (8), .int .i64 (d), .int .i64 (a), .int .i64 0] 24)
    go_wp2_with fail
    refine (l2Num X3 _ (by omega)).mono ?_
    rintro e w4 ⟨rfl, hb⟩
    obtain ⟨k, ek⟩ : ∃ k, numOf X3.data.toList = k := ⟨_, rfl⟩
    rw [ek]
    have Ek := Words.hide ek
    clear ek
    replace iB := iB.below hb
    replace zB := zB.below hb
    replace BW := BW.trans (hb.mono BW.size)
    clear hb
    have iB0 := iB
    replace iB := iB.set3 k
    replace zB := zB.other (p := ⟨w2.heap.size, 3, none⟩) (.int .i64 k) (by show w2.heap.size ≠ w.heap.size; omega)
    replace BW := BW.setCell (p := ⟨w2.heap.size, 3, none⟩) (by show w.heap.size ≤ w2.heap.size; omega) (.int .i64 k)
    obtain ⟨_, j0, j1, j2, j3, _, _, _, j4⟩ := iB0
    have HC : Hid (Only s (8) (d) (a) (k)) := show Only s (8) (d) (a) (k) by
      have h := HC0.out
      simp [dOf, aOf, kOf] at h
      rw [Ed.out, Ea.out, Ek.out] at h
      exact h
    clear HC0 Ed Ea Ek
    go_wp2_with fail
    refine (insText (8) (d) (a) (k) _).mono ?_
    rintro e v ⟨rfl, hb⟩
    replace iB := iB.below hb
    replace zB := zB.below hb
    replace BW := BW.trans (hb.mono BW.size)
    clear hb
    obtain ⟨_, i0, i1, i2, i3, _, _, _, _⟩ := iB
    obtain ⟨_, z0, z1, z2, z3, g0, g1, g2, g3⟩ := zB
    cases hk : okB (8) (d) (a) (k) with
    | false =>
      have ht : itext (8) (d) (a) (k) = ⟨#[]⟩ := by unfold itext; rw [hk]; rfl
      rw [ht]
      have HN := Words.hide (HC.out.no hk)
      clear ht hk HC
      go_wp2
      exact bodyPost_ret (v := .tuple #[.agg #[.int .i64 0, .int .i64 0, .int .i64 0, .int .i64 0], .bool false]) (by simp [results, Tryz.results7, go_sem, z0, z1, z2, z3]) rfl ⟨_, _, rfl, Or.inr ⟨rfl, rfl, HN.out⟩, (((BW.setCell (Nat.le_refl _) _).setCell (Nat.le_refl _) _).setCell (Nat.le_refl _) _).setCell (Nat.le_refl _) _⟩
    | true =>
      have ht : itext (8) (d) (a) (k) = textS (8) (d) (a) (k) := by unfold itext; rw [hk]; rfl
      rw [ht]
      have hne := nonempty hk
      have HK := Words.hide hk
      clear ht hk
      by_cases e : textS (8) (d) (a) (k) = s
      · rw [e] at hne ⊢
        have q1 := ne_bytes hne
        have q0 := ne_empty hne
        have q2 := eq_bytes2 s
        have HE := Words.hide e
        clear e hne HC
        go_wp2
        exact bodyPost_ret (v := .tuple #[.agg #[.int .i64 (8), .int .i64 (d), .int .i64 (a), .int .i64 (k)], .bool true]) (by simp [results, Tryz.results7, go_sem, z0, z1, z2, z3]) rfl ⟨_, _, rfl, Or.inl ⟨rfl, _, _, _, _, rfl, HK.out, HE.out⟩, (((BW.setCell (Nat.le_refl _) _).setCell (Nat.le_refl _) _).setCell (Nat.le_refl _) _).setCell (Nat.le_refl _) _⟩
      · have HN := Words.hide (HC.out.other e)
        generalize textS (8) (d) (a) (k) = tx at e hne ⊢
        have q1 := ne_bytes hne
        have q0 := ne_empty hne
        have q2 := ne_bytes e
        clear e hne HC
        go_wp2
        exact bodyPost_ret (v := .tuple #[.agg #[.int .i64 0, .int .i64 0, .int .i64 0, .int .i64 0], .bool false]) (by simp [results, Tryz.results7, go_sem, z0, z1, z2, z3]) rfl ⟨_, _, rfl, Or.inr ⟨rfl, rfl, HN.out⟩, (((BW.setCell (Nat.le_refl _) _).setCell (Nat.le_refl _) _).setCell (Nat.le_refl _) _).setCell (Nat.le_refl _) _⟩
  · go_wp2_with fail
    refine (l2RegOf X1 _ (by omega)).mono ?_
    rintro e w3 ⟨rfl, rfl⟩
    obtain ⟨d, ed⟩ : ∃ d, regOf X1.data.toList = d := ⟨_, rfl⟩
    rw [ed]
    have Ed := Words.hide ed
    clear ed
    go_wp2_with fail
    refine (l2RegOf X2 _ (by omega)).mono ?_
    rintro e w3 ⟨rfl, rfl⟩
    obtain ⟨a, ea⟩ : ∃ a, regOf X2.data.toList = a := ⟨_, rfl⟩
    rw [ea]
    have Ea := Words.hide ea
    clear ea
    have iB := Blk.new w2 (9) (d) (a) 0 24
    replace zB : Blk w.heap.size 0 0 0 0 (w2.alloc (.cells #[.int .i64 (9), .int .i64 (d), .int .i64 (a), .int .i64 0] 24)) := zB2.alloc _
    replace BW := BW.alloc BW.size (.cells #[.int .i64 (9), .int .i64 (d), .int .i64 (a), .int .i64 0] 24)
    go_wp2_with fail
    refine (l2Num X3 _ (by omega)).mono ?_
    rintro e w4 ⟨rfl, hb⟩
    obtain ⟨k, ek⟩ : ∃ k, numOf X3.data.toList = k := ⟨_, rfl⟩
    rw [ek]
    have Ek := Words.hide ek
    clear ek
    replace iB := iB.below hb
    replace zB := zB.below hb
    replace BW := BW.trans (hb.mono BW.size)
    clear hb
    have iB0 := iB
    replace iB := iB.set3 k
    replace zB := zB.other (p := ⟨w2.heap.size, 3, none⟩) (.int .i64 k) (by show w2.heap.size ≠ w.heap.size; omega)
    replace BW := BW.setCell (p := ⟨w2.heap.size, 3, none⟩) (by show w.heap.size ≤ w2.heap.size; omega) (.int .i64 k)
    obtain ⟨_, j0, j1, j2, j3, _, _, _, j4⟩ := iB0
    have HC : Hid (Only s (9) (d) (a) (k)) := show Only s (9) (d) (a) (k) by
      have h := HC0.out
      simp [dOf, aOf, kOf] at h
      rw [Ed.out, Ea.out, Ek.out] at h
      exact h
    clear HC0 Ed Ea Ek
    go_wp2_with fail
    refine (insText (9) (d) (a) (k) _).mono ?_
    rintro e v ⟨rfl, hb⟩
    replace iB := iB.below hb
    replace zB := zB.below hb
    replace BW := BW.trans (hb.mono BW.size)
    clear hb
    obtain ⟨_, i0, i1, i2, i3, _, _, _, _⟩ := iB
    obtain ⟨_, z0, z1, z2, z3, g0, g1, g2, g3⟩ := zB
    cases hk : okB (9) (d) (a) (k) with
    | false =>
      have ht : itext (9) (d) (a) (k) = ⟨#[]⟩ := by unfold itext; rw [hk]; rfl
      rw [ht]
      have HN := Words.hide (HC.out.no hk)
      clear ht hk HC
      go_wp2
      exact bodyPost_ret (v := .tuple #[.agg #[.int .i64 0, .int .i64 0, .int .i64 0, .int .i64 0], .bool false]) (by simp [results, Tryz.results7, go_sem, z0, z1, z2, z3]) rfl ⟨_, _, rfl, Or.inr ⟨rfl, rfl, HN.out⟩, (((BW.setCell (Nat.le_refl _) _).setCell (Nat.le_refl _) _).setCell (Nat.le_refl _) _).setCell (Nat.le_refl _) _⟩
    | true =>
      have ht : itext (9) (d) (a) (k) = textS (9) (d) (a) (k) := by unfold itext; rw [hk]; rfl
      rw [ht]
      have hne := nonempty hk
      have HK := Words.hide hk
      clear ht hk
      by_cases e : textS (9) (d) (a) (k) = s
      · rw [e] at hne ⊢
        have q1 := ne_bytes hne
        have q0 := ne_empty hne
        have q2 := eq_bytes2 s
        have HE := Words.hide e
        clear e hne HC
        go_wp2
        exact bodyPost_ret (v := .tuple #[.agg #[.int .i64 (9), .int .i64 (d), .int .i64 (a), .int .i64 (k)], .bool true]) (by simp [results, Tryz.results7, go_sem, z0, z1, z2, z3]) rfl ⟨_, _, rfl, Or.inl ⟨rfl, _, _, _, _, rfl, HK.out, HE.out⟩, (((BW.setCell (Nat.le_refl _) _).setCell (Nat.le_refl _) _).setCell (Nat.le_refl _) _).setCell (Nat.le_refl _) _⟩
      · have HN := Words.hide (HC.out.other e)
        generalize textS (9) (d) (a) (k) = tx at e hne ⊢
        have q1 := ne_bytes hne
        have q0 := ne_empty hne
        have q2 := ne_bytes e
        clear e hne HC
        go_wp2
        exact bodyPost_ret (v := .tuple #[.agg #[.int .i64 0, .int .i64 0, .int .i64 0, .int .i64 0], .bool false]) (by simp [results, Tryz.results7, go_sem, z0, z1, z2, z3]) rfl ⟨_, _, rfl, Or.inr ⟨rfl, rfl, HN.out⟩, (((BW.setCell (Nat.le_refl _) _).setCell (Nat.le_refl _) _).setCell (Nat.le_refl _) _).setCell (Nat.le_refl _) _⟩
  · go_wp2_with fail
    refine (l2RegOf X1 _ (by omega)).mono ?_
    rintro e w3 ⟨rfl, rfl⟩
    obtain ⟨d, ed⟩ : ∃ d, regOf X1.data.toList = d := ⟨_, rfl⟩
    rw [ed]
    have Ed := Words.hide ed
    clear ed
    go_wp2_with fail
    refine (l2RegOf X2 _ (by omega)).mono ?_
    rintro e w3 ⟨rfl, rfl⟩
    obtain ⟨a, ea⟩ : ∃ a, regOf X2.data.toList = a := ⟨_, rfl⟩
    rw [ea]
    have Ea := Words.hide ea
    clear ea
    have iB := Blk.new w2 (10) (d) (a) 0 24
    replace zB : Blk w.heap.size 0 0 0 0 (w2.alloc (.cells #[.int .i64 (10), .int .i64 (d), .int .i64 (a), .int .i64 0] 24)) := zB2.alloc _
    replace BW := BW.alloc BW.size (.cells #[.int .i64 (10), .int .i64 (d), .int .i64 (a), .int .i64 0] 24)
    go_wp2_with fail
    refine (l2Num X3 _ (by omega)).mono ?_
    rintro e w4 ⟨rfl, hb⟩
    obtain ⟨k, ek⟩ : ∃ k, numOf X3.data.toList = k := ⟨_, rfl⟩
    rw [ek]
    have Ek := Words.hide ek
    clear ek
    replace iB := iB.below hb
    replace zB := zB.below hb
    replace BW := BW.trans (hb.mono BW.size)
    clear hb
    have iB0 := iB
    replace iB := iB.set3 k
    replace zB := zB.other (p := ⟨w2.heap.size, 3, none⟩) (.int .i64 k) (by show w2.heap.size ≠ w.heap.size; omega)
    replace BW := BW.setCell (p := ⟨w2.heap.size, 3, none⟩) (by show w.heap.size ≤ w2.heap.size; omega) (.int .i64 k)
    obtain ⟨_, j0, j1, j2, j3, _, _, _, j4⟩ := iB0
    have HC : Hid (Only s (10) (d) (a) (k)) := show Only s (10) (d) (a) (k) by
      have h := HC0.out
      simp [dOf, aOf, kOf] at h
      rw [Ed.out, Ea.out, Ek.out] at h
      exact h
    clear HC0 Ed Ea Ek
    go_wp2_with fail
    refine (insText (10) (d) (a) (k) _).mono ?_
    rintro e v ⟨rfl, hb⟩
    replace iB := iB.below hb
    replace zB := zB.below hb
    replace BW := BW.trans (hb.mono BW.size)
    clear hb
    obtain ⟨_, i0, i1, i2, i3, _, _, _, _⟩ := iB
    obtain ⟨_, z0, z1, z2, z3, g0, g1, g2, g3⟩ := zB
    cases hk : okB (10) (d) (a) (k) with
    | false =>
      have ht : itext (10) (d) (a) (k) = ⟨#[]⟩ := by unfold itext; rw [hk]; rfl
      rw [ht]
      have HN := Words.hide (HC.out.no hk)
      clear ht hk HC
      go_wp2
      exact bodyPost_ret (v := .tuple #[.agg #[.int .i64 0, .int .i64 0, .int .i64 0, .int .i64 0], .bool false]) (by simp [results, Tryz.results7, go_sem, z0, z1, z2, z3]) rfl ⟨_, _, rfl, Or.inr ⟨rfl, rfl, HN.out⟩, (((BW.setCell (Nat.le_refl _) _).setCell (Nat.le_refl _) _).setCell (Nat.le_refl _) _).setCell (Nat.le_refl _) _⟩
    | true =>
      have ht : itext (10) (d) (a) (k) = textS (10) (d) (a) (k) := by unfold itext; rw [hk]; rfl
      rw [ht]
      have hne := nonempty hk
      have HK := Words.hide hk
      clear ht hk
      by_cases e : textS (10) (d) (a) (k) = s
      · rw [e] at hne ⊢
        have q1 := ne_bytes hne
        have q0 := ne_empty hne
        have q2 := eq_bytes2 s
        have HE := Words.hide e
        clear e hne HC
        go_wp2
        exact bodyPost_ret (v := .tuple #[.agg #[.int .i64 (10), .int .i64 (d), .int .i64 (a), .int .i64 (k)], .bool true]) (by simp [results, Tryz.results7, go_sem, z0, z1, z2, z3]) rfl ⟨_, _, rfl, Or.inl ⟨rfl, _, _, _, _, rfl, HK.out, HE.out⟩, (((BW.setCell (Nat.le_refl _) _).setCell (Nat.le_refl _) _).setCell (Nat.le_refl _) _).setCell (Nat.le_refl _) _⟩
      · have HN := Words.hide (HC.out.other e)
        generalize textS (10) (d) (a) (k) = tx at e hne ⊢
        have q1 := ne_bytes hne
        have q0 := ne_empty hne
        have q2 := ne_bytes e
        clear e hne HC
        go_wp2
        exact bodyPost_ret (v := .tuple #[.agg #[.int .i64 0, .int .i64 0, .int .i64 0, .int .i64 0], .bool false]) (by simp [results, Tryz.results7, go_sem, z0, z1, z2, z3]) rfl ⟨_, _, rfl, Or.inr ⟨rfl, rfl, HN.out⟩, (((BW.setCell (Nat.le_refl _) _).setCell (Nat.le_refl _) _).setCell (Nat.le_refl _) _).setCell (Nat.le_refl _) _⟩
  · go_wp2_with fail
    refine (l2RegOf X1 _ (by omega)).mono ?_
    rintro e w3 ⟨rfl, rfl⟩
    obtain ⟨d, ed⟩ : ∃ d, regOf X1.data.toList = d := ⟨_, rfl⟩
    rw [ed]
    have Ed := Words.hide ed
    clear ed
    go_wp2_with fail
    refine (l2RegOf X2 _ (by omega)).mono ?_
    rintro e w3 ⟨rfl, rfl⟩
    obtain ⟨a, ea⟩ : ∃ a, regOf X2.data.toList = a := ⟨_, rfl⟩
    rw [ea]
    have Ea := Words.hide ea
    clear ea
    have iB := Blk.new w2 (11) (d) (a) 0 24
    replace zB : Blk w.heap.size 0 0 0 0 (w2.alloc (.cells #[.int .i64 (11), .int .i64 (d), .int .i64 (a), .int .i64 0] 24)) := zB2.alloc _
    replace BW := BW.alloc BW.size (.cells #[.int .i64 (11), .int .i64 (d), .int .i64 (a), .int .i64 0] 24)
    go_wp2_with fail
    refine (l2Num X3 _ (by omega)).mono ?_
    rintro e w4 ⟨rfl, hb⟩
    obtain ⟨k, ek⟩ : ∃ k, numOf X3.data.toList = k := ⟨_, rfl⟩
    rw [ek]
    have Ek := Words.hide ek
    clear ek
    replace iB := iB.below hb
    replace zB := zB.below hb
    replace BW := BW.trans (hb.mono BW.size)
    clear hb
    have iB0 := iB
    replace iB := iB.set3 k
    replace zB := zB.other (p := ⟨w2.heap.size, 3, none⟩) (.int .i64 k) (by show w2.heap.size ≠ w.heap.size; omega)
    replace BW := BW.setCell (p := ⟨w2.heap.size, 3, none⟩) (by show w.heap.size ≤ w2.heap.size; omega) (.int .i64 k)
    obtain ⟨_, j0, j1, j2, j3, _, _, _, j4⟩ := iB0
    have HC : Hid (Only s (11) (d) (a) (k)) := show Only s (11) (d) (a) (k) by
      have h := HC0.out
      simp [dOf, aOf, kOf] at h
      rw [Ed.out, Ea.out, Ek.out] at h
      exact h
    clear HC0 Ed Ea Ek
    go_wp2_with fail
    refine (insText (11) (d) (a) (k) _).mono ?_
    rintro e v ⟨rfl, hb⟩
    replace iB := iB.below hb
    replace zB := zB.below hb
    replace BW := BW.trans (hb.mono BW.size)
    clear hb
    obtain ⟨_, i0, i1, i2, i3, _, _, _, _⟩ := iB
    obtain ⟨_, z0, z1, z2, z3, g0, g1, g2, g3⟩ := zB
    cases hk : okB (11) (d) (a) (k) with
    | false =>
      have ht : itext (11) (d) (a) (k) = ⟨#[]⟩ := by unfold itext; rw [hk]; rfl
      rw [ht]
      have HN := Words.hide (HC.out.no hk)
      clear ht hk HC
      go_wp2
      exact bodyPost_ret (v := .tuple #[.agg #[.int .i64 0, .int .i64 0, .int .i64 0, .int .i64 0], .bool false]) (by simp [results, Tryz.results7, go_sem, z0, z1, z2, z3]) rfl ⟨_, _, rfl, Or.inr ⟨rfl, rfl, HN.out⟩, (((BW.setCell (Nat.le_refl _) _).setCell (Nat.le_refl _) _).setCell (Nat.le_refl _) _).setCell (Nat.le_refl _) _⟩
    | true =>
      have ht : itext (11) (d) (a) (k) = textS (11) (d) (a) (k) := by unfold itext; rw [hk]; rfl
      rw [ht]
      have hne := nonempty hk
      have HK := Words.hide hk
      clear ht hk
      by_cases e : textS (11) (d) (a) (k) = s
      · rw [e] at hne ⊢
        have q1 := ne_bytes hne
        have q0 := ne_empty hne
        have q2 := eq_bytes2 s
        have HE := Words.hide e
        clear e hne HC
        go_wp2
        exact bodyPost_ret (v := .tuple #[.agg #[.int .i64 (11), .int .i64 (d), .int .i64 (a), .int .i64 (k)], .bool true]) (by simp [results, Tryz.results7, go_sem, z0, z1, z2, z3]) rfl ⟨_, _, rfl, Or.inl ⟨rfl, _, _, _, _, rfl, HK.out, HE.out⟩, (((BW.setCell (Nat.le_refl _) _).setCell (Nat.le_refl _) _).setCell (Nat.le_refl _) _).setCell (Nat.le_refl _) _⟩
      · have HN := Words.hide (HC.out.other e)
        generalize textS (11) (d) (a) (k) = tx at e hne ⊢
        have q1 := ne_bytes hne
        have q0 := ne_empty hne
        have q2 := ne_bytes e
        clear e hne HC
        go_wp2
        exact bodyPost_ret (v := .tuple #[.agg #[.int .i64 0, .int .i64 0, .int .i64 0, .int .i64 0], .bool false]) (by simp [results, Tryz.results7, go_sem, z0, z1, z2, z3]) rfl ⟨_, _, rfl, Or.inr ⟨rfl, rfl, HN.out⟩, (((BW.setCell (Nat.le_refl _) _).setCell (Nat.le_refl _) _).setCell (Nat.le_refl _) _).setCell (Nat.le_refl _) _⟩
  · go_wp2_with fail
    refine (l2RegOf X1 _ (by omega)).mono ?_
    rintro e w3 ⟨rfl, rfl⟩
    obtain ⟨d, ed⟩ : ∃ d, regOf X1.data.toList = d := ⟨_, rfl⟩
    rw [ed]
    have Ed := Words.hide ed
    clear ed
    go_wp2_with fail
    refine (l2RegOf X2 _ (by omega)).mono ?_
    rintro e w3 ⟨rfl, rfl⟩
    obtain ⟨a, ea⟩ : ∃ a, regOf X2.data.toList = a := ⟨_, rfl⟩
    rw [ea]
    have Ea := Words.hide ea
    clear ea
    have iB := Blk.new w2 (12) (d) (a) 0 24
    replace zB : Blk w.heap.size 0 0 0 0 (w2.alloc (.cells #[.int .i64 (12), .int .i64 (d), .int .i64 (a), .int .i64 0] 24)) := zB2.alloc _
    replace BW := BW.alloc BW.size (.cells #[.int .i64 (12), .int .i64 (d), .int .i64 (a), .int .i64 0] 24)
    go_wp2_with fail
    refine (l2Num X3 _ (by omega)).mono ?_
    rintro e w4 ⟨rfl, hb⟩
    obtain ⟨k, ek⟩ : ∃ k, numOf X3.data.toList = k := ⟨_, rfl⟩
    rw [ek]
    have Ek := Words.hide ek
    clear ek
    replace iB := iB.below hb
    replace zB := zB.below hb
    replace BW := BW.trans (hb.mono BW.size)
    clear hb
    have iB0 := iB
    replace iB := iB.set3 k
    replace zB := zB.other (p := ⟨w2.heap.size, 3, none⟩) (.int .i64 k) (by show w2.heap.size ≠ w.heap.size; omega)
    replace BW := BW.setCell (p := ⟨w2.heap.size, 3, none⟩) (by show w.heap.size ≤ w2.heap.size; omega) (.int .i64 k)
    obtain ⟨_, j0, j1, j2, j3, _, _, _, j4⟩ := iB0
    have HC : Hid (Only s (12) (d) (a) (k)) := show Only s (12) (d) (a) (k) by
      have h := HC0.out
      simp [dOf, aOf, kOf] at h
      rw [Ed.out, Ea.out, Ek.out] at h
      exact h
    clear HC0 Ed Ea Ek
    go_wp2_with fail
    refine (insText (12) (d) (a) (k) _).mono ?_
    rintro e v ⟨rfl, hb⟩
    replace iB := iB.below hb
    replace zB := zB.below hb
    replace BW := BW.trans (hb.mono BW.size)
    clear hb
    obtain ⟨_, i0, i1, i2, i3, _, _, _, _⟩ := iB
    obtain ⟨_, z0, z1, z2, z3, g0, g1, g2, g3⟩ := zB
    cases hk : okB (12) (d) (a) (k) with
    | false =>
      have ht : itext (12) (d) (a) (k) = ⟨#[]⟩ := by unfold itext; rw [hk]; rfl
      rw [ht]
      have HN := Words.hide (HC.out.no hk)
      clear ht hk HC
      go_wp2
      exact bodyPost_ret (v := .tuple #[.agg #[.int .i64 0, .int .i64 0, .int .i64 0, .int .i64 0], .bool false]) (by simp [results, Tryz.results7, go_sem, z0, z1, z2, z3]) rfl ⟨_, _, rfl, Or.inr ⟨rfl, rfl, HN.out⟩, (((BW.setCell (Nat.le_refl _) _).setCell (Nat.le_refl _) _).setCell (Nat.le_refl _) _).setCell (Nat.le_refl _) _⟩
    | true =>
      have ht : itext (12) (d) (a) (k) = textS (12) (d) (a) (k) := by unfold itext; rw [hk]; rfl
      rw [ht]
      have hne := nonempty hk
      have HK := Words.hide hk
      clear ht hk
      by_cases e : textS (12) (d) (a) (k) = s
      · rw [e] at hne ⊢
        have q1 := ne_bytes hne
        have q0 := ne_empty hne
        have q2 := eq_bytes2 s
        have HE := Words.hide e
        clear e hne HC
        go_wp2
        exact bodyPost_ret (v := .tuple #[.agg #[.int .i64 (12), .int .i64 (d), .int .i64 (a), .int .i64 (k)], .bool true]) (by simp [results, Tryz.results7, go_sem, z0, z1, z2, z3]) rfl ⟨_, _, rfl, Or.inl ⟨rfl, _, _, _, _, rfl, HK.out, HE.out⟩, (((BW.setCell (Nat.le_refl _) _).setCell (Nat.le_refl _) _).setCell (Nat.le_refl _) _).setCell (Nat.le_refl _) _⟩
      · have HN := Words.hide (HC.out.other e)
        generalize textS (12) (d) (a) (k) = tx at e hne ⊢
        have q1 := ne_bytes hne
        have q0 := ne_empty hne
        have q2 := ne_bytes e
        clear e hne HC
        go_wp2
        exact bodyPost_ret (v := .tuple #[.agg #[.int .i64 0, .int .i64 0, .int .i64 0, .int .i64 0], .bool false]) (by simp [results, Tryz.results7, go_sem, z0, z1, z2, z3]) rfl ⟨_, _, rfl, Or.inr ⟨rfl, rfl, HN.out⟩, (((BW.setCell (Nat.le_refl _) _).setCell (Nat.le_refl _) _).setCell (Nat.le_refl _) _).setCell (Nat.le_refl _) _⟩
  · go_wp2_with fail
    refine (l2RegOf X1 _ (by omega)).mono ?_
    rintro e w3 ⟨rfl, rfl⟩
    obtain ⟨a, ea⟩ : ∃ a, regOf X1.data.toList = a := ⟨_, rfl⟩
    rw [ea]
    have Ea := Words.hide ea
    clear ea
    have iB := Blk.new w2 (13) (0) (a) (0) 24
    replace zB : Blk w.heap.size 0 0 0 0 (w2.alloc (.cells #[.int .i64 (13), .int .i64 (0), .int .i64 (a), .int .i64 (0)] 24)) := zB2.alloc _
    replace BW := BW.alloc BW.size (.cells #[.int .i64 (13), .int .i64 (0), .int .i64 (a), .int .i64 (0)] 24)
    have HC : Hid (Only s (13) (0) (a) (0)) := show Only s (13) (0) (a) (0) by
      have h := HC0.out
      simp [dOf, aOf, kOf] at h
      rw [Ea.out] at h
      exact h
    clear HC0 Ea
    go_wp2_with fail
    refine (insText (13) (0) (a) (0) _).mono ?_
    rintro e v ⟨rfl, hb⟩
    replace iB := iB.below hb
    replace zB := zB.below hb
    replace BW := BW.trans (hb.mono BW.size)
    clear hb
    obtain ⟨_, i0, i1, i2, i3, _, _, _, _⟩ := iB
    obtain ⟨_, z0, z1, z2, z3, g0, g1, g2, g3⟩ := zB
    cases hk : okB (13) (0) (a) (0) with
    | false =>
      have ht : itext (13) (0) (a) (0) = ⟨#[]⟩ := by unfold itext; rw [hk]; rfl
      rw [ht]
      have HN := Words.hide (HC.out.no hk)
      clear ht hk HC
      go_wp2
      exact bodyPost_ret (v := .tuple #[.agg #[.int .i64 0, .int .i64 0, .int .i64 0, .int .i64 0], .bool false]) (by simp [results, Tryz.results7, go_sem, z0, z1, z2, z3]) rfl ⟨_, _, rfl, Or.inr ⟨rfl, rfl, HN.out⟩, (((BW.setCell (Nat.le_refl _) _).setCell (Nat.le_refl _) _).setCell (Nat.le_refl _) _).setCell (Nat.le_refl _) _⟩
    | true =>
      have ht : itext (13) (0) (a) (0) = textS (13) (0) (a) (0) := by unfold itext; rw [hk]; rfl
      rw [ht]
      have hne := nonempty hk
      have HK := Words.hide hk
      clear ht hk
      by_cases e : textS (13) (0) (a) (0) = s
      · rw [e] at hne ⊢
        have q1 := ne_bytes hne
        have q0 := ne_empty hne
        have q2 := eq_bytes2 s
        have HE := Words.hide e
        clear e hne HC
        go_wp2
        exact bodyPost_ret (v := .tuple #[.agg #[.int .i64 (13), .int .i64 (0), .int .i64 (a), .int .i64 (0)], .bool true]) (by simp [results, Tryz.results7, go_sem, z0, z1, z2, z3]) rfl ⟨_, _, rfl, Or.inl ⟨rfl, _, _, _, _, rfl, HK.out, HE.out⟩, (((BW.setCell (Nat.le_refl _) _).setCell (Nat.le_refl _) _).setCell (Nat.le_refl _) _).setCell (Nat.le_refl _) _⟩
      · have HN := Words.hide (HC.out.other e)
        generalize textS (13) (0) (a) (0) = tx at e hne ⊢
        have q1 := ne_bytes hne
        have q0 := ne_empty hne
        have q2 := ne_bytes e
        clear e hne HC
        go_wp2
        exact bodyPost_ret (v := .tuple #[.agg #[.int .i64 0, .int .i64 0, .int .i64 0, .int .i64 0], .bool false]) (by simp [results, Tryz.results7, go_sem, z0, z1, z2, z3]) rfl ⟨_, _, rfl, Or.inr ⟨rfl, rfl, HN.out⟩, (((BW.setCell (Nat.le_refl _) _).setCell (Nat.le_refl _) _).setCell (Nat.le_refl _) _).setCell (Nat.le_refl _) _⟩
  · go_wp2_with fail
    refine (l2RegOf X1 _ (by omega)).mono ?_
    rintro e w3 ⟨rfl, rfl⟩
    obtain ⟨d, ed⟩ : ∃ d, regOf X1.data.toList = d := ⟨_, rfl⟩
    rw [ed]
    have Ed := Words.hide ed
    clear ed
    have iB := Blk.new w2 (14) (d) (0) (0) 24
    replace zB : Blk w.heap.size 0 0 0 0 (w2.alloc (.cells #[.int .i64 (14), .int .i64 (d), .int .i64 (0), .int .i64 (0)] 24)) := zB2.alloc _
    replace BW := BW.alloc BW.size (.cells #[.int .i64 (14), .int .i64 (d), .int .i64 (0), .int .i64 (0)] 24)
    have HC : Hid (Only s (14) (d) (0) (0)) := show Only s (14) (d) (0) (0) by
      have h := HC0.out
      simp [dOf, aOf, kOf] at h
      rw [Ed.out] at h
      exact h
    clear HC0 Ed
    go_wp2_with fail
    refine (insText (14) (d) (0) (0) _).mono ?_
    rintro e v ⟨rfl, hb⟩
    replace iB := iB.below hb
    replace zB := zB.below hb
    replace BW := BW.trans (hb.mono BW.size)
    clear hb
    obtain ⟨_, i0, i1, i2, i3, _, _, _, _⟩ := iB
    obtain ⟨_, z0, z1, z2, z3, g0, g1, g2, g3⟩ := zB
    cases hk : okB (14) (d) (0) (0) with
    | false =>
      have ht : itext (14) (d) (0) (0) = ⟨#[]⟩ := by unfold itext; rw [hk]; rfl
      rw [ht]
      have HN := Words.hide (HC.out.no hk)
      clear ht hk HC
      go_wp2
      exact bodyPost_ret (v := .tuple #[.agg #[.int .i64 0, .int .i64 0, .int .i64 0, .int .i64 0], .bool false]) (by simp [results, Tryz.results7, go_sem, z0, z1, z2, z3]) rfl ⟨_, _, rfl, Or.inr ⟨rfl, rfl, HN.out⟩, (((BW.setCell (Nat.le_refl _) _).setCell (Nat.le_refl _) _).setCell (Nat.le_refl _) _).setCell (Nat.le_refl _) _⟩
    | true =>
      have ht : itext (14) (d) (0) (0) = textS (14) (d) (0) (0) := by unfold itext; rw [hk]; rfl
      rw [ht]
      have hne := nonempty hk
      have HK := Words.hide hk
      clear ht hk
      by_cases e : textS (14) (d) (0) (0) = s
      · rw [e] at hne ⊢
        have q1 := ne_bytes hne
        have q0 := ne_empty hne
        have q2 := eq_bytes2 s
        have HE := Words.hide e
        clear e hne HC
        go_wp2
        exact bodyPost_ret (v := .tuple #[.agg #[.int .i64 (14), .int .i64 (d), .int .i64 (0), .int .i64 (0)], .bool true]) (by simp [results, Tryz.results7, go_sem, z0, z1, z2, z3]) rfl ⟨_, _, rfl, Or.inl ⟨rfl, _, _, _, _, rfl, HK.out, HE.out⟩, (((BW.setCell (Nat.le_refl _) _).setCell (Nat.le_refl _) _).setCell (Nat.le_refl _) _).setCell (Nat.le_refl _) _⟩
      · have HN := Words.hide (HC.out.other e)
        generalize textS (14) (d) (0) (0) = tx at e hne ⊢
        have q1 := ne_bytes hne
        have q0 := ne_empty hne
        have q2 := ne_bytes e
        clear e hne HC
        go_wp2
        exact bodyPost_ret (v := .tuple #[.agg #[.int .i64 0, .int .i64 0, .int .i64 0, .int .i64 0], .bool false]) (by simp [results, Tryz.results7, go_sem, z0, z1, z2, z3]) rfl ⟨_, _, rfl, Or.inr ⟨rfl, rfl, HN.out⟩, (((BW.setCell (Nat.le_refl _) _).setCell (Nat.le_refl _) _).setCell (Nat.le_refl _) _).setCell (Nat.le_refl _) _⟩
  · go_wp2_with fail
    refine (l2RegOf X1 _ (by omega)).mono ?_
    rintro e w3 ⟨rfl, rfl⟩
    obtain ⟨d, ed⟩ : ∃ d, regOf X1.data.toList = d := ⟨_, rfl⟩
    rw [ed]
    have Ed := Words.hide ed
    clear ed
    have iB := Blk.new w2 (15) (d) (0) (0) 24
    replace zB : Blk w.heap.size 0 0 0 0 (w2.alloc (.cells #[.int .i64 (15), .int .i64 (d), .int .i64 (0), .int .i64 (0)] 24)) := zB2.alloc _
    replace BW := BW.alloc BW.size (.cells #[.int .i64 (15), .int .i64 (d), .int .i64 (0), .int .i64 (0)] 24)
    have HC : Hid (Only s (15) (d) (0) (0)) := show Only s (15) (d) (0) (0) by
      have h := HC0.out
      simp [dOf, aOf, kOf] at h
      rw [Ed.out] at h
      exact h
    clear HC0 Ed
    go_wp2_with fail
    refine (insText (15) (d) (0) (0) _).mono ?_
    rintro e v ⟨rfl, hb⟩
    replace iB := iB.below hb
    replace zB := zB.below hb
    replace BW := BW.trans (hb.mono BW.size)
    clear hb
    obtain ⟨_, i0, i1, i2, i3, _, _, _, _⟩ := iB
    obtain ⟨_, z0, z1, z2, z3, g0, g1, g2, g3⟩ := zB
    cases hk : okB (15) (d) (0) (0) with
    | false =>
      have ht : itext (15) (d) (0) (0) = ⟨#[]⟩ := by unfold itext; rw [hk]; rfl
      rw [ht]
      have HN := Words.hide (HC.out.no hk)
      clear ht hk HC
      go_wp2
      exact bodyPost_ret (v := .tuple #[.agg #[.int .i64 0, .int .i64 0, .int .i64 0, .int .i64 0], .bool false]) (by simp [results, Tryz.results7, go_sem, z0, z1, z2, z3]) rfl ⟨_, _, rfl, Or.inr ⟨rfl, rfl, HN.out⟩, (((BW.setCell (Nat.le_refl _) _).setCell (Nat.le_refl _) _).setCell (Nat.le_refl _) _).setCell (Nat.le_refl _) _⟩
    | true =>
      have ht : itext (15) (d) (0) (0) = textS (15) (d) (0) (0) := by unfold itext; rw [hk]; rfl
      rw [ht]
      have hne := nonempty hk
      have HK := Words.hide hk
      clear ht hk
      by_cases e : textS (15) (d) (0) (0) = s
      · rw [e] at hne ⊢
        have q1 := ne_bytes hne
        have q0 := ne_empty hne
        have q2 := eq_bytes2 s
        have HE := Words.hide e
        clear e hne HC
        go_wp2
        exact bodyPost_ret (v := .tuple #[.agg #[.int .i64 (15), .int .i64 (d), .int .i64 (0), .int .i64 (0)], .bool true]) (by simp [results, Tryz.results7, go_sem, z0, z1, z2, z3]) rfl ⟨_, _, rfl, Or.inl ⟨rfl, _, _, _, _, rfl, HK.out, HE.out⟩, (((BW.setCell (Nat.le_refl _) _).setCell (Nat.le_refl _) _).setCell (Nat.le_refl _) _).setCell (Nat.le_refl _) _⟩
      · have HN := Words.hide (HC.out.other e)
        generalize textS (15) (d) (0) (0) = tx at e hne ⊢
        have q1 := ne_bytes hne
        have q0 := ne_empty hne
        have q2 := ne_bytes e
        clear e hne HC
        go_wp2
        exact bodyPost_ret (v := .tuple #[.agg #[.int .i64 0, .int .i64 0, .int .i64 0, .int .i64 0], .bool false]) (by simp [results, Tryz.results7, go_sem, z0, z1, z2, z3]) rfl ⟨_, _, rfl, Or.inr ⟨rfl, rfl, HN.out⟩, (((BW.setCell (Nat.le_refl _) _).setCell (Nat.le_refl _) _).setCell (Nat.le_refl _) _).setCell (Nat.le_refl _) _⟩
end Go.Proofs.YthpajjlhjfhdpaaGreatDoor.Ins
