/-
  The contract of the program's InsText at every instruction: the text that the specification's InsText writes.
-/
import Derived.Test.YthpajjlhjfhdpaaGreatDoorInsXa
import Derived.Test.YthpajjlhjfhdpaaGreatDoorInsXb
import Derived.Test.YthpajjlhjfhdpaaGreatDoorInsXc
namespace Go.Proofs.YthpajjlhjfhdpaaGreatDoor.InsI
open Go.ChangeShapes Go.WideShapes Go.ChangeAt Go.RowKit Ins
/-- The words of an instruction's text. -/
def wordsS (op d a k : Int) : List ByteArray :=
  if op = 0 then [stopS k]
  else if op = 1 then [nameS op, regS d, digS k]
  else if op = 2 then [nameS op, regS d, regS a]
  else if 3 ≤ op ∧ op ≤ 7 then [nameS op, regS d, regS a, regS k]
  else if op = 13 then [nameS op, regS a]
  else if op = 14 ∨ op = 15 then [nameS op, regS d]
  else [nameS op, regS d, regS a, digS k]
theorem join_text (op d a k : Int) : (⟨(Lib.join ((wordsS op d a k).map (·.data.toList)) sp.data.toList).toArray⟩ : ByteArray) = textS op d a k := by
  apply ByteArray.ext
  apply Array.ext'
  unfold wordsS textS
  repeat' split
  all_goals simp [Lib.join_cons, Lib.joinTail, ByteArray.data_append, Array.toList_append]
theorem name_size (op : Int) (h0 : 0 ≤ op) (h1 : op ≤ 15) : (nameS op).size ≤ 5 := (names_at op h0 h1).2
theorem stop_size (k : Int) : (stopS k).size ≤ 6 := by
  unfold stopS
  repeat' split
  all_goals decide
theorem text_size {op d a k : Int} (h : okB op d a k = true) : (textS op d a k).size ≤ 20 := by
  obtain ⟨o0, o1, d0, d1, a0, a1, k0, k1, hF⟩ := okB_bd h
  have n := name_size op o0 o1
  have s := stop_size k
  have r1 := reg_size d
  have r2 := reg_size a
  have r3 := reg_size k
  have g := dig_size k k1
  have z : sp.size = 1 := rfl
  unfold textS
  repeat' split
  all_goals try simp only [ByteArray.size_append]
  all_goals omega
theorem join_len {op d a k : Int} (h : okB op d a k = true) : (Lib.join ((wordsS op d a k).map (·.data.toList)) sp.data.toList).length ≤ 140737488355328 := by
  have h1 := text_size h
  rw [← join_text] at h1
  have h2 : (⟨(Lib.join ((wordsS op d a k).map (·.data.toList)) sp.data.toList).toArray⟩ : ByteArray).size = (Lib.join ((wordsS op d a k).map (·.data.toList)) sp.data.toList).length := by simp [ByteArray.size]
  omega
theorem joined (op d a k : Int) (bk : Nat) (w : World) (h : okB op d a k = true) (hc : ∀ (j : Nat) x, (wordsS op d a k)[j]? = some x → w.cell? ⟨bk, 0 + j, none⟩ = some (.string x)) (hbk : bk < w.heap.size) :
    Calls Tryz.prog 25 #[.slice (some ⟨bk, 0, none⟩) (wordsS op d a k).length (wordsS op d a k).length, .string sp] w fun e w' => e = .returned (.string (textS op d a k)) ∧ Below w.heap.size w w' := by
  refine (Tryz.strings_Join bk 0 (wordsS op d a k).length (wordsS op d a k) sp w hc hbk ?_ (Nat.le_refl _) (join_len h)).mono ?_
  · unfold wordsS
    repeat' split
    all_goals simp
  · rintro e w' ⟨rfl, hb⟩
    exact ⟨by rw [join_text], hb⟩
set_option maxHeartbeats 4000000 in
theorem implText_0 (d a k : Int) (w : World) (h : okB 0 d a k = true) (ht : Tabs w) : Calls Tryz.prog 8 #[.agg #[.int .i64 0, .int .i64 d, .int .i64 a, .int .i64 k]] w fun e w' => e = .returned (.string (textS 0 d a k)) ∧ Below w.heap.size w w' := by
  have HK := hide h
  obtain ⟨_, _, d0, d1, a0, a1, k0, k1, hF⟩ := okB_bd h
  have k3 : k ≤ 3 := form_0 hF
  clear h hF
  have HT := hide ht
  clear ht
  go_enter Tryz.func8, Tryz.ntmps8
  go_wp2_with fail
  refine (insOk 0 d a k _).mono ?_
  rintro e w1 ⟨rfl, hb⟩
  rw [HK.out]
  have B1 : Below w.heap.size w w1 := ((Below.refl _ _).alloc (Nat.le_refl _) _).trans (hb.mono (by simp))
  have T1 := hide ((HT.out.below ((Below.refl _ _).alloc (Nat.le_refl _) (.cells #[.int .i64 0, .int .i64 d, .int .i64 a, .int .i64 k] 24))).below hb)
  have c0 : w1.cell? ⟨w.heap.size, 0, none⟩ = some (.int .i64 0) := cell_below hb (by simp)
  have c1 : w1.cell? ⟨w.heap.size, 1, none⟩ = some (.int .i64 d) := cell_below hb (by simp)
  have c2 : w1.cell? ⟨w.heap.size, 2, none⟩ = some (.int .i64 a) := cell_below hb (by simp)
  have c3 : w1.cell? ⟨w.heap.size, 3, none⟩ = some (.int .i64 k) := cell_below hb (by simp)
  clear hb HT
  have hk : k = 0 ∨ k = 1 ∨ k = 2 ∨ k = 3 := by omega
  rcases hk with rfl | rfl | rfl | rfl
  · go_wp2_with fail
    refine (formOf_0 d a 0 _).mono ?_
    rintro e w2 ⟨rfl, hb2⟩
    have B2 := B1.trans (hb2.mono B1.size)
    have T2 := T1.out.below hb2
    clear hb2 B1 T1
    go_wp2_with fail
    refine (words_s0 _ T2).mono ?_
    rintro e w3 ⟨bk, rfl, hc, hbk, hb3⟩
    have B3 := B2.trans (hb3.mono B2.size)
    clear hb3 B2 T2
    go_wp2_with fail
    refine (joined 0 d a 0 bk _ HK.out hc hbk).mono ?_
    rintro e w4 ⟨rfl, hb4⟩
    have B4 := B3.trans (hb4.mono B3.size)
    clear hb4 B3 hc hbk
    obtain ⟨t, et⟩ : ∃ t, textS 0 d a 0 = t := ⟨_, rfl⟩
    rw [et]
    have ET := hide et
    clear et
    go_wp2
    go_ret
    exact ⟨ret_str ET.out.symm, B4⟩
  · go_wp2_with fail
    refine (formOf_0 d a 1 _).mono ?_
    rintro e w2 ⟨rfl, hb2⟩
    have B2 := B1.trans (hb2.mono B1.size)
    have T2 := T1.out.below hb2
    clear hb2 B1 T1
    go_wp2_with fail
    refine (words_s1 _ T2).mono ?_
    rintro e w3 ⟨bk, rfl, hc, hbk, hb3⟩
    have B3 := B2.trans (hb3.mono B2.size)
    clear hb3 B2 T2
    go_wp2_with fail
    refine (joined 0 d a 1 bk _ HK.out hc hbk).mono ?_
    rintro e w4 ⟨rfl, hb4⟩
    have B4 := B3.trans (hb4.mono B3.size)
    clear hb4 B3 hc hbk
    obtain ⟨t, et⟩ : ∃ t, textS 0 d a 1 = t := ⟨_, rfl⟩
    rw [et]
    have ET := hide et
    clear et
    go_wp2
    go_ret
    exact ⟨ret_str ET.out.symm, B4⟩
  · go_wp2_with fail
    refine (formOf_0 d a 2 _).mono ?_
    rintro e w2 ⟨rfl, hb2⟩
    have B2 := B1.trans (hb2.mono B1.size)
    have T2 := T1.out.below hb2
    clear hb2 B1 T1
    go_wp2_with fail
    refine (words_s2 _ T2).mono ?_
    rintro e w3 ⟨bk, rfl, hc, hbk, hb3⟩
    have B3 := B2.trans (hb3.mono B2.size)
    clear hb3 B2 T2
    go_wp2_with fail
    refine (joined 0 d a 2 bk _ HK.out hc hbk).mono ?_
    rintro e w4 ⟨rfl, hb4⟩
    have B4 := B3.trans (hb4.mono B3.size)
    clear hb4 B3 hc hbk
    obtain ⟨t, et⟩ : ∃ t, textS 0 d a 2 = t := ⟨_, rfl⟩
    rw [et]
    have ET := hide et
    clear et
    go_wp2
    go_ret
    exact ⟨ret_str ET.out.symm, B4⟩
  · go_wp2_with fail
    refine (formOf_0 d a 3 _).mono ?_
    rintro e w2 ⟨rfl, hb2⟩
    have B2 := B1.trans (hb2.mono B1.size)
    have T2 := T1.out.below hb2
    clear hb2 B1 T1
    go_wp2_with fail
    refine (words_s3 _ T2).mono ?_
    rintro e w3 ⟨bk, rfl, hc, hbk, hb3⟩
    have B3 := B2.trans (hb3.mono B2.size)
    clear hb3 B2 T2
    go_wp2_with fail
    refine (joined 0 d a 3 bk _ HK.out hc hbk).mono ?_
    rintro e w4 ⟨rfl, hb4⟩
    have B4 := B3.trans (hb4.mono B3.size)
    clear hb4 B3 hc hbk
    obtain ⟨t, et⟩ : ∃ t, textS 0 d a 3 = t := ⟨_, rfl⟩
    rw [et]
    have ET := hide et
    clear et
    go_wp2
    go_ret
    exact ⟨ret_str ET.out.symm, B4⟩
set_option maxHeartbeats 4000000 in
theorem implText_1 (d a k : Int) (w : World) (h : okB 1 d a k = true) (ht : Tabs w) : Calls Tryz.prog 8 #[.agg #[.int .i64 1, .int .i64 d, .int .i64 a, .int .i64 k]] w fun e w' => e = .returned (.string (textS 1 d a k)) ∧ Below w.heap.size w w' := by
  have HK := hide h
  obtain ⟨_, _, d0, d1, a0, a1, k0, k1, hF⟩ := okB_bd h
  clear h hF
  have HT := hide ht
  clear ht
  go_enter Tryz.func8, Tryz.ntmps8
  go_wp2_with fail
  refine (insOk 1 d a k _).mono ?_
  rintro e w1 ⟨rfl, hb⟩
  rw [HK.out]
  have B1 : Below w.heap.size w w1 := ((Below.refl _ _).alloc (Nat.le_refl _) _).trans (hb.mono (by simp))
  have T1 := hide ((HT.out.below ((Below.refl _ _).alloc (Nat.le_refl _) (.cells #[.int .i64 1, .int .i64 d, .int .i64 a, .int .i64 k] 24))).below hb)
  have c0 : w1.cell? ⟨w.heap.size, 0, none⟩ = some (.int .i64 1) := cell_below hb (by simp)
  have c1 : w1.cell? ⟨w.heap.size, 1, none⟩ = some (.int .i64 d) := cell_below hb (by simp)
  have c2 : w1.cell? ⟨w.heap.size, 2, none⟩ = some (.int .i64 a) := cell_below hb (by simp)
  have c3 : w1.cell? ⟨w.heap.size, 3, none⟩ = some (.int .i64 k) := cell_below hb (by simp)
  clear hb HT
  go_wp2_with fail
  refine (formOf_1 d a k _).mono ?_
  rintro e w2 ⟨rfl, hb2⟩
  have B2 := B1.trans (hb2.mono B1.size)
  have T2 := T1.out.below hb2
  clear hb2 B1 T1
  go_wp2_with fail
  refine (words_1 d k _ d0 d1 k0 k1 T2).mono ?_
  rintro e w3 ⟨bk, rfl, hc, hbk, hb3⟩
  have B3 := B2.trans (hb3.mono B2.size)
  clear hb3 B2 T2
  go_wp2_with fail
  refine (joined 1 d a k bk _ HK.out hc hbk).mono ?_
  rintro e w4 ⟨rfl, hb4⟩
  have B4 := B3.trans (hb4.mono B3.size)
  clear hb4 B3 hc hbk
  obtain ⟨t, et⟩ : ∃ t, textS 1 d a k = t := ⟨_, rfl⟩
  rw [et]
  have ET := hide et
  clear et
  go_wp2
  go_ret
  exact ⟨ret_str ET.out.symm, B4⟩
set_option maxHeartbeats 4000000 in
theorem implText_2 (d a k : Int) (w : World) (h : okB 2 d a k = true) (ht : Tabs w) : Calls Tryz.prog 8 #[.agg #[.int .i64 2, .int .i64 d, .int .i64 a, .int .i64 k]] w fun e w' => e = .returned (.string (textS 2 d a k)) ∧ Below w.heap.size w w' := by
  have HK := hide h
  obtain ⟨_, _, d0, d1, a0, a1, k0, k1, hF⟩ := okB_bd h
  clear h hF
  have HT := hide ht
  clear ht
  go_enter Tryz.func8, Tryz.ntmps8
  go_wp2_with fail
  refine (insOk 2 d a k _).mono ?_
  rintro e w1 ⟨rfl, hb⟩
  rw [HK.out]
  have B1 : Below w.heap.size w w1 := ((Below.refl _ _).alloc (Nat.le_refl _) _).trans (hb.mono (by simp))
  have T1 := hide ((HT.out.below ((Below.refl _ _).alloc (Nat.le_refl _) (.cells #[.int .i64 2, .int .i64 d, .int .i64 a, .int .i64 k] 24))).below hb)
  have c0 : w1.cell? ⟨w.heap.size, 0, none⟩ = some (.int .i64 2) := cell_below hb (by simp)
  have c1 : w1.cell? ⟨w.heap.size, 1, none⟩ = some (.int .i64 d) := cell_below hb (by simp)
  have c2 : w1.cell? ⟨w.heap.size, 2, none⟩ = some (.int .i64 a) := cell_below hb (by simp)
  have c3 : w1.cell? ⟨w.heap.size, 3, none⟩ = some (.int .i64 k) := cell_below hb (by simp)
  clear hb HT
  go_wp2_with fail
  refine (formOf_2 d a k _).mono ?_
  rintro e w2 ⟨rfl, hb2⟩
  have B2 := B1.trans (hb2.mono B1.size)
  have T2 := T1.out.below hb2
  clear hb2 B1 T1
  go_wp2_with fail
  refine (words_2 d a _ d0 d1 a0 a1 T2).mono ?_
  rintro e w3 ⟨bk, rfl, hc, hbk, hb3⟩
  have B3 := B2.trans (hb3.mono B2.size)
  clear hb3 B2 T2
  go_wp2_with fail
  refine (joined 2 d a k bk _ HK.out hc hbk).mono ?_
  rintro e w4 ⟨rfl, hb4⟩
  have B4 := B3.trans (hb4.mono B3.size)
  clear hb4 B3 hc hbk
  obtain ⟨t, et⟩ : ∃ t, textS 2 d a k = t := ⟨_, rfl⟩
  rw [et]
  have ET := hide et
  clear et
  go_wp2
  go_ret
  exact ⟨ret_str ET.out.symm, B4⟩
set_option maxHeartbeats 4000000 in
theorem implText_3 (d a k : Int) (w : World) (h : okB 3 d a k = true) (ht : Tabs w) : Calls Tryz.prog 8 #[.agg #[.int .i64 3, .int .i64 d, .int .i64 a, .int .i64 k]] w fun e w' => e = .returned (.string (textS 3 d a k)) ∧ Below w.heap.size w w' := by
  have HK := hide h
  obtain ⟨_, _, d0, d1, a0, a1, k0, k1, hF⟩ := okB_bd h
  have k3 : k ≤ 3 := by have := form_r (op := 3) (by omega) (by omega) hF; omega
  clear h hF
  have HT := hide ht
  clear ht
  go_enter Tryz.func8, Tryz.ntmps8
  go_wp2_with fail
  refine (insOk 3 d a k _).mono ?_
  rintro e w1 ⟨rfl, hb⟩
  rw [HK.out]
  have B1 : Below w.heap.size w w1 := ((Below.refl _ _).alloc (Nat.le_refl _) _).trans (hb.mono (by simp))
  have T1 := hide ((HT.out.below ((Below.refl _ _).alloc (Nat.le_refl _) (.cells #[.int .i64 3, .int .i64 d, .int .i64 a, .int .i64 k] 24))).below hb)
  have c0 : w1.cell? ⟨w.heap.size, 0, none⟩ = some (.int .i64 3) := cell_below hb (by simp)
  have c1 : w1.cell? ⟨w.heap.size, 1, none⟩ = some (.int .i64 d) := cell_below hb (by simp)
  have c2 : w1.cell? ⟨w.heap.size, 2, none⟩ = some (.int .i64 a) := cell_below hb (by simp)
  have c3 : w1.cell? ⟨w.heap.size, 3, none⟩ = some (.int .i64 k) := cell_below hb (by simp)
  clear hb HT
  go_wp2_with fail
  refine (formOf_3 d a k _).mono ?_
  rintro e w2 ⟨rfl, hb2⟩
  have B2 := B1.trans (hb2.mono B1.size)
  have T2 := T1.out.below hb2
  clear hb2 B1 T1
  go_wp2_with fail
  refine (words_3 d a k _ d0 d1 a0 a1 k0 k3 T2).mono ?_
  rintro e w3 ⟨bk, rfl, hc, hbk, hb3⟩
  have B3 := B2.trans (hb3.mono B2.size)
  clear hb3 B2 T2
  go_wp2_with fail
  refine (joined 3 d a k bk _ HK.out hc hbk).mono ?_
  rintro e w4 ⟨rfl, hb4⟩
  have B4 := B3.trans (hb4.mono B3.size)
  clear hb4 B3 hc hbk
  obtain ⟨t, et⟩ : ∃ t, textS 3 d a k = t := ⟨_, rfl⟩
  rw [et]
  have ET := hide et
  clear et
  go_wp2
  go_ret
  exact ⟨ret_str ET.out.symm, B4⟩
set_option maxHeartbeats 4000000 in
theorem implText_4 (d a k : Int) (w : World) (h : okB 4 d a k = true) (ht : Tabs w) : Calls Tryz.prog 8 #[.agg #[.int .i64 4, .int .i64 d, .int .i64 a, .int .i64 k]] w fun e w' => e = .returned (.string (textS 4 d a k)) ∧ Below w.heap.size w w' := by
  have HK := hide h
  obtain ⟨_, _, d0, d1, a0, a1, k0, k1, hF⟩ := okB_bd h
  have k3 : k ≤ 3 := by have := form_r (op := 4) (by omega) (by omega) hF; omega
  clear h hF
  have HT := hide ht
  clear ht
  go_enter Tryz.func8, Tryz.ntmps8
  go_wp2_with fail
  refine (insOk 4 d a k _).mono ?_
  rintro e w1 ⟨rfl, hb⟩
  rw [HK.out]
  have B1 : Below w.heap.size w w1 := ((Below.refl _ _).alloc (Nat.le_refl _) _).trans (hb.mono (by simp))
  have T1 := hide ((HT.out.below ((Below.refl _ _).alloc (Nat.le_refl _) (.cells #[.int .i64 4, .int .i64 d, .int .i64 a, .int .i64 k] 24))).below hb)
  have c0 : w1.cell? ⟨w.heap.size, 0, none⟩ = some (.int .i64 4) := cell_below hb (by simp)
  have c1 : w1.cell? ⟨w.heap.size, 1, none⟩ = some (.int .i64 d) := cell_below hb (by simp)
  have c2 : w1.cell? ⟨w.heap.size, 2, none⟩ = some (.int .i64 a) := cell_below hb (by simp)
  have c3 : w1.cell? ⟨w.heap.size, 3, none⟩ = some (.int .i64 k) := cell_below hb (by simp)
  clear hb HT
  go_wp2_with fail
  refine (formOf_4 d a k _).mono ?_
  rintro e w2 ⟨rfl, hb2⟩
  have B2 := B1.trans (hb2.mono B1.size)
  have T2 := T1.out.below hb2
  clear hb2 B1 T1
  go_wp2_with fail
  refine (words_4 d a k _ d0 d1 a0 a1 k0 k3 T2).mono ?_
  rintro e w3 ⟨bk, rfl, hc, hbk, hb3⟩
  have B3 := B2.trans (hb3.mono B2.size)
  clear hb3 B2 T2
  go_wp2_with fail
  refine (joined 4 d a k bk _ HK.out hc hbk).mono ?_
  rintro e w4 ⟨rfl, hb4⟩
  have B4 := B3.trans (hb4.mono B3.size)
  clear hb4 B3 hc hbk
  obtain ⟨t, et⟩ : ∃ t, textS 4 d a k = t := ⟨_, rfl⟩
  rw [et]
  have ET := hide et
  clear et
  go_wp2
  go_ret
  exact ⟨ret_str ET.out.symm, B4⟩
set_option maxHeartbeats 4000000 in
theorem implText_5 (d a k : Int) (w : World) (h : okB 5 d a k = true) (ht : Tabs w) : Calls Tryz.prog 8 #[.agg #[.int .i64 5, .int .i64 d, .int .i64 a, .int .i64 k]] w fun e w' => e = .returned (.string (textS 5 d a k)) ∧ Below w.heap.size w w' := by
  have HK := hide h
  obtain ⟨_, _, d0, d1, a0, a1, k0, k1, hF⟩ := okB_bd h
  have k3 : k ≤ 3 := by have := form_r (op := 5) (by omega) (by omega) hF; omega
  clear h hF
  have HT := hide ht
  clear ht
  go_enter Tryz.func8, Tryz.ntmps8
  go_wp2_with fail
  refine (insOk 5 d a k _).mono ?_
  rintro e w1 ⟨rfl, hb⟩
  rw [HK.out]
  have B1 : Below w.heap.size w w1 := ((Below.refl _ _).alloc (Nat.le_refl _) _).trans (hb.mono (by simp))
  have T1 := hide ((HT.out.below ((Below.refl _ _).alloc (Nat.le_refl _) (.cells #[.int .i64 5, .int .i64 d, .int .i64 a, .int .i64 k] 24))).below hb)
  have c0 : w1.cell? ⟨w.heap.size, 0, none⟩ = some (.int .i64 5) := cell_below hb (by simp)
  have c1 : w1.cell? ⟨w.heap.size, 1, none⟩ = some (.int .i64 d) := cell_below hb (by simp)
  have c2 : w1.cell? ⟨w.heap.size, 2, none⟩ = some (.int .i64 a) := cell_below hb (by simp)
  have c3 : w1.cell? ⟨w.heap.size, 3, none⟩ = some (.int .i64 k) := cell_below hb (by simp)
  clear hb HT
  go_wp2_with fail
  refine (formOf_5 d a k _).mono ?_
  rintro e w2 ⟨rfl, hb2⟩
  have B2 := B1.trans (hb2.mono B1.size)
  have T2 := T1.out.below hb2
  clear hb2 B1 T1
  go_wp2_with fail
  refine (words_5 d a k _ d0 d1 a0 a1 k0 k3 T2).mono ?_
  rintro e w3 ⟨bk, rfl, hc, hbk, hb3⟩
  have B3 := B2.trans (hb3.mono B2.size)
  clear hb3 B2 T2
  go_wp2_with fail
  refine (joined 5 d a k bk _ HK.out hc hbk).mono ?_
  rintro e w4 ⟨rfl, hb4⟩
  have B4 := B3.trans (hb4.mono B3.size)
  clear hb4 B3 hc hbk
  obtain ⟨t, et⟩ : ∃ t, textS 5 d a k = t := ⟨_, rfl⟩
  rw [et]
  have ET := hide et
  clear et
  go_wp2
  go_ret
  exact ⟨ret_str ET.out.symm, B4⟩
set_option maxHeartbeats 4000000 in
theorem implText_6 (d a k : Int) (w : World) (h : okB 6 d a k = true) (ht : Tabs w) : Calls Tryz.prog 8 #[.agg #[.int .i64 6, .int .i64 d, .int .i64 a, .int .i64 k]] w fun e w' => e = .returned (.string (textS 6 d a k)) ∧ Below w.heap.size w w' := by
  have HK := hide h
  obtain ⟨_, _, d0, d1, a0, a1, k0, k1, hF⟩ := okB_bd h
  have k3 : k ≤ 3 := by have := form_r (op := 6) (by omega) (by omega) hF; omega
  clear h hF
  have HT := hide ht
  clear ht
  go_enter Tryz.func8, Tryz.ntmps8
  go_wp2_with fail
  refine (insOk 6 d a k _).mono ?_
  rintro e w1 ⟨rfl, hb⟩
  rw [HK.out]
  have B1 : Below w.heap.size w w1 := ((Below.refl _ _).alloc (Nat.le_refl _) _).trans (hb.mono (by simp))
  have T1 := hide ((HT.out.below ((Below.refl _ _).alloc (Nat.le_refl _) (.cells #[.int .i64 6, .int .i64 d, .int .i64 a, .int .i64 k] 24))).below hb)
  have c0 : w1.cell? ⟨w.heap.size, 0, none⟩ = some (.int .i64 6) := cell_below hb (by simp)
  have c1 : w1.cell? ⟨w.heap.size, 1, none⟩ = some (.int .i64 d) := cell_below hb (by simp)
  have c2 : w1.cell? ⟨w.heap.size, 2, none⟩ = some (.int .i64 a) := cell_below hb (by simp)
  have c3 : w1.cell? ⟨w.heap.size, 3, none⟩ = some (.int .i64 k) := cell_below hb (by simp)
  clear hb HT
  go_wp2_with fail
  refine (formOf_6 d a k _).mono ?_
  rintro e w2 ⟨rfl, hb2⟩
  have B2 := B1.trans (hb2.mono B1.size)
  have T2 := T1.out.below hb2
  clear hb2 B1 T1
  go_wp2_with fail
  refine (words_6 d a k _ d0 d1 a0 a1 k0 k3 T2).mono ?_
  rintro e w3 ⟨bk, rfl, hc, hbk, hb3⟩
  have B3 := B2.trans (hb3.mono B2.size)
  clear hb3 B2 T2
  go_wp2_with fail
  refine (joined 6 d a k bk _ HK.out hc hbk).mono ?_
  rintro e w4 ⟨rfl, hb4⟩
  have B4 := B3.trans (hb4.mono B3.size)
  clear hb4 B3 hc hbk
  obtain ⟨t, et⟩ : ∃ t, textS 6 d a k = t := ⟨_, rfl⟩
  rw [et]
  have ET := hide et
  clear et
  go_wp2
  go_ret
  exact ⟨ret_str ET.out.symm, B4⟩
set_option maxHeartbeats 4000000 in
theorem implText_7 (d a k : Int) (w : World) (h : okB 7 d a k = true) (ht : Tabs w) : Calls Tryz.prog 8 #[.agg #[.int .i64 7, .int .i64 d, .int .i64 a, .int .i64 k]] w fun e w' => e = .returned (.string (textS 7 d a k)) ∧ Below w.heap.size w w' := by
  have HK := hide h
  obtain ⟨_, _, d0, d1, a0, a1, k0, k1, hF⟩ := okB_bd h
  have k3 : k ≤ 3 := by have := form_r (op := 7) (by omega) (by omega) hF; omega
  clear h hF
  have HT := hide ht
  clear ht
  go_enter Tryz.func8, Tryz.ntmps8
  go_wp2_with fail
  refine (insOk 7 d a k _).mono ?_
  rintro e w1 ⟨rfl, hb⟩
  rw [HK.out]
  have B1 : Below w.heap.size w w1 := ((Below.refl _ _).alloc (Nat.le_refl _) _).trans (hb.mono (by simp))
  have T1 := hide ((HT.out.below ((Below.refl _ _).alloc (Nat.le_refl _) (.cells #[.int .i64 7, .int .i64 d, .int .i64 a, .int .i64 k] 24))).below hb)
  have c0 : w1.cell? ⟨w.heap.size, 0, none⟩ = some (.int .i64 7) := cell_below hb (by simp)
  have c1 : w1.cell? ⟨w.heap.size, 1, none⟩ = some (.int .i64 d) := cell_below hb (by simp)
  have c2 : w1.cell? ⟨w.heap.size, 2, none⟩ = some (.int .i64 a) := cell_below hb (by simp)
  have c3 : w1.cell? ⟨w.heap.size, 3, none⟩ = some (.int .i64 k) := cell_below hb (by simp)
  clear hb HT
  go_wp2_with fail
  refine (formOf_7 d a k _).mono ?_
  rintro e w2 ⟨rfl, hb2⟩
  have B2 := B1.trans (hb2.mono B1.size)
  have T2 := T1.out.below hb2
  clear hb2 B1 T1
  go_wp2_with fail
  refine (words_7 d a k _ d0 d1 a0 a1 k0 k3 T2).mono ?_
  rintro e w3 ⟨bk, rfl, hc, hbk, hb3⟩
  have B3 := B2.trans (hb3.mono B2.size)
  clear hb3 B2 T2
  go_wp2_with fail
  refine (joined 7 d a k bk _ HK.out hc hbk).mono ?_
  rintro e w4 ⟨rfl, hb4⟩
  have B4 := B3.trans (hb4.mono B3.size)
  clear hb4 B3 hc hbk
  obtain ⟨t, et⟩ : ∃ t, textS 7 d a k = t := ⟨_, rfl⟩
  rw [et]
  have ET := hide et
  clear et
  go_wp2
  go_ret
  exact ⟨ret_str ET.out.symm, B4⟩
set_option maxHeartbeats 4000000 in
theorem implText_8 (d a k : Int) (w : World) (h : okB 8 d a k = true) (ht : Tabs w) : Calls Tryz.prog 8 #[.agg #[.int .i64 8, .int .i64 d, .int .i64 a, .int .i64 k]] w fun e w' => e = .returned (.string (textS 8 d a k)) ∧ Below w.heap.size w w' := by
  have HK := hide h
  obtain ⟨_, _, d0, d1, a0, a1, k0, k1, hF⟩ := okB_bd h
  clear h hF
  have HT := hide ht
  clear ht
  go_enter Tryz.func8, Tryz.ntmps8
  go_wp2_with fail
  refine (insOk 8 d a k _).mono ?_
  rintro e w1 ⟨rfl, hb⟩
  rw [HK.out]
  have B1 : Below w.heap.size w w1 := ((Below.refl _ _).alloc (Nat.le_refl _) _).trans (hb.mono (by simp))
  have T1 := hide ((HT.out.below ((Below.refl _ _).alloc (Nat.le_refl _) (.cells #[.int .i64 8, .int .i64 d, .int .i64 a, .int .i64 k] 24))).below hb)
  have c0 : w1.cell? ⟨w.heap.size, 0, none⟩ = some (.int .i64 8) := cell_below hb (by simp)
  have c1 : w1.cell? ⟨w.heap.size, 1, none⟩ = some (.int .i64 d) := cell_below hb (by simp)
  have c2 : w1.cell? ⟨w.heap.size, 2, none⟩ = some (.int .i64 a) := cell_below hb (by simp)
  have c3 : w1.cell? ⟨w.heap.size, 3, none⟩ = some (.int .i64 k) := cell_below hb (by simp)
  clear hb HT
  go_wp2_with fail
  refine (formOf_8 d a k _).mono ?_
  rintro e w2 ⟨rfl, hb2⟩
  have B2 := B1.trans (hb2.mono B1.size)
  have T2 := T1.out.below hb2
  clear hb2 B1 T1
  go_wp2_with fail
  refine (words_8 d a k _ d0 d1 a0 a1 k0 k1 T2).mono ?_
  rintro e w3 ⟨bk, rfl, hc, hbk, hb3⟩
  have B3 := B2.trans (hb3.mono B2.size)
  clear hb3 B2 T2
  go_wp2_with fail
  refine (joined 8 d a k bk _ HK.out hc hbk).mono ?_
  rintro e w4 ⟨rfl, hb4⟩
  have B4 := B3.trans (hb4.mono B3.size)
  clear hb4 B3 hc hbk
  obtain ⟨t, et⟩ : ∃ t, textS 8 d a k = t := ⟨_, rfl⟩
  rw [et]
  have ET := hide et
  clear et
  go_wp2
  go_ret
  exact ⟨ret_str ET.out.symm, B4⟩
set_option maxHeartbeats 4000000 in
theorem implText_9 (d a k : Int) (w : World) (h : okB 9 d a k = true) (ht : Tabs w) : Calls Tryz.prog 8 #[.agg #[.int .i64 9, .int .i64 d, .int .i64 a, .int .i64 k]] w fun e w' => e = .returned (.string (textS 9 d a k)) ∧ Below w.heap.size w w' := by
  have HK := hide h
  obtain ⟨_, _, d0, d1, a0, a1, k0, k1, hF⟩ := okB_bd h
  clear h hF
  have HT := hide ht
  clear ht
  go_enter Tryz.func8, Tryz.ntmps8
  go_wp2_with fail
  refine (insOk 9 d a k _).mono ?_
  rintro e w1 ⟨rfl, hb⟩
  rw [HK.out]
  have B1 : Below w.heap.size w w1 := ((Below.refl _ _).alloc (Nat.le_refl _) _).trans (hb.mono (by simp))
  have T1 := hide ((HT.out.below ((Below.refl _ _).alloc (Nat.le_refl _) (.cells #[.int .i64 9, .int .i64 d, .int .i64 a, .int .i64 k] 24))).below hb)
  have c0 : w1.cell? ⟨w.heap.size, 0, none⟩ = some (.int .i64 9) := cell_below hb (by simp)
  have c1 : w1.cell? ⟨w.heap.size, 1, none⟩ = some (.int .i64 d) := cell_below hb (by simp)
  have c2 : w1.cell? ⟨w.heap.size, 2, none⟩ = some (.int .i64 a) := cell_below hb (by simp)
  have c3 : w1.cell? ⟨w.heap.size, 3, none⟩ = some (.int .i64 k) := cell_below hb (by simp)
  clear hb HT
  go_wp2_with fail
  refine (formOf_9 d a k _).mono ?_
  rintro e w2 ⟨rfl, hb2⟩
  have B2 := B1.trans (hb2.mono B1.size)
  have T2 := T1.out.below hb2
  clear hb2 B1 T1
  go_wp2_with fail
  refine (words_9 d a k _ d0 d1 a0 a1 k0 k1 T2).mono ?_
  rintro e w3 ⟨bk, rfl, hc, hbk, hb3⟩
  have B3 := B2.trans (hb3.mono B2.size)
  clear hb3 B2 T2
  go_wp2_with fail
  refine (joined 9 d a k bk _ HK.out hc hbk).mono ?_
  rintro e w4 ⟨rfl, hb4⟩
  have B4 := B3.trans (hb4.mono B3.size)
  clear hb4 B3 hc hbk
  obtain ⟨t, et⟩ : ∃ t, textS 9 d a k = t := ⟨_, rfl⟩
  rw [et]
  have ET := hide et
  clear et
  go_wp2
  go_ret
  exact ⟨ret_str ET.out.symm, B4⟩
set_option maxHeartbeats 4000000 in
theorem implText_10 (d a k : Int) (w : World) (h : okB 10 d a k = true) (ht : Tabs w) : Calls Tryz.prog 8 #[.agg #[.int .i64 10, .int .i64 d, .int .i64 a, .int .i64 k]] w fun e w' => e = .returned (.string (textS 10 d a k)) ∧ Below w.heap.size w w' := by
  have HK := hide h
  obtain ⟨_, _, d0, d1, a0, a1, k0, k1, hF⟩ := okB_bd h
  clear h hF
  have HT := hide ht
  clear ht
  go_enter Tryz.func8, Tryz.ntmps8
  go_wp2_with fail
  refine (insOk 10 d a k _).mono ?_
  rintro e w1 ⟨rfl, hb⟩
  rw [HK.out]
  have B1 : Below w.heap.size w w1 := ((Below.refl _ _).alloc (Nat.le_refl _) _).trans (hb.mono (by simp))
  have T1 := hide ((HT.out.below ((Below.refl _ _).alloc (Nat.le_refl _) (.cells #[.int .i64 10, .int .i64 d, .int .i64 a, .int .i64 k] 24))).below hb)
  have c0 : w1.cell? ⟨w.heap.size, 0, none⟩ = some (.int .i64 10) := cell_below hb (by simp)
  have c1 : w1.cell? ⟨w.heap.size, 1, none⟩ = some (.int .i64 d) := cell_below hb (by simp)
  have c2 : w1.cell? ⟨w.heap.size, 2, none⟩ = some (.int .i64 a) := cell_below hb (by simp)
  have c3 : w1.cell? ⟨w.heap.size, 3, none⟩ = some (.int .i64 k) := cell_below hb (by simp)
  clear hb HT
  go_wp2_with fail
  refine (formOf_10 d a k _).mono ?_
  rintro e w2 ⟨rfl, hb2⟩
  have B2 := B1.trans (hb2.mono B1.size)
  have T2 := T1.out.below hb2
  clear hb2 B1 T1
  go_wp2_with fail
  refine (words_10 d a k _ d0 d1 a0 a1 k0 k1 T2).mono ?_
  rintro e w3 ⟨bk, rfl, hc, hbk, hb3⟩
  have B3 := B2.trans (hb3.mono B2.size)
  clear hb3 B2 T2
  go_wp2_with fail
  refine (joined 10 d a k bk _ HK.out hc hbk).mono ?_
  rintro e w4 ⟨rfl, hb4⟩
  have B4 := B3.trans (hb4.mono B3.size)
  clear hb4 B3 hc hbk
  obtain ⟨t, et⟩ : ∃ t, textS 10 d a k = t := ⟨_, rfl⟩
  rw [et]
  have ET := hide et
  clear et
  go_wp2
  go_ret
  exact ⟨ret_str ET.out.symm, B4⟩
set_option maxHeartbeats 4000000 in
theorem implText_11 (d a k : Int) (w : World) (h : okB 11 d a k = true) (ht : Tabs w) : Calls Tryz.prog 8 #[.agg #[.int .i64 11, .int .i64 d, .int .i64 a, .int .i64 k]] w fun e w' => e = .returned (.string (textS 11 d a k)) ∧ Below w.heap.size w w' := by
  have HK := hide h
  obtain ⟨_, _, d0, d1, a0, a1, k0, k1, hF⟩ := okB_bd h
  clear h hF
  have HT := hide ht
  clear ht
  go_enter Tryz.func8, Tryz.ntmps8
  go_wp2_with fail
  refine (insOk 11 d a k _).mono ?_
  rintro e w1 ⟨rfl, hb⟩
  rw [HK.out]
  have B1 : Below w.heap.size w w1 := ((Below.refl _ _).alloc (Nat.le_refl _) _).trans (hb.mono (by simp))
  have T1 := hide ((HT.out.below ((Below.refl _ _).alloc (Nat.le_refl _) (.cells #[.int .i64 11, .int .i64 d, .int .i64 a, .int .i64 k] 24))).below hb)
  have c0 : w1.cell? ⟨w.heap.size, 0, none⟩ = some (.int .i64 11) := cell_below hb (by simp)
  have c1 : w1.cell? ⟨w.heap.size, 1, none⟩ = some (.int .i64 d) := cell_below hb (by simp)
  have c2 : w1.cell? ⟨w.heap.size, 2, none⟩ = some (.int .i64 a) := cell_below hb (by simp)
  have c3 : w1.cell? ⟨w.heap.size, 3, none⟩ = some (.int .i64 k) := cell_below hb (by simp)
  clear hb HT
  go_wp2_with fail
  refine (formOf_11 d a k _).mono ?_
  rintro e w2 ⟨rfl, hb2⟩
  have B2 := B1.trans (hb2.mono B1.size)
  have T2 := T1.out.below hb2
  clear hb2 B1 T1
  go_wp2_with fail
  refine (words_11 d a k _ d0 d1 a0 a1 k0 k1 T2).mono ?_
  rintro e w3 ⟨bk, rfl, hc, hbk, hb3⟩
  have B3 := B2.trans (hb3.mono B2.size)
  clear hb3 B2 T2
  go_wp2_with fail
  refine (joined 11 d a k bk _ HK.out hc hbk).mono ?_
  rintro e w4 ⟨rfl, hb4⟩
  have B4 := B3.trans (hb4.mono B3.size)
  clear hb4 B3 hc hbk
  obtain ⟨t, et⟩ : ∃ t, textS 11 d a k = t := ⟨_, rfl⟩
  rw [et]
  have ET := hide et
  clear et
  go_wp2
  go_ret
  exact ⟨ret_str ET.out.symm, B4⟩
set_option maxHeartbeats 4000000 in
theorem implText_12 (d a k : Int) (w : World) (h : okB 12 d a k = true) (ht : Tabs w) : Calls Tryz.prog 8 #[.agg #[.int .i64 12, .int .i64 d, .int .i64 a, .int .i64 k]] w fun e w' => e = .returned (.string (textS 12 d a k)) ∧ Below w.heap.size w w' := by
  have HK := hide h
  obtain ⟨_, _, d0, d1, a0, a1, k0, k1, hF⟩ := okB_bd h
  clear h hF
  have HT := hide ht
  clear ht
  go_enter Tryz.func8, Tryz.ntmps8
  go_wp2_with fail
  refine (insOk 12 d a k _).mono ?_
  rintro e w1 ⟨rfl, hb⟩
  rw [HK.out]
  have B1 : Below w.heap.size w w1 := ((Below.refl _ _).alloc (Nat.le_refl _) _).trans (hb.mono (by simp))
  have T1 := hide ((HT.out.below ((Below.refl _ _).alloc (Nat.le_refl _) (.cells #[.int .i64 12, .int .i64 d, .int .i64 a, .int .i64 k] 24))).below hb)
  have c0 : w1.cell? ⟨w.heap.size, 0, none⟩ = some (.int .i64 12) := cell_below hb (by simp)
  have c1 : w1.cell? ⟨w.heap.size, 1, none⟩ = some (.int .i64 d) := cell_below hb (by simp)
  have c2 : w1.cell? ⟨w.heap.size, 2, none⟩ = some (.int .i64 a) := cell_below hb (by simp)
  have c3 : w1.cell? ⟨w.heap.size, 3, none⟩ = some (.int .i64 k) := cell_below hb (by simp)
  clear hb HT
  go_wp2_with fail
  refine (formOf_12 d a k _).mono ?_
  rintro e w2 ⟨rfl, hb2⟩
  have B2 := B1.trans (hb2.mono B1.size)
  have T2 := T1.out.below hb2
  clear hb2 B1 T1
  go_wp2_with fail
  refine (words_12 d a k _ d0 d1 a0 a1 k0 k1 T2).mono ?_
  rintro e w3 ⟨bk, rfl, hc, hbk, hb3⟩
  have B3 := B2.trans (hb3.mono B2.size)
  clear hb3 B2 T2
  go_wp2_with fail
  refine (joined 12 d a k bk _ HK.out hc hbk).mono ?_
  rintro e w4 ⟨rfl, hb4⟩
  have B4 := B3.trans (hb4.mono B3.size)
  clear hb4 B3 hc hbk
  obtain ⟨t, et⟩ : ∃ t, textS 12 d a k = t := ⟨_, rfl⟩
  rw [et]
  have ET := hide et
  clear et
  go_wp2
  go_ret
  exact ⟨ret_str ET.out.symm, B4⟩
set_option maxHeartbeats 4000000 in
theorem implText_13 (d a k : Int) (w : World) (h : okB 13 d a k = true) (ht : Tabs w) : Calls Tryz.prog 8 #[.agg #[.int .i64 13, .int .i64 d, .int .i64 a, .int .i64 k]] w fun e w' => e = .returned (.string (textS 13 d a k)) ∧ Below w.heap.size w w' := by
  have HK := hide h
  obtain ⟨_, _, d0, d1, a0, a1, k0, k1, hF⟩ := okB_bd h
  clear h hF
  have HT := hide ht
  clear ht
  go_enter Tryz.func8, Tryz.ntmps8
  go_wp2_with fail
  refine (insOk 13 d a k _).mono ?_
  rintro e w1 ⟨rfl, hb⟩
  rw [HK.out]
  have B1 : Below w.heap.size w w1 := ((Below.refl _ _).alloc (Nat.le_refl _) _).trans (hb.mono (by simp))
  have T1 := hide ((HT.out.below ((Below.refl _ _).alloc (Nat.le_refl _) (.cells #[.int .i64 13, .int .i64 d, .int .i64 a, .int .i64 k] 24))).below hb)
  have c0 : w1.cell? ⟨w.heap.size, 0, none⟩ = some (.int .i64 13) := cell_below hb (by simp)
  have c1 : w1.cell? ⟨w.heap.size, 1, none⟩ = some (.int .i64 d) := cell_below hb (by simp)
  have c2 : w1.cell? ⟨w.heap.size, 2, none⟩ = some (.int .i64 a) := cell_below hb (by simp)
  have c3 : w1.cell? ⟨w.heap.size, 3, none⟩ = some (.int .i64 k) := cell_below hb (by simp)
  clear hb HT
  go_wp2_with fail
  refine (formOf_13 d a k _).mono ?_
  rintro e w2 ⟨rfl, hb2⟩
  have B2 := B1.trans (hb2.mono B1.size)
  have T2 := T1.out.below hb2
  clear hb2 B1 T1
  go_wp2_with fail
  refine (words_13 a _ a0 a1 T2).mono ?_
  rintro e w3 ⟨bk, rfl, hc, hbk, hb3⟩
  have B3 := B2.trans (hb3.mono B2.size)
  clear hb3 B2 T2
  go_wp2_with fail
  refine (joined 13 d a k bk _ HK.out hc hbk).mono ?_
  rintro e w4 ⟨rfl, hb4⟩
  have B4 := B3.trans (hb4.mono B3.size)
  clear hb4 B3 hc hbk
  obtain ⟨t, et⟩ : ∃ t, textS 13 d a k = t := ⟨_, rfl⟩
  rw [et]
  have ET := hide et
  clear et
  go_wp2
  go_ret
  exact ⟨ret_str ET.out.symm, B4⟩
set_option maxHeartbeats 4000000 in
theorem implText_14 (d a k : Int) (w : World) (h : okB 14 d a k = true) (ht : Tabs w) : Calls Tryz.prog 8 #[.agg #[.int .i64 14, .int .i64 d, .int .i64 a, .int .i64 k]] w fun e w' => e = .returned (.string (textS 14 d a k)) ∧ Below w.heap.size w w' := by
  have HK := hide h
  obtain ⟨_, _, d0, d1, a0, a1, k0, k1, hF⟩ := okB_bd h
  clear h hF
  have HT := hide ht
  clear ht
  go_enter Tryz.func8, Tryz.ntmps8
  go_wp2_with fail
  refine (insOk 14 d a k _).mono ?_
  rintro e w1 ⟨rfl, hb⟩
  rw [HK.out]
  have B1 : Below w.heap.size w w1 := ((Below.refl _ _).alloc (Nat.le_refl _) _).trans (hb.mono (by simp))
  have T1 := hide ((HT.out.below ((Below.refl _ _).alloc (Nat.le_refl _) (.cells #[.int .i64 14, .int .i64 d, .int .i64 a, .int .i64 k] 24))).below hb)
  have c0 : w1.cell? ⟨w.heap.size, 0, none⟩ = some (.int .i64 14) := cell_below hb (by simp)
  have c1 : w1.cell? ⟨w.heap.size, 1, none⟩ = some (.int .i64 d) := cell_below hb (by simp)
  have c2 : w1.cell? ⟨w.heap.size, 2, none⟩ = some (.int .i64 a) := cell_below hb (by simp)
  have c3 : w1.cell? ⟨w.heap.size, 3, none⟩ = some (.int .i64 k) := cell_below hb (by simp)
  clear hb HT
  go_wp2_with fail
  refine (formOf_14 d a k _).mono ?_
  rintro e w2 ⟨rfl, hb2⟩
  have B2 := B1.trans (hb2.mono B1.size)
  have T2 := T1.out.below hb2
  clear hb2 B1 T1
  go_wp2_with fail
  refine (words_14 d _ d0 d1 T2).mono ?_
  rintro e w3 ⟨bk, rfl, hc, hbk, hb3⟩
  have B3 := B2.trans (hb3.mono B2.size)
  clear hb3 B2 T2
  go_wp2_with fail
  refine (joined 14 d a k bk _ HK.out hc hbk).mono ?_
  rintro e w4 ⟨rfl, hb4⟩
  have B4 := B3.trans (hb4.mono B3.size)
  clear hb4 B3 hc hbk
  obtain ⟨t, et⟩ : ∃ t, textS 14 d a k = t := ⟨_, rfl⟩
  rw [et]
  have ET := hide et
  clear et
  go_wp2
  go_ret
  exact ⟨ret_str ET.out.symm, B4⟩
set_option maxHeartbeats 4000000 in
theorem implText_15 (d a k : Int) (w : World) (h : okB 15 d a k = true) (ht : Tabs w) : Calls Tryz.prog 8 #[.agg #[.int .i64 15, .int .i64 d, .int .i64 a, .int .i64 k]] w fun e w' => e = .returned (.string (textS 15 d a k)) ∧ Below w.heap.size w w' := by
  have HK := hide h
  obtain ⟨_, _, d0, d1, a0, a1, k0, k1, hF⟩ := okB_bd h
  clear h hF
  have HT := hide ht
  clear ht
  go_enter Tryz.func8, Tryz.ntmps8
  go_wp2_with fail
  refine (insOk 15 d a k _).mono ?_
  rintro e w1 ⟨rfl, hb⟩
  rw [HK.out]
  have B1 : Below w.heap.size w w1 := ((Below.refl _ _).alloc (Nat.le_refl _) _).trans (hb.mono (by simp))
  have T1 := hide ((HT.out.below ((Below.refl _ _).alloc (Nat.le_refl _) (.cells #[.int .i64 15, .int .i64 d, .int .i64 a, .int .i64 k] 24))).below hb)
  have c0 : w1.cell? ⟨w.heap.size, 0, none⟩ = some (.int .i64 15) := cell_below hb (by simp)
  have c1 : w1.cell? ⟨w.heap.size, 1, none⟩ = some (.int .i64 d) := cell_below hb (by simp)
  have c2 : w1.cell? ⟨w.heap.size, 2, none⟩ = some (.int .i64 a) := cell_below hb (by simp)
  have c3 : w1.cell? ⟨w.heap.size, 3, none⟩ = some (.int .i64 k) := cell_below hb (by simp)
  clear hb HT
  go_wp2_with fail
  refine (formOf_15 d a k _).mono ?_
  rintro e w2 ⟨rfl, hb2⟩
  have B2 := B1.trans (hb2.mono B1.size)
  have T2 := T1.out.below hb2
  clear hb2 B1 T1
  go_wp2_with fail
  refine (words_15 d _ d0 d1 T2).mono ?_
  rintro e w3 ⟨bk, rfl, hc, hbk, hb3⟩
  have B3 := B2.trans (hb3.mono B2.size)
  clear hb3 B2 T2
  go_wp2_with fail
  refine (joined 15 d a k bk _ HK.out hc hbk).mono ?_
  rintro e w4 ⟨rfl, hb4⟩
  have B4 := B3.trans (hb4.mono B3.size)
  clear hb4 B3 hc hbk
  obtain ⟨t, et⟩ : ∃ t, textS 15 d a k = t := ⟨_, rfl⟩
  rw [et]
  have ET := hide et
  clear et
  go_wp2
  go_ret
  exact ⟨ret_str ET.out.symm, B4⟩
theorem implText (op d a k : Int) (w : World) (ht : Tabs w) : Calls Tryz.prog 8 #[.agg #[.int .i64 op, .int .i64 d, .int .i64 a, .int .i64 k]] w fun e w' => e = .returned (.string (itext op d a k)) ∧ Below w.heap.size w w' := by
  unfold itext
  cases h : okB op d a k with
  | true =>
    obtain ⟨o0, o1, _⟩ := okB_bd h
    have ho : op = 0 ∨ op = 1 ∨ op = 2 ∨ op = 3 ∨ op = 4 ∨ op = 5 ∨ op = 6 ∨ op = 7 ∨ op = 8 ∨ op = 9 ∨ op = 10 ∨ op = 11 ∨ op = 12 ∨ op = 13 ∨ op = 14 ∨ op = 15 := by omega
    rcases ho with rfl | rfl | rfl | rfl | rfl | rfl | rfl | rfl | rfl | rfl | rfl | rfl | rfl | rfl | rfl | rfl
    · exact implText_0 d a k w h ht
    · exact implText_1 d a k w h ht
    · exact implText_2 d a k w h ht
    · exact implText_3 d a k w h ht
    · exact implText_4 d a k w h ht
    · exact implText_5 d a k w h ht
    · exact implText_6 d a k w h ht
    · exact implText_7 d a k w h ht
    · exact implText_8 d a k w h ht
    · exact implText_9 d a k w h ht
    · exact implText_10 d a k w h ht
    · exact implText_11 d a k w h ht
    · exact implText_12 d a k w h ht
    · exact implText_13 d a k w h ht
    · exact implText_14 d a k w h ht
    · exact implText_15 d a k w h ht
  | false =>
    go_enter Tryz.func8, Tryz.ntmps8
    go_wp2_with fail
    refine (insOk op d a k _).mono ?_
    rintro e w1 ⟨rfl, hb⟩
    rw [h]
    have B1 : Below w.heap.size w w1 := ((Below.refl _ _).alloc (Nat.le_refl _) _).trans (hb.mono (by simp))
    clear hb h
    go_wp2
    go_ret
    exact ⟨rfl, B1⟩
end Go.Proofs.YthpajjlhjfhdpaaGreatDoor.InsI
