/-
  The contracts of InsRead, the program's and the specification's: of the text of an instruction that is ok that instruction, and true; of any other line nothing, and false.
-/
import Derived.Test.YthpajjlhjfhdpaaGreatDoorInsN
import Derived.Test.YthpajjlhjfhdpaaGreatDoorInsY
namespace Go.Proofs.YthpajjlhjfhdpaaGreatDoor.InsI
open Go.ChangeShapes Go.WideShapes Go.ChangeAt Go.RowKit Ins
set_option maxRecDepth 8000 in
set_option maxHeartbeats 8000000 in
theorem guess_many (n : Nat) (h5 : 5 ≤ n) (hn : n ≤ 21) (xs : List (List UInt8)) (hx : xs.length = n) (y0 : ByteArray) (b : Nat) (w : World) (c0 : w.cell? ⟨b, 0, none⟩ = some (.string y0)) (ht : RT w) :
    Calls Tryz.prog 18 #[.slice (some ⟨b, 0, none⟩) n n] w (Guessed w xs) := by
  have c0' : (w.alloc (.cells #[.int .i64 0, .int .i64 0, .int .i64 0, .int .i64 0] 24)).cell? ⟨b, 0, none⟩ = some (.string y0) := cell_below ((Below.refl _ _).alloc (Nat.le_refl _) _) c0
  have HT := hide ht
  have HG := hide (guess_long (xs := xs) (by omega))
  obtain ⟨m, rfl⟩ : ∃ m : Nat, n = m + 5 := ⟨n - 5, by omega⟩
  clear c0 ht hx h5
  go_enter Tryz.func18, Tryz.ntmps18
  go_wp2_with fail
  refine (byName y0 _ (HT.out.tabs.below ((Below.refl _ _).alloc (Nat.le_refl _) _))).mono ?_
  rintro e w1 ⟨o, t, hop, rfl, hb⟩
  have zB := (Blk.new w 0 0 0 0 24).below hb
  have BW : Below w.heap.size w w1 := ((Below.refl _ _).alloc (Nat.le_refl _) _).trans (hb.mono (by simp))
  clear hb c0' hop
  obtain ⟨zlt, z0, z1, z2, z3, g0, g1, g2, g3⟩ := zB
  by_cases e : o = -1
  · subst e
    go_wp2
    all_goals exact bodyPost_ret (v := .tuple #[.agg #[.int .i64 0, .int .i64 0, .int .i64 0, .int .i64 0], .bool false]) (by simp [results, Tryz.results18, go_sem, z0, z1, z2, z3, zlt]) rfl ⟨_, _, _, _, _, rfl, HG.out, ((((BW.setCell (Nat.le_refl _) _).setCell (Nat.le_refl _) _).setCell (Nat.le_refl _) _).setCell (Nat.le_refl _) _).alloc (Nat.le_of_lt (by simpa [World.setCell] using zlt)) _⟩
  · have ne : (o != -1) = true := by simpa using e
    have d1 : decide (o = -1) = false := decide_eq_false e
    rw [if_neg e]
    clear e
    go_wp2
    all_goals exact bodyPost_ret (v := .tuple #[.agg #[.int .i64 0, .int .i64 0, .int .i64 0, .int .i64 0], .bool false]) (by simp [results, Tryz.results18, go_sem, z0, z1, z2, z3, zlt]) rfl ⟨_, _, _, _, _, rfl, HG.out, ((((BW.setCell (Nat.le_refl _) _).setCell (Nat.le_refl _) _).setCell (Nat.le_refl _) _).setCell (Nat.le_refl _) _).alloc (Nat.le_of_lt (by simpa [World.setCell] using zlt)) _⟩
theorem guess (ys : List ByteArray) (b : Nat) (w : World) (h1 : 1 ≤ ys.length) (hl : ys.length ≤ 21) (hs : ∀ x, x ∈ ys → x.size ≤ 1000) (hc : ∀ (j : Nat) x, ys[j]? = some x → w.cell? ⟨b, j, none⟩ = some (.string x)) (ht : RT w) :
    Calls Tryz.prog 18 #[.slice (some ⟨b, 0, none⟩) ys.length ys.length] w (Guessed w (ys.map (·.data.toList))) := by
  match ys, h1, hl, hs, hc with
  | [y0], _, _, _, hc => exact guess_0 y0 b w (hc 0 _ rfl) ht
  | [y0, y1], _, _, hs, hc => exact guess_1 y0 y1 b w (hs _ (by simp)) (hc 0 _ rfl) (hc 1 _ rfl) ht
  | [y0, y1, y2], _, _, hs, hc => exact guess_2 y0 y1 y2 b w (hs _ (by simp)) (hs _ (by simp)) (hc 0 _ rfl) (hc 1 _ rfl) (hc 2 _ rfl) ht
  | [y0, y1, y2, y3], _, _, hs, hc => exact guess_3 y0 y1 y2 y3 b w (hs _ (by simp)) (hs _ (by simp)) (hs _ (by simp)) (hc 0 _ rfl) (hc 1 _ rfl) (hc 2 _ rfl) (hc 3 _ rfl) ht
  | y0 :: y1 :: y2 :: y3 :: y4 :: r, _, hl, _, hc => exact guess_many _ (by simp) hl _ (by simp) y0 b w (hc 0 _ rfl) ht
theorem guess_true {s : ByteArray} {xs : List (List UInt8)} {o d a k : Int} (hx : splitGo [] s.data.toList = xs) (h : Guess xs o d a k true) : Only s o d a k := ⟨fun op' d' a' k' h1 h2 => (h op' d' a' k' h1 (by rw [← split_text h1, h2, hx])).2⟩
theorem guess_false {s : ByteArray} {xs : List (List UInt8)} {o d a k : Int} (hx : splitGo [] s.data.toList = xs) (h : Guess xs o d a k false) : ∀ op' d' a' k', okB op' d' a' k' = true → ¬ textS op' d' a' k' = s := fun op' d' a' k' h1 h2 => absurd (h op' d' a' k' h1 (by rw [← split_text h1, h2, hx])).1 (by decide)
theorem no_long {s : ByteArray} (h : 20 < s.size) : ∀ op' d' a' k', okB op' d' a' k' = true → ¬ textS op' d' a' k' = s := fun op' d' a' k' h1 h2 => by
  have := text_size h1
  rw [h2] at this
  omega
theorem split_all (s : ByteArray) (h : s.size ≤ 20) : ∃ ys : List ByteArray, Lib.splitB sp 0 (Lib.countB s sp) s = ys ∧ Lib.countB s sp + 1 = ys.length ∧ ys.map (·.data.toList) = splitGo [] s.data.toList ∧ 1 ≤ ys.length ∧ ys.length ≤ 21 ∧ ∀ x, x ∈ ys → x.size ≤ 1000 := by
  have hle := Lib.countB_le sp (by decide) s.size s (Nat.le_refl _)
  have hlen := Lib.splitB_all sp (by decide) 0 _ s rfl
  refine ⟨_, rfl, hlen.symm, splitB_go s, by omega, by omega, fun x hx => ?_⟩
  have hb := split_bound s h x.data.toList (by rw [← splitB_go s]; exact List.mem_map.2 ⟨x, hx, rfl⟩)
  simpa using hb
set_option maxRecDepth 8000 in
set_option maxHeartbeats 8000000 in
theorem implRead_in (s : ByteArray) (w : World) (hl : s.size ≤ 20) (ht : RT w) :
    Calls Tryz.prog 6 #[.string s] w fun e w' => ∃ c b, e = .returned (.tuple #[.agg c, .bool b]) ∧ RdRel s c b ∧ Below w.heap.size w w' := by
  have HT := hide ht
  obtain ⟨m, hm⟩ := (ht.below ((Below.refl _ _).alloc (Nat.le_refl _) (.cells #[.int .i64 0, .int .i64 0, .int .i64 0, .int .i64 0] 24))).max
  have HM := hide hm
  clear ht hm
  have zB := Blk.new w 0 0 0 0 24
  have BW : Below w.heap.size w (w.alloc (.cells #[.int .i64 0, .int .i64 0, .int .i64 0, .int .i64 0] 24)) := (Below.refl _ _).alloc (Nat.le_refl _) _
  obtain ⟨ys, ey, el, em, e1, e21, es⟩ := split_all s hl
  have EY := hide ey
  have EL := hide el
  have EM := hide em
  have ES := hide es
  clear ey el em es
  go_enter Tryz.func6, Tryz.ntmps6
  go_wp2_with fail
  refine (Tryz.strings_Split s sp m _ (by omega) HM.out (by decide)).mono ?_
  rintro e w1 ⟨rfl, rfl⟩
  rw [EY.out, EL.out]
  have hc := fun (j : Nat) x (h : ys[j]? = some x) => words_cells (w.alloc (.cells #[.int .i64 0, .int .i64 0, .int .i64 0, .int .i64 0] 24)) ys 9 j x h
  replace zB := zB.alloc (.cells (ys.map Value.string).toArray 9)
  replace BW := BW.alloc BW.size (.cells (ys.map Value.string).toArray 9)
  have HC : Hid (∀ (j : Nat) x, ys[j]? = some x → ((w.alloc (.cells #[.int .i64 0, .int .i64 0, .int .i64 0, .int .i64 0] 24)).alloc (.cells (ys.map Value.string).toArray 9)).cell? ⟨w.heap.size + 1, j, none⟩ = some (.string x)) := fun j x h => by
    have := hc j x h
    rw [Nat.zero_add] at this
    simpa using this
  clear hc EY EL HM
  go_wp2_with fail
  refine (guess ys (w.heap.size + 1) _ e1 e21 ES.out HC.out (HT.out.below BW)).mono ?_
  rintro e w2 ⟨o, d, a, k, B, rfl, hg, hb⟩
  replace zB := zB.below hb
  replace BW := BW.trans (hb.mono BW.size)
  clear hb HC ES e1 e21
  cases B with
  | false =>
    have HN := hide (guess_false EM.out.symm hg)
    clear hg EM
    obtain ⟨zlt, z0, z1, z2, z3, g0, g1, g2, g3⟩ := zB
    go_wp2
    exact bodyPost_ret (v := .tuple #[.agg #[.int .i64 0, .int .i64 0, .int .i64 0, .int .i64 0], .bool false]) (by simp [results, Tryz.results6, go_sem, z0, z1, z2, z3, zlt]) rfl ⟨_, _, rfl, Or.inr ⟨rfl, rfl, HN.out⟩, ((((BW.setCell (Nat.le_refl _) _).setCell (Nat.le_refl _) _).setCell (Nat.le_refl _) _).setCell (Nat.le_refl _) _).alloc (Nat.le_of_lt (by simpa [World.setCell] using zlt)) _⟩
  | true =>
    have HC := hide (guess_true EM.out.symm hg)
    clear hg EM
    have zl := zB.lt
    have iB := Blk.new w2 o d a k 24
    replace zB := zB.alloc (.cells #[.int .i64 o, .int .i64 d, .int .i64 a, .int .i64 k] 24)
    replace BW := BW.alloc BW.size (.cells #[.int .i64 o, .int .i64 d, .int .i64 a, .int .i64 k] 24)
    go_wp2_with fail
    refine (insOk o d a k _).mono ?_
    rintro e w3 ⟨rfl, hb⟩
    replace iB := iB.below hb
    replace zB := zB.below hb
    replace BW := BW.trans (hb.mono BW.size)
    clear hb
    obtain ⟨zlt, z0, z1, z2, z3, g0, g1, g2, g3⟩ := id zB
    cases hk : okB o d a k with
    | false =>
      have HN := hide (HC.out.no hk)
      clear hk HC iB zB
      go_wp2
      exact bodyPost_ret (v := .tuple #[.agg #[.int .i64 0, .int .i64 0, .int .i64 0, .int .i64 0], .bool false]) (by simp [results, Tryz.results6, go_sem, z0, z1, z2, z3]) rfl ⟨_, _, rfl, Or.inr ⟨rfl, rfl, HN.out⟩, (((BW.setCell (Nat.le_refl _) _).setCell (Nat.le_refl _) _).setCell (Nat.le_refl _) _).setCell (Nat.le_refl _) _⟩
    | true =>
      have HK := hide hk
      clear hk z0 z1 z2 z3 g0 g1 g2 g3 zlt
      obtain ⟨ilt, j0, j1, j2, j3, _, _, _, _⟩ := id iB
      go_wp2_with fail
      refine (implText o d a k _ (HT.out.tabs.below BW)).mono ?_
      rintro e w4 ⟨rfl, hb⟩
      clear j0 j1 j2 j3
      replace iB := iB.below hb
      replace zB := zB.below hb
      replace BW := BW.trans (hb.mono BW.size)
      clear hb
      obtain ⟨_, i0, i1, i2, i3, _, _, _, _⟩ := iB
      obtain ⟨_, z0, z1, z2, z3, g0, g1, g2, g3⟩ := zB
      have ht : itext o d a k = textS o d a k := by unfold itext; rw [HK.out]; rfl
      rw [ht]
      clear ht
      by_cases e : textS o d a k = s
      · rw [e]
        have q2 := eq_bytes2 s
        have HE := hide e
        clear e HC
        go_wp2
        exact bodyPost_ret (v := .tuple #[.agg #[.int .i64 o, .int .i64 d, .int .i64 a, .int .i64 k], .bool true]) (by simp [results, Tryz.results6, go_sem, z0, z1, z2, z3]) rfl ⟨_, _, rfl, Or.inl ⟨rfl, _, _, _, _, rfl, HK.out, HE.out⟩, (((BW.setCell (Nat.le_refl _) _).setCell (Nat.le_refl _) _).setCell (Nat.le_refl _) _).setCell (Nat.le_refl _) _⟩
      · have HN := hide (HC.out.other e)
        generalize textS o d a k = tx at e ⊢
        have q2 := ne_bytes e
        clear e HC
        go_wp2
        exact bodyPost_ret (v := .tuple #[.agg #[.int .i64 0, .int .i64 0, .int .i64 0, .int .i64 0], .bool false]) (by simp [results, Tryz.results6, go_sem, z0, z1, z2, z3]) rfl ⟨_, _, rfl, Or.inr ⟨rfl, rfl, HN.out⟩, (((BW.setCell (Nat.le_refl _) _).setCell (Nat.le_refl _) _).setCell (Nat.le_refl _) _).setCell (Nat.le_refl _) _⟩
theorem implRead (s : ByteArray) (w : World) (ht : RT w) (hs : s.size ≤ 281474976710656) :
    Calls Tryz.prog 6 #[.string s] w fun e w' => ∃ c b, e = .returned (.tuple #[.agg c, .bool b]) ∧ RdRel s c b ∧ Below w.heap.size w w' := by
  by_cases h : s.size ≤ 20
  · exact implRead_in s w h ht
  · have HN := hide (no_long (s := s) (by omega))
    clear ht
    go_enter Tryz.func6, Tryz.ntmps6
    go_wp2
    exact bodyPost_ret (v := .tuple #[.agg #[.int .i64 0, .int .i64 0, .int .i64 0, .int .i64 0], .bool false]) (by simp [results, Tryz.results6, go_sem]) rfl ⟨_, _, rfl, Or.inr ⟨rfl, rfl, HN.out⟩, (Below.refl _ _).alloc (Nat.le_refl _) _⟩
theorem specRead (s : ByteArray) (w : World) (hs : s.size ≤ 281474976710656) :
    Calls Tryz.prog 7 #[.string s] w fun e w' => ∃ c b, e = .returned (.tuple #[.agg c, .bool b]) ∧ RdRel s c b ∧ Below w.heap.size w w' := by
  by_cases h : s.size ≤ 20
  · exact insRead_in s w h
  · have HN := hide (no_long (s := s) (by omega))
    go_enter Tryz.func7, Tryz.ntmps7
    go_wp2
    exact bodyPost_ret (v := .tuple #[.agg #[.int .i64 0, .int .i64 0, .int .i64 0, .int .i64 0], .bool false]) (by simp [results, Tryz.results7, go_sem]) rfl ⟨_, _, rfl, Or.inr ⟨rfl, rfl, HN.out⟩, (Below.refl _ _).alloc (Nat.le_refl _) _⟩
end Go.Proofs.YthpajjlhjfhdpaaGreatDoor.InsI
