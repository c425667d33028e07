/-
  Contracts of the program's fieldValue and byName.
-/
import Derived.Test.YthpajjlhjfhdpaaGreatDoorInsG
namespace Go.Proofs.YthpajjlhjfhdpaaGreatDoor.InsI
open Go.ChangeShapes Go.WideShapes Go.ChangeAt Go.RowKit Ins
/-- What reading asks of the variables. -/
structure RT (w : World) : Prop where
  tabs : Tabs w
  syn : ∃ tp p, w.var? Tryz.prog "strconv.ErrSyntax" = some #[.iface tp p]
  max : ∃ m : Int, w.cell? ⟨2, 0, none⟩ = some (.int .i64 m)
theorem RT.below {w w' : World} (h : RT w) (hb : Below w.heap.size w w') : RT w' := by
  obtain ⟨h1, ⟨tp, p, h2⟩, ⟨m, h3⟩⟩ := h
  exact ⟨h1.below hb, ⟨tp, p, Words.var_below h2 hb⟩, ⟨m, cell_below hb h3⟩⟩
theorem one_of (s : ByteArray) (h : s.size = 1) : ∃ c : UInt8, s = ⟨#[c]⟩ := by
  have hl := one_list s h
  exact ⟨s[0], by apply ByteArray.ext; apply Array.ext'; exact hl⟩
theorem index_no {c : UInt8} (h : ¬ (97 ≤ c.toNat ∧ c.toNat ≤ 100)) : Lib.indexByte [97, 98, 99, 100] c = -1 := by
  have h1 : ((97 : UInt8) == c) = false := beq_eq_false_iff_ne.2 (fun e => h (by subst e; decide))
  have h2 : ((98 : UInt8) == c) = false := beq_eq_false_iff_ne.2 (fun e => h (by subst e; decide))
  have h3 : ((99 : UInt8) == c) = false := beq_eq_false_iff_ne.2 (fun e => h (by subst e; decide))
  have h4 : ((100 : UInt8) == c) = false := beq_eq_false_iff_ne.2 (fun e => h (by subst e; decide))
  simp [Lib.indexByte, h1, h2, h3, h4]
theorem four_of {c : UInt8} (h : 97 ≤ c.toNat ∧ c.toNat ≤ 100) : c = 97 ∨ c = 98 ∨ c = 99 ∨ c = 100 := by
  have : c.toNat = 97 ∨ c.toNat = 98 ∨ c.toNat = 99 ∨ c.toNat = 100 := by omega
  rcases this with h | h | h | h
  · exact Or.inl (UInt8.toNat_inj.1 h)
  · exact Or.inr (Or.inl (UInt8.toNat_inj.1 h))
  · exact Or.inr (Or.inr (Or.inl (UInt8.toNat_inj.1 h)))
  · exact Or.inr (Or.inr (Or.inr (UInt8.toNat_inj.1 h)))
theorem ret_nb {n n' : Int} {b b' : Bool} (h1 : n = n') (h2 : b = b') : Ending.returned (.tuple #[.int .i64 n, .bool b]) = .returned (.tuple #[.int .i64 n', .bool b']) := by rw [h1, h2]
theorem fv_long {l : List UInt8} (h : ¬ l.length = 1) : fvN l = Words.rdN l ∧ fvB l = Words.rdB l := by
  match l, h with
  | [], _ => exact ⟨rfl, rfl⟩
  | [b], h => simp at h
  | a :: b :: r, _ => exact ⟨rfl, rfl⟩
set_option maxHeartbeats 2000000 in
theorem fieldValue (s : ByteArray) (w : World) (hs : s.size ≤ 1000) (ht : RT w) :
    Calls Tryz.prog 36 #[.string s] w fun e w' => e = .returned (.tuple #[.int .i64 (fvN s.data.toList), .bool (fvB s.data.toList)]) ∧ Below w.heap.size w w' := by
  have HT := hide ht
  clear ht
  by_cases h1 : s.size = 1
  · obtain ⟨c, rfl⟩ := one_of s h1
    by_cases hc : 97 ≤ c.toNat ∧ c.toNat ≤ 100
    · rcases four_of hc with rfl | rfl | rfl | rfl
      · go_enter Tryz.func36, Tryz.ntmps36
        go_wp2_with fail
        refine (Tryz.strings_Index_one ⟨#[97, 98, 99, 100]⟩ 97 _).mono ?_
        rintro e w1 ⟨rfl, rfl⟩
        rw [show Lib.indexByte (⟨#[97, 98, 99, 100]⟩ : ByteArray).data.toList 97 = 0 from by decide]
        go_wp2
        go_ret2
        exact ⟨rfl, Below.refl _ _⟩
      · go_enter Tryz.func36, Tryz.ntmps36
        go_wp2_with fail
        refine (Tryz.strings_Index_one ⟨#[97, 98, 99, 100]⟩ 98 _).mono ?_
        rintro e w1 ⟨rfl, rfl⟩
        rw [show Lib.indexByte (⟨#[97, 98, 99, 100]⟩ : ByteArray).data.toList 98 = 1 from by decide]
        go_wp2
        go_ret2
        exact ⟨rfl, Below.refl _ _⟩
      · go_enter Tryz.func36, Tryz.ntmps36
        go_wp2_with fail
        refine (Tryz.strings_Index_one ⟨#[97, 98, 99, 100]⟩ 99 _).mono ?_
        rintro e w1 ⟨rfl, rfl⟩
        rw [show Lib.indexByte (⟨#[97, 98, 99, 100]⟩ : ByteArray).data.toList 99 = 2 from by decide]
        go_wp2
        go_ret2
        exact ⟨rfl, Below.refl _ _⟩
      · go_enter Tryz.func36, Tryz.ntmps36
        go_wp2_with fail
        refine (Tryz.strings_Index_one ⟨#[97, 98, 99, 100]⟩ 100 _).mono ?_
        rintro e w1 ⟨rfl, rfl⟩
        rw [show Lib.indexByte (⟨#[97, 98, 99, 100]⟩ : ByteArray).data.toList 100 = 3 from by decide]
        go_wp2
        go_ret2
        exact ⟨rfl, Below.refl _ _⟩
    · have e1 : fvN (⟨#[c]⟩ : ByteArray).data.toList = Words.rdN (⟨#[c]⟩ : ByteArray).data.toList := if_neg hc
      have e2 : fvB (⟨#[c]⟩ : ByteArray).data.toList = Words.rdB (⟨#[c]⟩ : ByteArray).data.toList := by show (decide _ || _) = _; rw [decide_eq_false hc]; rfl
      have hi := index_no hc
      rw [e1, e2]
      clear e1 e2 hc
      go_enter Tryz.func36, Tryz.ntmps36
      go_wp2_with fail
      refine (Tryz.strings_Index_one ⟨#[97, 98, 99, 100]⟩ c _).mono ?_
      rintro e w1 ⟨rfl, rfl⟩
      rw [show Lib.indexByte (⟨#[97, 98, 99, 100]⟩ : ByteArray).data.toList c = -1 from hi]
      clear hi
      go_wp2_with fail
      refine (Words.implRead ⟨#[c]⟩ (by show 1 ≤ _; omega) _ HT.out.tabs.pow HT.out.syn).mono ?_
      rintro e w2 ⟨rfl, hb⟩
      obtain ⟨n, en⟩ : ∃ n, Words.rdN (⟨#[c]⟩ : ByteArray).data.toList = n := ⟨_, rfl⟩
      obtain ⟨b, eb⟩ : ∃ b, Words.rdB (⟨#[c]⟩ : ByteArray).data.toList = b := ⟨_, rfl⟩
      rw [en, eb]
      have EN := hide en
      have EB := hide eb
      clear en eb
      go_wp2
      go_ret2
      exact ⟨ret_nb EN.out.symm EB.out.symm, hb⟩
  · obtain ⟨e1, e2⟩ := fv_long (l := s.data.toList) (by have : s.data.toList.length = s.size := Array.length_toList; omega)
    have n1 : ((s.size : Int) == 1) = false := beq_eq_false_iff_ne.2 (by omega)
    rw [e1, e2]
    clear e1 e2
    go_enter Tryz.func36, Tryz.ntmps36
    go_wp2_with fail
    refine (Words.implRead s (by omega) _ HT.out.tabs.pow HT.out.syn).mono ?_
    rintro e w2 ⟨rfl, hb⟩
    obtain ⟨n, en⟩ : ∃ n, Words.rdN s.data.toList = n := ⟨_, rfl⟩
    obtain ⟨b, eb⟩ : ∃ b, Words.rdB s.data.toList = b := ⟨_, rfl⟩
    rw [en, eb]
    have EN := hide en
    have EB := hide eb
    clear en eb
    go_wp2
    go_ret2
    exact ⟨ret_nb EN.out.symm EB.out.symm, hb⟩
theorem ret_by (o t : Int) (h : ¬ o = -1) : Ending.returned (.tuple #[.agg #[.int .i64 o, .int .i64 0, .int .i64 0, .int .i64 t], .bool true]) = .returned (.tuple #[.agg (if o = -1 then #[.int .i64 0, .int .i64 0, .int .i64 0, .int .i64 0] else #[.int .i64 o, .int .i64 0, .int .i64 0, .int .i64 t]), .bool (decide (o ≠ -1))]) := by
  rw [if_neg h, decide_eq_true h]
set_option maxHeartbeats 2000000 in
theorem byName (s : ByteArray) (w : World) (ht : Tabs w) :
    Calls Tryz.prog 35 #[.string s] w fun e w' => ∃ o t : Int, OpOf s o t ∧ e = .returned (.tuple #[.agg (if o = -1 then #[.int .i64 0, .int .i64 0, .int .i64 0, .int .i64 0] else #[.int .i64 o, .int .i64 0, .int .i64 0, .int .i64 t]), .bool (decide (o ≠ -1))]) ∧ Below w.heap.size w w' := by
  have ht1 := ht.below ((Below.refl _ _).alloc (Nat.le_refl _) (.cells #[.int .i64 0, .int .i64 0, .int .i64 0, .int .i64 0] 24))
  obtain ⟨b, o, c, c0, c1, n0, n1⟩ := ht1.stops
  obtain ⟨b', o', c', c0', c1', n0', n1'⟩ := ht1.names
  have HN1 := hide n1
  have HN2 := hide n1'
  clear n1 n1' ht ht1
  go_enter Tryz.func35, Tryz.ntmps35
  go_wp2
  go_loopw [10] (fun i wr => ∃ k : Nat, k ≤ 4 ∧ i = .int .i64 k ∧ Hid (∀ j : Nat, j < k → ¬ stopS j = s) ∧ wr = w.alloc (.cells #[.int .i64 0, .int .i64 0, .int .i64 0, .int .i64 0] 24)) (fun i _ => 4 - (intOf i).toNat)
  case atStart => exact ⟨0, by omega, rfl, fun j hj => by omega, rfl⟩
  case round =>
    obtain ⟨k, hk, rfl, HN, rfl⟩ := hrel
    by_cases hlt : k < 4
    · have hc := HN1.out k hlt
      by_cases e : stopS k = s
      · rw [e] at hc
        have HE := hide e
        clear e
        go_wp2
        exact bodyPost_ret (v := .tuple #[.agg #[.int .i64 0, .int .i64 0, .int .i64 0, .int .i64 k], .bool true]) (by simp [results, Tryz.results35, go_sem]) rfl ⟨0, k, Or.inl ⟨k, hlt, rfl, rfl, HE.out⟩, rfl, (Below.refl _ _).alloc (Nat.le_refl _) _⟩
      · have hne := ne_bytes (fun h => e h.symm)
        have HE := hide e
        clear e
        generalize stopS k = t at hc hne
        go_wp2
        have HX : Hid (∀ j : Nat, j < k + 1 → ¬ stopS j = s) := fun j hj => by
          by_cases ej : j = k
          · subst ej; exact HE.out
          · exact HN.out j (by omega)
        refine ⟨?_, by simp [intOf]; omega⟩
        exact ⟨k + 1, by omega, by go_num, HX, trivial⟩
    · have HA : Hid (∀ j : Nat, j < 4 → ¬ stopS j = s) := fun j hj => HN.out j (by omega)
      clear HN HN1
      go_wp2
      go_loopw [23] (fun i wr2 => ∃ k2 : Nat, k2 ≤ 16 ∧ i = .int .i64 k2 ∧ Hid (∀ j : Nat, j < k2 → ¬ nameS j = s) ∧ wr2 = w.alloc (.cells #[.int .i64 0, .int .i64 0, .int .i64 0, .int .i64 0] 24)) (fun i _ => 16 - (intOf i).toNat)
      case atStart => exact ⟨0, by omega, rfl, fun j hj => by omega, rfl⟩
      case round =>
        obtain ⟨k2, hk2, rfl, HM, rfl⟩ := hrel
        by_cases hlt2 : k2 < 16
        · have hc := HN2.out k2 hlt2
          by_cases e : nameS k2 = s
          · have h1 : 1 ≤ k2 := by
              rcases Nat.eq_zero_or_pos k2 with h0 | h0
              · subst h0
                exact absurd e (HA.out 0 (by omega))
              · exact h0
            have hne1 : ¬ ((k2 : Int) = -1) := by omega
            rw [e] at hc
            have HE := hide e
            have HR := hide (ret_by (k2 : Int) 0 hne1)
            clear e hne1
            go_wp2
            exact bodyPost_ret (v := .tuple #[.agg #[.int .i64 k2, .int .i64 0, .int .i64 0, .int .i64 0], .bool true]) (by simp [results, Tryz.results35, go_sem]) rfl ⟨k2, 0, Or.inr ⟨HA.out, Or.inl ⟨k2, h1, hlt2, rfl, rfl, HE.out⟩⟩, HR.out, (Below.refl _ _).alloc (Nat.le_refl _) _⟩
          · have hne := ne_bytes (fun h => e h.symm)
            have HE := hide e
            clear e
            generalize nameS k2 = t at hc hne
            go_wp2
            have HX : Hid (∀ j : Nat, j < k2 + 1 → ¬ nameS j = s) := fun j hj => by
              by_cases ej : j = k2
              · subst ej; exact HE.out
              · exact HM.out j (by omega)
            refine ⟨?_, by simp [intOf]; omega⟩
            exact ⟨k2 + 1, by omega, by go_num, HX, trivial⟩
        · go_wp2
          exact bodyPost_ret (v := .tuple #[.agg #[.int .i64 0, .int .i64 0, .int .i64 0, .int .i64 0], .bool false]) (by simp [results, Tryz.results35, go_sem]) rfl ⟨-1, 0, Or.inr ⟨HA.out, Or.inr ⟨rfl, rfl, fun j h1 h2 => HM.out j (by omega)⟩⟩, rfl, (Below.refl _ _).alloc (Nat.le_refl _) _⟩
end Go.Proofs.YthpajjlhjfhdpaaGreatDoor.InsI
