/-
  Contracts of WrdRead, the program's and the specification's, at every string; of the library's variable strconv.ErrSyntax and its table of powers what the row lists is used.
-/
import Derived.Test.YthpajjlhjfhdpaaGreatDoorWords
namespace Go.Proofs.YthpajjlhjfhdpaaGreatDoor.Words
open Go.ChangeShapes Go.WideShapes Go.ChangeAt Go.RowKit

theorem rdN_none {l : List UInt8} (h : rd l = none) : rdN l = 0 := by unfold rdN; rw [h]; rfl
theorem rdB_none {l : List UInt8} (h : rd l = none) : rdB l = false := by unfold rdB; rw [h]; rfl
theorem rdN_some {l : List UInt8} {m : Nat} (h : rd l = some m) : rdN l = (m : Int) := by unfold rdN; rw [h]; rfl
theorem rdB_some {l : List UInt8} {m : Nat} (h : rd l = some m) : rdB l = true := by unfold rdB; rw [h]; rfl

theorem specRead_len (s : ByteArray) (hs : s.size = 0 ∨ 5 < s.size) (hm : s.size ≤ 281474976710656) (w : World) :
    Calls Tryz.prog 39 #[.string s] w fun e w' => e = .returned (.tuple #[.int .i64 0, .bool false]) ∧ Below w.heap.size w w' := by
  rcases hs with hs | hs
  · have h0 : ((s.size : Int) == 0) = true := by simp [hs]
    go_enter Tryz.func39, Tryz.ntmps39
    go_wp2
    go_ret2
    exact ⟨rfl, Below.refl _ _⟩
  · have h0 : ((s.size : Int) == 0) = false := beq_eq_false_iff_ne.2 (by omega)
    go_enter Tryz.func39, Tryz.ntmps39
    go_wp2
    go_ret2
    exact ⟨rfl, Below.refl _ _⟩
theorem toList_data (s : ByteArray) : s.toList = s.data.toList := ByteArray.toList_eq s
theorem list_at (s : ByteArray) (k : Nat) (h : k < s.size) : s.data.toList[k]? = some s[k] := by
  rw [List.getElem?_eq_getElem (by simpa using h)]; rfl
theorem size_list (s : ByteArray) : s.data.toList.length = s.size := Array.length_toList
theorem step_at (s : ByteArray) (k : Nat) (h : k < s.size) (m : Int) (_hm : 0 ≤ m) (hd : Lib.decFrom 0 (s.data.toList.take k) = some m.toNat) (h1 : 48 ≤ (s[k].toNat : Int)) (h2 : (s[k].toNat : Int) ≤ 57) :
    Lib.decFrom 0 (s.data.toList.take (k + 1)) = some (m * 10 + ((s[k].toNat : Int) - 48)).toNat := by
  rw [Lib.decFrom_take s.data.toList k 0 m.toNat s[k] (s[k].toNat - 48) hd (list_at s k h) (digit_ok (by omega) (by omega))]
  congr 1
  omega
theorem small_at {l : List UInt8} {m : Int} (h5 : l.length ≤ 5) (_hm : 0 ≤ m) (hd : Lib.decFrom 0 l = some m.toNat) : m < 100000 := by
  have h := Lib.decFrom_lt l 0 m.toNat hd
  have hp : 10 ^ l.length ≤ 10 ^ 5 := Nat.pow_le_pow_right (by omega) h5
  omega
set_option maxHeartbeats 1000000 in
theorem specRead_in (s : ByteArray) (h1 : 1 ≤ s.size) (h5 : s.size ≤ 5) (w : World) :
    Calls Tryz.prog 39 #[.string s] w fun e w' => e = .returned (.tuple #[.int .i64 (rdN s.data.toList), .bool (rdB s.data.toList)]) ∧ Below w.heap.size w w' := by
  have h0 : ((s.size : Int) == 0) = false := beq_eq_false_iff_ne.2 (by omega)
  go_enter Tryz.func39, Tryz.ntmps39
  go_wp2
  go_loop [4, 5] (fun n i => ∃ (k : Nat) (m : Int), k ≤ s.size ∧ i = .int .i64 k ∧ n = .int .i64 m ∧ 0 ≤ m ∧ m < 100000 ∧ Hid (Lib.decFrom 0 (s.data.toList.take k) = some m.toNat)) (fun _ i => s.size - (intOf i).toNat)
  case atStart => exact ⟨0, 0, Nat.zero_le _, rfl, rfl, by omega, by omega, show _ = _ by simp [Lib.decFrom]⟩
  case round =>
    obtain ⟨k, m, hk, rfl, rfl, hm0, hm1, HD⟩ := hrel
    by_cases hlt : k < s.size
    · by_cases hc1 : (s[k].toNat : Int) < 48
      · have hbad := rd_none (decNat_bad (list_at s k hlt) (Or.inl (by omega)))
        have HN : Hid (rdN s.data.toList = 0) := rdN_none hbad
        have HB : Hid (rdB s.data.toList = false) := rdB_none hbad
        clear hbad
        go_wp2
        go_ret2
        rw [HN.out, HB.out]
        exact ⟨rfl, Below.refl _ _⟩
      · by_cases hc2 : 57 < (s[k].toNat : Int)
        · have hbad := rd_none (decNat_bad (list_at s k hlt) (Or.inr (by omega)))
          have HN : Hid (rdN s.data.toList = 0) := rdN_none hbad
          have HB : Hid (rdB s.data.toList = false) := rdB_none hbad
          clear hbad
          go_wp2
          go_ret2
          rw [HN.out, HB.out]
          exact ⟨rfl, Below.refl _ _⟩
        · have hst := step_at s k hlt m hm0 HD.out (by omega) (by omega)
          have hsm : m * 10 + ((s[k].toNat : Int) - 48) < 100000 := small_at (by rw [List.length_take]; omega) (by omega) hst
          have HS : Hid (Lib.decFrom 0 (s.data.toList.take (k + 1)) = some (m * 10 + ((s[k].toNat : Int) - 48)).toNat) := hst
          clear hst
          go_wp2
          exact ⟨⟨k + 1, m * 10 + ((s[k].toNat : Int) - 48), by omega, by go_num, rfl, by omega, hsm, HS⟩, by simp [intOf]; omega⟩
    · have ek : k = s.size := by omega
      have hf : Lib.decNat s.data.toList = some m.toNat := by
        have := HD.out
        rw [ek, List.take_of_length_le (by rw [size_list]; omega)] at this
        exact decNat_take (by intro e; have := size_list s; rw [e] at this; simp at this; omega) this
      clear ek
      have em : ((m.toNat : Nat) : Int) = m := by omega
      by_cases ht : txt m = s.data.toList
      · have he : (⟨(txt m).toArray⟩ : ByteArray) = s := by rw [ht]
        have hr := rd_some hf (by rw [size_list]; exact h5) (by rw [em]; exact ht)
        have HN : Hid (rdN s.data.toList = m) := (rdN_some hr).trans em
        have HB : Hid (rdB s.data.toList = true) := rdB_some hr
        have HE : Hid ((⟨(txt m).toArray⟩ : ByteArray) = s) := he
        clear he hr ht em hf
        go_wp2_with fail
        refine (specText m _).mono ?_
        rintro e w1 ⟨rfl, hb⟩
        rw [HE.out]
        go_wp2
        go_ret2
        rw [HN.out, HB.out]
        exact ⟨rfl, hb⟩
      · have hr := rd_other hf (by rw [em]; exact ht)
        have HN : Hid (rdN s.data.toList = 0) := rdN_none hr
        have HB : Hid (rdB s.data.toList = false) := rdB_none hr
        have hne : (txt m == s.toList) = false := by rw [toList_data, beq_eq_false_iff_ne]; exact ht
        clear hr hf em
        go_wp2_with fail
        refine (specText m _).mono ?_
        rintro e w1 ⟨rfl, hb⟩
        go_wp2
        go_ret2
        rw [HN.out, HB.out]
        exact ⟨rfl, hb⟩
theorem specRead (s : ByteArray) (hm : s.size ≤ 281474976710656) (w : World) :
    Calls Tryz.prog 39 #[.string s] w fun e w' => e = .returned (.tuple #[.int .i64 (rdN s.data.toList), .bool (rdB s.data.toList)]) ∧ Below w.heap.size w w' := by
  by_cases h : s.size = 0 ∨ 5 < s.size
  · have hr : rd s.data.toList = none := by
      rcases h with h | h
      · rw [List.length_eq_zero_iff.1 ((size_list s).trans h)]; rfl
      · exact rd_long (by rw [size_list]; exact h)
    rw [rdN_none hr, rdB_none hr]
    exact specRead_len s h hm w
  · exact specRead_in s (by omega) (by omega) w
theorem atoi_ok (s : ByteArray) (h5 : s.size ≤ 5) (v : Int) (h : Lib.atoi s.data.toList = some v) (w : World) :
    Calls Tryz.prog 54 #[.string s] w fun e w' => e = .returned (.tuple #[.int .i64 v, .nilIface]) ∧ Below w.heap.size w w' := by
  refine (Tryz.strconv_Atoi_ok s (by omega) v (by rw [Lib.atoiAll_short _ (by rw [size_list]; omega), h]; rfl) w).mono ?_
  rintro e w' ⟨rfl, rfl | ⟨t, rfl⟩⟩
  · exact ⟨rfl, Below.refl _ _⟩
  · exact ⟨rfl, Lib.bytesWorld_below _ _ _⟩
theorem atoi_no (s : ByteArray) (h5 : s.size ≤ 5) (h : Lib.atoi s.data.toList = none) (w : World) (hv : ∃ tp p, w.var? Tryz.prog "strconv.ErrSyntax" = some #[.iface tp p]) :
    Calls Tryz.prog 54 #[.string s] w fun e w' => ∃ N, e = .returned (.tuple #[.int .i64 0, .iface 119 (.pointer (some ⟨N, 0, none⟩))]) ∧ Below w.heap.size w w' := by
  obtain ⟨tp, p, hvar⟩ := hv
  have h0 : Calls Tryz.prog 54 #[.string s] w fun e w' => ∃ N, e = .returned (.tuple #[.int .i64 0, .iface 119 (.pointer (some ⟨N, 0, none⟩))]) ∧ w.heap.size ≤ N ∧ w'.heap[N]? = some (.cells #[.string ⟨#[65, 116, 111, 105]⟩, .string s, .iface tp p] 134 (0, 0)) ∧ Below w.heap.size w w' :=
    Go.Proofs.Any.strconv_Atoi_syntax_var Tryz.laysC172 s (by omega) (by rw [Lib.atoiAll_short _ (by rw [size_list]; omega), h]; rfl) tp p w hvar
  refine h0.mono ?_
  rintro e w' ⟨N, rfl, _, _, hb⟩
  exact ⟨N, rfl, hb⟩
theorem implRead_long (s : ByteArray) (hs : 5 < s.size) (hm : s.size ≤ 281474976710656) (w : World) :
    Calls Tryz.prog 46 #[.string s] w fun e w' => e = .returned (.tuple #[.int .i64 0, .bool false]) ∧ Below w.heap.size w w' := by
  go_enter Tryz.func46, Tryz.ntmps46
  go_wp2
  go_ret2
  exact ⟨rfl, Below.refl _ _⟩
theorem implRead_no (s : ByteArray) (h5 : s.size ≤ 5) (h : Lib.atoi s.data.toList = none) (w : World) (hv : ∃ tp p, w.var? Tryz.prog "strconv.ErrSyntax" = some #[.iface tp p]) :
    Calls Tryz.prog 46 #[.string s] w fun e w' => e = .returned (.tuple #[.int .i64 0, .bool false]) ∧ Below w.heap.size w w' := by
  have HA := hide (atoi_no s h5 h w hv)
  clear hv h
  go_enter Tryz.func46, Tryz.ntmps46
  go_wp2_with fail
  refine (unhide HA).mono ?_
  rintro e w1 ⟨N, rfl, hb⟩
  go_wp2
  go_ret2
  exact ⟨rfl, hb⟩
theorem implRead_ok (s : ByteArray) (h5 : s.size ≤ 5) (v : Int) (h : Lib.atoi s.data.toList = some v) (w : World) (htab : Lib.TabIs Tryz.prog w "internal/strconv.uint64pow10" .u64 Lib.pow10Tab) :
    Calls Tryz.prog 46 #[.string s] w fun e w' => e = .returned (.tuple #[.int .i64 (rdN s.data.toList), .bool (rdB s.data.toList)]) ∧ Below w.heap.size w w' := by
  have HA := hide (atoi_ok s h5 v h w)
  have HT := hide htab
  by_cases ht : txt v = s.data.toList
  · have he : (⟨(txt v).toArray⟩ : ByteArray) = s := by rw [ht]
    obtain ⟨m, hv, hr⟩ := rd_atoi_some h (by rw [size_list]; exact h5) ht
    have HN : Hid (rdN s.data.toList = v) := (rdN_some hr).trans hv.symm
    have HB : Hid (rdB s.data.toList = true) := rdB_some hr
    have HE : Hid ((⟨(txt v).toArray⟩ : ByteArray) = s) := he
    clear he hr ht hv h htab
    go_enter Tryz.func46, Tryz.ntmps46
    go_wp2_with fail
    refine (unhide HA).mono ?_
    rintro e w1 ⟨rfl, hb⟩
    go_wp2_with fail
    refine (implText v _ (tab_below (unhide HT) hb)).mono ?_
    rintro e w2 ⟨rfl, hb2⟩
    rw [HE.out]
    go_wp2
    go_ret2
    rw [HN.out, HB.out]
    exact ⟨rfl, hb.trans (hb2.mono hb.size)⟩
  · have hr := rd_atoi_other h ht
    have HN : Hid (rdN s.data.toList = 0) := rdN_none hr
    have HB : Hid (rdB s.data.toList = false) := rdB_none hr
    have hne : (txt v == s.toList) = false := by rw [toList_data, beq_eq_false_iff_ne]; exact ht
    clear hr ht h htab
    go_enter Tryz.func46, Tryz.ntmps46
    go_wp2_with fail
    refine (unhide HA).mono ?_
    rintro e w1 ⟨rfl, hb⟩
    go_wp2_with fail
    refine (implText v _ (tab_below (unhide HT) hb)).mono ?_
    rintro e w2 ⟨rfl, hb2⟩
    go_wp2
    go_ret2
    rw [HN.out, HB.out]
    exact ⟨rfl, hb.trans (hb2.mono hb.size)⟩
theorem implRead (s : ByteArray) (hm : s.size ≤ 281474976710656) (w : World) (htab : Lib.TabIs Tryz.prog w "internal/strconv.uint64pow10" .u64 Lib.pow10Tab) (hv : ∃ tp p, w.var? Tryz.prog "strconv.ErrSyntax" = some #[.iface tp p]) :
    Calls Tryz.prog 46 #[.string s] w fun e w' => e = .returned (.tuple #[.int .i64 (rdN s.data.toList), .bool (rdB s.data.toList)]) ∧ Below w.heap.size w w' := by
  by_cases h5 : 5 < s.size
  · have hr : rd s.data.toList = none := rd_long (by rw [size_list]; exact h5)
    rw [rdN_none hr, rdB_none hr]
    exact implRead_long s h5 hm w
  · cases ha : Lib.atoi s.data.toList with
    | none =>
      have hr := rd_atoi_none ha
      rw [rdN_none hr, rdB_none hr]
      exact implRead_no s (by omega) ha w hv
    | some v => exact implRead_ok s (by omega) v ha w htab
end Go.Proofs.YthpajjlhjfhdpaaGreatDoor.Words
