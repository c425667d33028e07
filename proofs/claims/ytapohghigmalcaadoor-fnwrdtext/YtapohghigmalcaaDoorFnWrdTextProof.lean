/-
  At every two codes of bytes the law FnWrdText returns true (P12: a word's text is read as it, and what WrdRead reads has that text); the listed tables and error variables of the library hold what the program's text lays in them (the tie is given).
  The frame (door_met, lifted, over, proved) is written by my own program after the guide's worked texts for a listed and tied row; the walk and the lemmas ahead of it are mine.
-/
import Derived.Test.YtapohghigmalcaaDoorRows
import Derived.Test.YtapohghigmalcaaDoorTie
import Derived.Test.YtapohghigmalcaaDoorCards
import Derived.Test.YtapohghigmalcaaDoorDrawT
import Derived.WalkKit
import Derived.ProofKit
import Derived.OpenShut
import Derived.LaidMore
import Derived.Stop.Joined
import Derived.Stop.LaidErr
import Derived.Lib.LaidTab
import Derived.SizedLaws
import Derived.SevenTiedAt
import Derived.ShutString
import Derived.ChangeOld
import Derived.Below
namespace Go.Proofs.YtapohghigmalcaaDoor.fnWrdText
open Go.ChangeShapes Go.WideShapes Go.ChangeAt Go.RowKit
open Go.ChangeMaps (open_string shut_string)
set_option linter.unusedVariables false

theorem own : ownKnob Tryd.prog.godebug = none := by kernel_rfl
/-- The heap that the program's own laying leaves meets the condition. -/
theorem door_met (os : Os) (args : Array Value) : laidMetH Tryd.prog Rows.fnWrdTextRow.laid ((World.doorLaid Tryd.prog 400 os).forCall (fun _ _ => 0) ⟨#[], args, []⟩).memory :=
  laidMetH_of_parts3 (fuel := 8) (laidMet_of_run' 8 (by kernel_rfl) (by kernel_rfl)) (by kernel_rfl) (by kernel_rfl)

theorem laidOut : laidOutB Tryd.prog = true := by kernel_rfl
/-- A slice of integers that came in. -/
def IsRow (k : IntKind) (w : World) (a : Option Addr) (len cap : Nat) (zs : List Int) : Prop :=
  (a = none ∧ len = 0 ∧ cap = 0 ∧ zs = []) ∨
  ∃ x, a = some x ∧ len ≤ cap ∧ cap ≤ maxLen ∧ zs.length = cap ∧ (∀ i, i < zs.length → w.cell? (x.add i) = some (.int k (zs.getD i 0))) ∧ ∀ n ∈ zs, (Lit.int k n).wf = true
theorem powTab : Rows.laid_internal_strconv_uint64pow10 (H := Unit) = Lib.tabData .u64 Lib.pow10Tab := by kernel_rfl
theorem gPow : Tryd.prog.globalNamed "internal/strconv.uint64pow10" = some 2 := by kernel_rfl
theorem gSyn : Tryd.prog.globalNamed "strconv.ErrSyntax" = some 0 := by kernel_rfl
theorem tSyn : (Tryd.prog.globals[(0 : Nat)]?).map (·.type) = some 39 := by kernel_rfl
theorem star : "*" ++ "errors.errorString" = "*errors.errorString" := by decide
theorem rowErr (u : TypeId) (h : Tryd.prog.typeName? 3 u = some "*errors.errorString") : u = 67 :=
  typeName_ptr_named (nm := "errors.errorString") (by rw [star]; kernel_rfl) (by kernel_rfl) (by decide) u (by rw [star]; exact h)
theorem tab_of {w : World} (hL : laidMet Tryd.prog Rows.fnWrdTextRow.laid w) : Lib.TabIs Tryd.prog w "internal/strconv.uint64pow10" .u64 Lib.pow10Tab := by
  have h3 : laidMet Tryd.prog (("internal/strconv.uint64pow10", Lib.tabData .u64 Lib.pow10Tab) :: [("strconv.ErrRange", Rows.laid_strconv_ErrRange), ("strconv.ErrSyntax", Rows.laid_strconv_ErrSyntax)]) w := by
    have := laidMet.tail (laidMet.tail hL)
    rw [← powTab]
    exact this
  exact Lib.tabIs_of_head gPow (t := 76) (by kernel_rfl) Tryd.underlying76 Tryd.underlying55 (by kernel_rfl) (by kernel_rfl) h3
theorem syn_of {w : World} (hL : laidMet Tryd.prog Rows.fnWrdTextRow.laid w) : ∃ tp p, w.var? Tryd.prog "strconv.ErrSyntax" = some #[.iface tp p] := by
  have h3 : laidMet Tryd.prog [("strconv.ErrSyntax", Rows.laid_strconv_ErrSyntax)] w := laidMet.tail (laidMet.tail (laidMet.tail (laidMet.tail hL)))
  obtain ⟨a0, s0, hv0, -, -, -⟩ := laid_sentinel h3 gSyn tSyn Tryd.underlying39 rowErr Tryd.underlying67 Tryd.underlying69 rfl rfl Tryd.underlying9 (by kernel_rfl) (by kernel_rfl)
  exact ⟨_, _, hv0⟩

/-- What the calls of the library ask of the world. -/
def Lay (w : World) : Prop := Lib.TabIs Tryd.prog w "internal/strconv.uint64pow10" .u64 Lib.pow10Tab ∧ ∃ tp p, w.var? Tryd.prog "strconv.ErrSyntax" = some #[.iface tp p]
theorem Lay.below {w w' : World} (h : Lay w) (hb : Below w.heap.size w w') : Lay w' :=
  ⟨Words.tab_below h.1 hb, by obtain ⟨tp, p, hv⟩ := h.2; exact ⟨tp, p, Words.var_below hv hb⟩⟩

theorem decFrom_snoc : ∀ (l : List UInt8) (acc m : Nat) (b : UInt8) (d : Nat), Lib.decFrom acc l = some m → Lib.digitVal b = some d → Lib.decFrom acc (l ++ [b]) = some (m * 10 + d)
  | [], acc, m, b, d, h, hb => by
    simp only [Lib.decFrom, Option.some.injEq] at h
    subst h
    simp [Lib.decFrom, hb]
  | c :: l, acc, m, b, d, h, hb => by
    simp only [List.cons_append, Lib.decFrom] at h ⊢
    cases hc : Lib.digitVal c with
    | none => rw [hc] at h; cases h
    | some e =>
      rw [hc] at h
      exact decFrom_snoc l _ m b d h hb
theorem dig_of (k : Nat) (h : k < 10) : Lib.digitVal (UInt8.ofNat (48 + k)) = some k := by
  have : (UInt8.ofNat (48 + k)).toNat = 48 + k := by rw [UInt8.toNat_ofNat']; omega
  unfold Lib.digitVal
  rw [this, if_pos (by omega)]
  simp
theorem dec_digits (k : Nat) : Lib.decFrom 0 (Lib.decDigits k) = some k := by
  induction k using Nat.strongRecOn with
  | ind k ih =>
    by_cases h : k < 10
    · rw [Lib.decDigits, dif_pos h]
      unfold Lib.decFrom
      rw [dig_of k h]
      simp [Lib.decFrom]
    · rw [Lib.decDigits, dif_neg h, decFrom_snoc _ 0 (k / 10) _ (k % 10) (ih _ (by omega)) (dig_of _ (by omega))]
      congr 1; omega
theorem dd_ne (k : Nat) : Lib.decDigits k ≠ [] := by
  by_cases h : k < 10
  · rw [Lib.decDigits, dif_pos h]; simp
  · rw [Lib.decDigits, dif_neg h]; simp
theorem rd_txt {n : Int} (h0 : 0 ≤ n) (h1 : n < 65536) : Words.rd (Words.txt n) = some n.toNat := by
  have hl := Draw.txt_size n
  have e : ((n.toNat : Nat) : Int) = n := by omega
  refine Words.rd_some ?_ hl (by rw [e])
  rw [Words.txt_in h0 h1]
  exact Words.decNat_take (dd_ne _) (dec_digits _)
theorem rdN_txt {n : Int} (h0 : 0 ≤ n) (h1 : n < 65536) : Words.rdN (Words.txt n) = n := by
  rw [Words.rdN_some (rd_txt h0 h1)]; omega
theorem rdB_txt {n : Int} (h0 : 0 ≤ n) (h1 : n < 65536) : Words.rdB (Words.txt n) = true := Words.rdB_some (rd_txt h0 h1)
theorem txt_rd {l : List UInt8} (h : Words.rdB l = true) : Words.txt (Words.rdN l) = l := by
  unfold Words.rdB at h
  unfold Words.rdN
  cases hr : Words.rd l with
  | none => rw [hr] at h; cases h
  | some m =>
    unfold Words.rd at hr
    split at hr
    · split at hr
      · rename_i hc
        simp only [Option.some.injEq] at hr
        subst hr
        exact hc.2
      · cases hr
    · cases hr
theorem laOk (w : World) : Calls Tryd.prog 11 #[] w fun e w' => e = .returned (.bool true) ∧ w' = w := by
  go_enter Tryd.func11, Tryd.ntmps11
  go_wp2
  go_ret
  exact ⟨rfl, rfl⟩
theorem specOk_t (n : Int) (w : World) (h0 : 0 ≤ n) (h1 : n < 65536) : Calls Tryd.prog 10 #[.int .i64 n] w fun e w' => e = .returned (.bool true) ∧ w' = w := by
  go_enter Tryd.func10, Tryd.ntmps10
  go_wp2
  go_ret
  exact ⟨rfl, rfl⟩
theorem specOk_f (n : Int) (w : World) (h : ¬ (0 ≤ n ∧ n < 65536)) : Calls Tryd.prog 10 #[.int .i64 n] w fun e w' => e = .returned (.bool false) ∧ w' = w := by
  by_cases h0 : 0 ≤ n
  · have h1 : ¬ n < 65536 := by omega
    go_enter Tryd.func10, Tryd.ntmps10
    go_wp2
    go_ret
    exact ⟨rfl, rfl⟩
  · go_enter Tryd.func10, Tryd.ntmps10
    go_wp2
    go_ret
    exact ⟨rfl, rfl⟩
theorem same_ne (a : Int) : (a != a) = false := by simp
theorem same_neb (a : Bool) : (a != a) = false := by simp

set_option maxHeartbeats 4000000 in
theorem walk (a0 : Option Addr) (len0 cap0 : Nat) (z0 : List Int) (a1 : Option Addr) (len1 cap1 : Nat) (z1 : List Int) (w : World) (w0 : IsRow .u8 w a0 len0 cap0 z0) (w1 : IsRow .u8 w a1 len1 cap1 z1) (hL : laidMet Tryd.prog Rows.fnWrdTextRow.laid w) :
    Calls Tryd.prog 3 #[.slice a0 len0 cap0, .slice a1 len1 cap1] w fun e w' => e = .returned (.bool true) ∧ Below w.heap.size w w' := by
  have HL : Hid (Lay w) := ⟨tab_of hL, syn_of hL⟩
  clear hL
  obtain ⟨hlc, hm, hc⟩ := Draw.code_row w a0 len0 cap0 z0 w0
  obtain ⟨hlc1, hm1, hc1⟩ := Draw.code_row w a1 len1 cap1 z1 w1
  clear w0 w1
  by_cases hl : 1048576 < len0
  · clear hc hc1
    unfold maxLen at hm hm1
    go_enter Tryd.func3, Tryd.ntmps3
    go_wp2
    go_ret
    exact ⟨rfl, Below.refl _ _⟩
  by_cases hl1 : 1048576 < len1
  · clear hc hc1
    unfold maxLen at hm hm1
    go_enter Tryd.func3, Tryd.ntmps3
    go_wp2
    go_ret
    exact ⟨rfl, Below.refl _ _⟩
  have HC := Words.hide hc
  have HC1 := Words.hide hc1
  have HM := Words.hide (And.intro hm hm1)
  clear hc hc1 hm hm1
  go_enter Tryd.func3, Tryd.ntmps3
  go_wp2_with fail
  refine (Draw.drawText a0 len0 cap0 _ hlc HM.out.1 HC.out).mono ?_
  rintro e w1 ⟨n, rfl, hb⟩
  have HC2 := Words.hide (HC1.out.below hb)
  clear HC HC1
  go_wp2_with fail
  refine (Draw.drawRead a1 len1 cap1 _ hlc1 HM.out.2 HC2.out).mono ?_
  rintro e w2 ⟨s, rfl, hs, hb2⟩
  clear HC2
  have B2 := hb.trans (hb2.mono hb.size)
  clear hb hb2
  go_wp2_with fail
  refine (Words.implRead s (by omega) _ (HL.out.below B2).1 (HL.out.below B2).2).mono ?_
  rintro e w3 ⟨rfl, hb⟩
  replace B2 := B2.trans (hb.mono B2.size)
  clear hb
  go_wp2_with fail
  refine (Words.specRead s (by omega) _).mono ?_
  rintro e w4 ⟨rfl, hb⟩
  replace B2 := B2.trans (hb.mono B2.size)
  clear hb
  go_wp2_with fail
  refine (Words.implText n _ (HL.out.below B2).1).mono ?_
  rintro e w5 ⟨rfl, hb⟩
  replace B2 := B2.trans (hb.mono B2.size)
  clear hb
  go_wp2_with fail
  refine (Words.specText n _).mono ?_
  rintro e w6 ⟨rfl, hb⟩
  replace B2 := B2.trans (hb.mono B2.size)
  clear hb
  have HTX : Hid (Words.rdB s.data.toList = true → Words.txt (Words.rdN s.data.toList) = s.data.toList) := fun h => txt_rd h
  generalize Words.rdN s.data.toList = m at HTX ⊢
  generalize Words.rdB s.data.toList = ok at HTX ⊢
  have nm := same_ne m
  have nk := same_neb ok
  cases ok with
  | true =>
    have he : (⟨(Words.txt m).toArray⟩ : ByteArray) = s := by rw [HTX.out rfl]
    have HE := Words.hide he
    clear he HTX
    go_wp2_with fail
    refine (Words.implText m _ (HL.out.below B2).1).mono ?_
    rintro e w7 ⟨rfl, hb⟩
    replace B2 := B2.trans (hb.mono B2.size)
    clear hb
    rw [HE.out]
    by_cases hn : 0 ≤ n ∧ n < 65536
    · have HN := Words.hide hn
      go_wp2_with fail
      refine (specOk_t n _ hn.1 hn.2).mono ?_
      rintro e w8 ⟨rfl, rfl⟩
      go_wp2_with fail
      refine (Words.implText n _ (HL.out.below B2).1).mono ?_
      rintro e w9 ⟨rfl, hb⟩
      replace B2 := B2.trans (hb.mono B2.size)
      clear hb
      have hz : (⟨(Words.txt n).toArray⟩ : ByteArray).size ≤ 281474976710656 := by
        have h5 := Draw.txt_size n
        have e5 : (⟨(Words.txt n).toArray⟩ : ByteArray).size = (Words.txt n).length := by simp [ByteArray.size]
        omega
      go_wp2_with fail
      refine (Words.implRead ⟨(Words.txt n).toArray⟩ hz _ (HL.out.below B2).1 (HL.out.below B2).2).mono ?_
      rintro e w10 ⟨rfl, hb⟩
      replace B2 := B2.trans (hb.mono B2.size)
      clear hb hz
      have eN : Words.rdN ((⟨(Words.txt n).toArray⟩ : ByteArray).data.toList) = n := by
        rw [show (⟨(Words.txt n).toArray⟩ : ByteArray).data.toList = Words.txt n from List.toList_toArray]; exact rdN_txt hn.1 hn.2
      have eB : Words.rdB ((⟨(Words.txt n).toArray⟩ : ByteArray).data.toList) = true := by
        rw [show (⟨(Words.txt n).toArray⟩ : ByteArray).data.toList = Words.txt n from List.toList_toArray]; exact rdB_txt hn.1 hn.2
      rw [eN, eB]
      clear eN eB HN
      go_wp2
      go_ret
      exact ⟨rfl, B2⟩
    · go_wp2_with fail
      refine (specOk_f n _ hn).mono ?_
      rintro e w8 ⟨rfl, rfl⟩
      go_wp2_with fail
      refine (Words.implText n _ (HL.out.below B2).1).mono ?_
      rintro e w9 ⟨rfl, hb⟩
      replace B2 := B2.trans (hb.mono B2.size)
      clear hb
      rw [Words.txt_out hn]
      go_wp2_with fail
      refine (laOk _).mono ?_
      rintro e w10 ⟨rfl, rfl⟩
      go_wp2
      go_ret
      exact ⟨rfl, B2⟩
  | false =>
    clear HTX
    by_cases hn : 0 ≤ n ∧ n < 65536
    · have HN := Words.hide hn
      go_wp2_with fail
      refine (specOk_t n _ hn.1 hn.2).mono ?_
      rintro e w8 ⟨rfl, rfl⟩
      go_wp2_with fail
      refine (Words.implText n _ (HL.out.below B2).1).mono ?_
      rintro e w9 ⟨rfl, hb⟩
      replace B2 := B2.trans (hb.mono B2.size)
      clear hb
      have hz : (⟨(Words.txt n).toArray⟩ : ByteArray).size ≤ 281474976710656 := by
        have h5 := Draw.txt_size n
        have e5 : (⟨(Words.txt n).toArray⟩ : ByteArray).size = (Words.txt n).length := by simp [ByteArray.size]
        omega
      go_wp2_with fail
      refine (Words.implRead ⟨(Words.txt n).toArray⟩ hz _ (HL.out.below B2).1 (HL.out.below B2).2).mono ?_
      rintro e w10 ⟨rfl, hb⟩
      replace B2 := B2.trans (hb.mono B2.size)
      clear hb hz
      have eN : Words.rdN ((⟨(Words.txt n).toArray⟩ : ByteArray).data.toList) = n := by
        rw [show (⟨(Words.txt n).toArray⟩ : ByteArray).data.toList = Words.txt n from List.toList_toArray]; exact rdN_txt hn.1 hn.2
      have eB : Words.rdB ((⟨(Words.txt n).toArray⟩ : ByteArray).data.toList) = true := by
        rw [show (⟨(Words.txt n).toArray⟩ : ByteArray).data.toList = Words.txt n from List.toList_toArray]; exact rdB_txt hn.1 hn.2
      rw [eN, eB]
      clear eN eB HN
      go_wp2
      go_ret
      exact ⟨rfl, B2⟩
    · go_wp2_with fail
      refine (specOk_f n _ hn).mono ?_
      rintro e w8 ⟨rfl, rfl⟩
      go_wp2_with fail
      refine (Words.implText n _ (HL.out.below B2).1).mono ?_
      rintro e w9 ⟨rfl, hb⟩
      replace B2 := B2.trans (hb.mono B2.size)
      clear hb
      rw [Words.txt_out hn]
      go_wp2_with fail
      refine (laOk _).mono ?_
      rintro e w10 ⟨rfl, rfl⟩
      go_wp2
      go_ret
      exact ⟨rfl, B2⟩

set_option maxRecDepth 100000 in
theorem lifted (os : Os) (started : os.Started) (H : Type) (enc : TypeId × Value → H) :
    ReturnsInHanded {} Tryd.checked os 3 .any (fun w args => (Rows.fnWrdTextSpec.pre enc Tryd.prog Tryd.f3 Rows.fnWrdTextRow.domain false w args ∧ laidMetH Tryd.prog Rows.fnWrdTextRow.laid w) ∧ sizedMet enc Tryd.prog Tryd.f3 (OpenSpec.ofChange Rows.fnWrdTextSpec) false w args)
      (Rows.fnWrdTextSpec.post enc Tryd.prog Tryd.f3 false true false false) := by
  refine returnsInHanded_of_change_and (C := Tryd.checked) (X := fun w _ => laidMetH Tryd.prog Rows.fnWrdTextRow.laid w) (fun _ _ _ hh h => h.of_heap hh) own started (by kernel_rfl) Tryd.func3
    (ChangeSpec.witness_shaped (enc := enc) (C := Tryd.checked) (os := os) (X := fun w _ => laidMetH Tryd.prog Rows.fnWrdTextRow.laid w) false (World.doorLaid Tryd.prog 400 os) #[.slice none 0 0, .slice none 0 0] 8 rfl (World.shaped_of_RefB (by kernel_rfl) (by kernel_rfl)) (by kernel_rfl) (by kernel_rfl) (by kernel_rfl) (door_met os _)) ?_
  intro W base args ds gs before hval0 hW _ hsz0 hL _
  have hval : ∀ (j : Nat) t v, Tryd.f3.params[j]? = some t → args[j]? = some v → Value.okWide Tryd.prog W .any base t v := hval0
  have hW' := hW
  obtain ⟨p, q, hA0, hV, rfl, hfz, hnd⟩ := hW
  have hA : DataW.TrodAll enc Tryd.prog W 0 (fun _ => true) true Tryd.f3.params.toList args.toList ds p := hA0
  rw [Tryd.params3] at hA hval
  obtain ⟨v0, vs0, d0, ds0, p0, q0, hargs, rfl, rfl, h0, r0⟩ := trodAll_cons hA
  obtain ⟨v1, vs1, d1, ds1, p1, q1, rfl, rfl, rfl, h1, r1⟩ := trodAll_cons r0
  obtain ⟨rfl, rfl, rfl⟩ := trodAll_nil r1
  obtain rfl : args = #[v0, v1] := by cases args; simp_all
  obtain ⟨rfl, rfl⟩ := trodVars_none hV
  obtain ⟨a0, len0, cap0, rfl⟩ := okWide_slice Tryd.underlying22 (hval 0 22 v0 rfl rfl)
  have k0 := h0
  have lt0 : ∀ x ∈ p0, x.block < W.heap.size := by obtain ⟨m, hm⟩ := k0; exact DataW.trod_lt m _ _ _ hm
  obtain ⟨z0, w0⟩ : ∃ zs, IsRow .u8 W a0 len0 cap0 zs := by
    obtain ⟨fuel, hf⟩ := h0
    rcases open_ints Tryd.underlying22 Tryd.underlying5 (by kernel_rfl) hf with ⟨hcs, _⟩ | ⟨x, l, c, zs, hcs, _, hl, hm, hz, _, hcell, hwz⟩
    · simp [Value.cells] at hcs
      obtain ⟨rfl, rfl, rfl⟩ := hcs
      exact ⟨[], .inl ⟨rfl, rfl, rfl, rfl⟩⟩
    · simp [Value.cells] at hcs
      obtain ⟨rfl, rfl, rfl⟩ := hcs
      exact ⟨zs, .inr ⟨_, rfl, hl, hm, by simpa using hz, hcell, hwz⟩⟩
  obtain ⟨a1, len1, cap1, rfl⟩ := okWide_slice Tryd.underlying22 (hval 1 22 v1 rfl rfl)
  have k1 := h1
  have lt1 : ∀ x ∈ p1, x.block < W.heap.size := by obtain ⟨m, hm⟩ := k1; exact DataW.trod_lt m _ _ _ hm
  obtain ⟨z1, w1⟩ : ∃ zs, IsRow .u8 W a1 len1 cap1 zs := by
    obtain ⟨fuel, hf⟩ := h1
    rcases open_ints Tryd.underlying22 Tryd.underlying5 (by kernel_rfl) hf with ⟨hcs, _⟩ | ⟨x, l, c, zs, hcs, _, hl, hm, hz, _, hcell, hwz⟩
    · simp [Value.cells] at hcs
      obtain ⟨rfl, rfl, rfl⟩ := hcs
      exact ⟨[], .inl ⟨rfl, rfl, rfl, rfl⟩⟩
    · simp [Value.cells] at hcs
      obtain ⟨rfl, rfl, rfl⟩ := hcs
      exact ⟨zs, .inr ⟨_, rfl, hl, hm, by simpa using hz, hcell, hwz⟩⟩
  clear hA0 hval0
  rw [MakeChecks.laidMetH_plain _ _ _ (by kernel_rfl)] at hL
  refine (walk a0 len0 cap0 z0 a1 len1 cap1 z1 W w0 w1 hL).mono fun e W' ⟨he, hnx⟩ => ?_
  subst he
  exact ⟨_, rfl, _, _, _, [], _, [], hW', trodAll_cons_mk (shut_bool Tryd.underlying4 _) trodAll_mk0, (trodAll_cons_mk (Below.trod laidOut (by kernel_rfl) (of_decide_eq_true (by kernel_rfl)) k0 hnx lt0) (trodAll_cons_mk (Below.trod laidOut (by kernel_rfl) (of_decide_eq_true (by kernel_rfl)) k1 hnx lt1) trodAll_mk0)), rfl, hnx.frame _, fun h => by cases h⟩

theorem over : Rows.fnWrdTextRow.holds Tryd.pinned (OpenSpec.ofChange Rows.fnWrdTextSpec) :=
  OpenClaim.holds_of_wide 3 Tryd.f3 rfl rfl rfl rfl rfl rfl rfl ⟨rfl, rfl, rfl, rfl, rfl⟩ rfl rfl rfl rfl rfl (by kernel_rfl) Tryd.func3 (by kernel_rfl)
    (of_decide_eq_true (by kernel_rfl)) (by unfold Func.isWrapper; first | (rw [if_pos (by decide +kernel)]; kernel_rfl) | (rw [if_neg (by decide +kernel)]; exact ⟨rfl, rfl⟩))
    (fun os started H enc _ => lifted os started H enc)

/-- THE STATEMENT: the tied card. -/
theorem proved : Rows.FnWrdTextCardSaid :=
  Claim7.holds_tied_plain_at .later [] [.data, .data, .data, .sentinel, .sentinel] true (true, "dd9ae2ef8e9f321b569c1a2110b607b7cfa4fff9e0053342098c73baf0f4ea9d") true
    over (fun _ h => by cases h) (by kernel_rfl) (fun _ h => by cases h) fnWrdText_row_tie rfl ⟨rfl, rfl⟩ (by kernel_rfl) rfl
    (fun f fn hf hfn => by
      obtain rfl : f = 3 := Option.some.inj ((show Tryd.prog.funcNamed "loop.example/latimer/laws.FnWrdText" = some 3 by kernel_rfl).symm.trans hf) |>.symm
      obtain rfl : fn = Tryd.f3 := (Option.some.inj (Tryd.func3.symm.trans hfn)).symm
      exact ⟨by kernel_rfl, fun j t ht => by
        rw [Tryd.params3] at ht
        have hm : t ∈ [22, 22] := by simpa using Array.mem_of_getElem? ht
        have hall : ([22, 22].all fun u => !Tryd.prog.wantsStandIn u) = true := by kernel_rfl
        exact (show Tryd.prog.wantsStandIn t = false by simpa using List.all_eq_true.1 hall t hm)⟩)
    (by kernel_rfl)
#print axioms proved
end Go.Proofs.YtapohghigmalcaaDoor.fnWrdText
