/-
  Contracts of the specification's InsText and what it calls (l2Names, l2Reg), each at every argument.
-/
import Derived.Test.YthpajjlhjfhdpaaGreatDoorInsC
import Derived.Test.YthpajjlhjfhdpaaGreatDoorPlain
import Derived.Deep.RegionWith
namespace Go.Proofs.YthpajjlhjfhdpaaGreatDoor.Ins
open Go.ChangeShapes Go.WideShapes Go.ChangeAt Go.RowKit

/-- The names of the kinds. -/
def names : Array Value := #[.string ⟨#[115, 116, 111, 112]⟩, .string ⟨#[115, 101, 116]⟩, .string ⟨#[109, 111, 118, 101]⟩, .string ⟨#[97, 100, 100]⟩, .string ⟨#[115, 117, 98]⟩, .string ⟨#[109, 117, 108]⟩, .string ⟨#[97, 110, 100]⟩, .string ⟨#[120, 111, 114]⟩, .string ⟨#[115, 104, 105, 102, 116]⟩, .string ⟨#[108, 111, 97, 100]⟩, .string ⟨#[115, 116, 111, 114, 101]⟩, .string ⟨#[115, 97, 109, 101]⟩, .string ⟨#[108, 101, 115, 115]⟩, .string ⟨#[103, 111]⟩, .string ⟨#[111, 117, 116]⟩, .string ⟨#[105, 110]⟩]
theorem l2Names (w : World) : Calls Tryz.prog 28 #[] w fun e w' => e = .returned (.slice (some ⟨w.heap.size, 0, none⟩) 16 16) ∧ w' = w.alloc (.cells names 9) := by
  go_enter Tryz.func28, Tryz.ntmps28
  go_wp2
  go_ret
  exact ⟨rfl, rfl⟩
/-- The name of a kind, a register's letter, a number's decimals, as texts. -/
def nameS (op : Int) : ByteArray := match names[op.toNat]? with
  | some (.string s) => s
  | _ => ⟨#[]⟩
def regS (k : Int) : ByteArray := ⟨#[UInt8.ofNat (97 + k).toNat]⟩
def digS (k : Int) : ByteArray := ⟨(Lib.decDigits k.toNat).toArray⟩
def sp : ByteArray := ⟨#[32]⟩
def stopS (k : Int) : ByteArray := if k = 0 then ⟨#[115, 116, 111, 112]⟩ else if k = 1 then ⟨#[114, 101, 116, 117, 114, 110]⟩ else if k = 2 then ⟨#[108, 101, 116]⟩ else ⟨#[107, 101, 101, 112]⟩
/-- The text of an instruction that is ok. -/
def textS (op d a k : Int) : ByteArray :=
  if op = 0 then stopS k
  else if op = 1 then nameS op ++ (sp ++ regS d) ++ (sp ++ digS k)
  else if op = 2 then nameS op ++ (sp ++ regS d) ++ (sp ++ regS a)
  else if 3 ≤ op ∧ op ≤ 7 then nameS op ++ (sp ++ regS d) ++ (sp ++ regS a) ++ sp ++ regS k
  else if op = 13 then nameS op ++ (sp ++ regS a)
  else if op = 14 ∨ op = 15 then nameS op ++ (sp ++ regS d)
  else nameS op ++ (sp ++ regS d) ++ (sp ++ regS a) ++ (sp ++ digS k)
theorem names_at (op : Int) (h0 : 0 ≤ op) (h1 : op ≤ 15) : names[op.toNat]? = some (.string (nameS op)) ∧ (nameS op).size ≤ 5 := by
  have h : op = 0 ∨ op = 1 ∨ op = 2 ∨ op = 3 ∨ op = 4 ∨ op = 5 ∨ op = 6 ∨ op = 7 ∨ op = 8 ∨ op = 9 ∨ op = 10 ∨ op = 11 ∨ op = 12 ∨ op = 13 ∨ op = 14 ∨ op = 15 := by omega
  rcases h with rfl | rfl | rfl | rfl | rfl | rfl | rfl | rfl | rfl | rfl | rfl | rfl | rfl | rfl | rfl | rfl <;> exact ⟨rfl, by decide⟩
theorem l2Reg (k : Int) (w : World) (h0 : 0 ≤ k) (h1 : k ≤ 3) : Calls Tryz.prog 29 #[.int .i64 k] w fun e w' => e = .returned (.string (regS k)) ∧ Below w.heap.size w w' := by
  have hcv := Words.conv1 w (97 + k) (by omega) (by omega)
  go_enter Tryz.func29, Tryz.ntmps29
  go_wp2
  go_ret
  exact ⟨rfl, (Below.refl _ _).alloc (Nat.le_refl _) _⟩
theorem reg_size (k : Int) : (regS k).size ≤ 1 := Nat.le_refl 1
theorem l1Plain (k : Int) (w : World) (h0 : 0 ≤ k) (h1 : k ≤ 255) : Calls Tryz.prog 30 #[.int .i64 k] w fun e w' => e = .returned (.string (digS k)) ∧ Below w.heap.size w w' := by
  obtain ⟨n, rfl⟩ := Int.eq_ofNat_of_zero_le h0
  unfold digS
  rw [Int.toNat_natCast]
  exact Words.plain_any n (by omega) w
theorem dig_size (k : Int) (h : k ≤ 255) : (digS k).size ≤ 3 := by
  have := Words.nd_le k.toNat 2 (by omega)
  simpa [digS, ByteArray.size] using this
theorem ret_str {a b : ByteArray} (h : a = b) : Ending.returned (.string a) = .returned (.string b) := by rw [h]
theorem form_0 {d a k : Int} (h : formB 0 d a k = true) : k ≤ 3 := by
  unfold formB at h
  rw [if_pos rfl] at h
  exact (of_decide_eq_true h).2.2
theorem form_r {op d a k : Int} (h3 : 3 ≤ op) (h7 : op ≤ 7) (h : formB op d a k = true) : k < 4 := by
  unfold formB at h
  rw [if_neg (by omega), if_neg (by omega), if_neg (by omega), if_pos ⟨h3, h7⟩] at h
  exact of_decide_eq_true h
set_option maxHeartbeats 8000000 in
theorem insText_ok (op d a k : Int) (w : World) (h : okB op d a k = true) : Calls Tryz.prog 9 #[.agg #[.int .i64 op, .int .i64 d, .int .i64 a, .int .i64 k]] w fun e w' => e = .returned (.string (textS op d a k)) ∧ Below w.heap.size w w' := by
  have HK : Hid (okB op d a k = true) := h
  obtain ⟨o0, o1, d0, d1, a0, a1, k0, k1, hF⟩ := okB_bd h
  have HF := Words.hide hF
  clear h hF
  go_enter Tryz.func9, Tryz.ntmps9
  go_wp2_with fail
  refine (insOk op d a k _).mono ?_
  rintro e w1 ⟨rfl, hb⟩
  rw [HK.out]
  have B1 : Below w.heap.size w w1 := ((Below.refl _ _).alloc (Nat.le_refl _) _).trans (hb.mono (by simp))
  have hz : w.heap.size < w1.heap.size := by have := hb.size; simp at this; omega
  have c0 : w1.cell? ⟨w.heap.size, 0, none⟩ = some (.int .i64 op) := cell_below hb (by simp)
  have c1 : w1.cell? ⟨w.heap.size, 1, none⟩ = some (.int .i64 d) := cell_below hb (by simp)
  have c2 : w1.cell? ⟨w.heap.size, 2, none⟩ = some (.int .i64 a) := cell_below hb (by simp)
  have c3 : w1.cell? ⟨w.heap.size, 3, none⟩ = some (.int .i64 k) := cell_below hb (by simp)
  clear hb
  obtain ⟨hN, hNs⟩ := names_at op o0 o1
  obtain ⟨N, eN⟩ : ∃ N, nameS op = N := ⟨_, rfl⟩
  rw [eN] at hN hNs
  have EN := Words.hide eN
  clear eN
  have X2 : Below w.heap.size w ((w1.alloc (.cells names 9)).drew) := (B1.alloc B1.size _).drew
  have g0 : ((w1.alloc (.cells names 9)).drew).cell? ⟨w.heap.size, 0, none⟩ = some (.int .i64 op) := (World.cell?_alloc_lt w1 (a := ⟨w.heap.size, 0, none⟩) _ hz).trans c0
  have g1 : ((w1.alloc (.cells names 9)).drew).cell? ⟨w.heap.size, 1, none⟩ = some (.int .i64 d) := (World.cell?_alloc_lt w1 (a := ⟨w.heap.size, 1, none⟩) _ hz).trans c1
  have g2 : ((w1.alloc (.cells names 9)).drew).cell? ⟨w.heap.size, 2, none⟩ = some (.int .i64 a) := (World.cell?_alloc_lt w1 (a := ⟨w.heap.size, 2, none⟩) _ hz).trans c2
  have g3 : ((w1.alloc (.cells names 9)).drew).cell? ⟨w.heap.size, 3, none⟩ = some (.int .i64 k) := (World.cell?_alloc_lt w1 (a := ⟨w.heap.size, 3, none⟩) _ hz).trans c3
  have hz2 : w.heap.size < ((w1.alloc (.cells names 9)).drew).heap.size := by simp; omega
  have HX := Words.hide X2
  have HG := Words.hide (And.intro g0 (And.intro g1 (And.intro g2 g3)))
  clear X2 g0 g1 g2 g3 B1
  go_wp2_with fail
  go_region_with (go_at_call 28; refine (l2Names _).mono ?_; rintro e w2 ⟨rfl, rfl⟩)
  all_goals
    clear c0 c1 c2 c3 hN
    obtain ⟨g0, g1, g2, g3⟩ := HG.out
    go_wp2_with fail
    refine (l2Reg d _ d0 d1).mono ?_
    rintro e w3 ⟨rfl, hb⟩
    have X3 := HX.out.trans (hb.mono (Nat.le_of_lt hz2))
    have c0 := cell_below hb g0
    have c2 := cell_below hb g2
    have c3 := cell_below hb g3
    clear hb g0 g1 g2 g3 HG HX hz2 hz
    go_wp2_with fail
    refine (l2Reg a _ a0 a1).mono ?_
    rintro e w4 ⟨rfl, hb⟩
    have X4 := X3.trans (hb.mono X3.size)
    have e0 := cell_below hb c0
    have e3 := cell_below hb c3
    clear hb c0 c2 c3 X3
    go_wp2_with fail
    refine (l1Plain k _ k0 k1).mono ?_
    rintro e w5 ⟨rfl, hb⟩
    have X5 := X4.trans (hb.mono X4.size)
    have c0 := cell_below hb e0
    have c3 := cell_below hb e3
    have s1 := reg_size d
    have s2 := reg_size a
    have s3 := dig_size k k1
    clear hb e0 e3 X4
    have h : op = 0 ∨ op = 1 ∨ op = 2 ∨ op = 3 ∨ op = 4 ∨ op = 5 ∨ op = 6 ∨ op = 7 ∨ op = 8 ∨ op = 9 ∨ op = 10 ∨ op = 11 ∨ op = 12 ∨ op = 13 ∨ op = 14 ∨ op = 15 := by omega
    rcases h with rfl | rfl | rfl | rfl | rfl | rfl | rfl | rfl | rfl | rfl | rfl | rfl | rfl | rfl | rfl | rfl
    · have hk : k = 0 ∨ k = 1 ∨ k = 2 ∨ k = 3 := by have := form_0 HF.out; omega
      have hz5 : w.heap.size < w5.heap.size := World.block_lt_of_cell? w5 ⟨w.heap.size, 3, none⟩ c3
      rcases hk with rfl | rfl | rfl | rfl
      · go_wp2
        go_ret
        exact ⟨ret_str rfl, X5.alloc X5.size _⟩
      · go_wp2
        go_ret
        exact ⟨ret_str rfl, X5.alloc X5.size _⟩
      · go_wp2
        go_ret
        exact ⟨ret_str rfl, X5.alloc X5.size _⟩
      · go_wp2
        go_ret
        exact ⟨ret_str rfl, X5.alloc X5.size _⟩
    · go_wp2
      go_ret
      exact ⟨ret_str (by rw [← EN.out]; rfl), X5⟩
    · go_wp2
      go_ret
      exact ⟨ret_str (by rw [← EN.out]; rfl), X5⟩
    · have hk : k < 4 := form_r (op := 3) (by omega) (by omega) HF.out
      go_wp2_with fail
      refine (l2Reg k _ k0 (by omega)).mono ?_
      rintro e w6 ⟨rfl, hb⟩
      have X6 := X5.trans (hb.mono X5.size)
      have s4 := reg_size k
      clear hb X5 c0 c3
      go_wp2
      go_ret
      exact ⟨ret_str (by rw [← EN.out]; rfl), X6⟩
    · have hk : k < 4 := form_r (op := 4) (by omega) (by omega) HF.out
      go_wp2_with fail
      refine (l2Reg k _ k0 (by omega)).mono ?_
      rintro e w6 ⟨rfl, hb⟩
      have X6 := X5.trans (hb.mono X5.size)
      have s4 := reg_size k
      clear hb X5 c0 c3
      go_wp2
      go_ret
      exact ⟨ret_str (by rw [← EN.out]; rfl), X6⟩
    · have hk : k < 4 := form_r (op := 5) (by omega) (by omega) HF.out
      go_wp2_with fail
      refine (l2Reg k _ k0 (by omega)).mono ?_
      rintro e w6 ⟨rfl, hb⟩
      have X6 := X5.trans (hb.mono X5.size)
      have s4 := reg_size k
      clear hb X5 c0 c3
      go_wp2
      go_ret
      exact ⟨ret_str (by rw [← EN.out]; rfl), X6⟩
    · have hk : k < 4 := form_r (op := 6) (by omega) (by omega) HF.out
      go_wp2_with fail
      refine (l2Reg k _ k0 (by omega)).mono ?_
      rintro e w6 ⟨rfl, hb⟩
      have X6 := X5.trans (hb.mono X5.size)
      have s4 := reg_size k
      clear hb X5 c0 c3
      go_wp2
      go_ret
      exact ⟨ret_str (by rw [← EN.out]; rfl), X6⟩
    · have hk : k < 4 := form_r (op := 7) (by omega) (by omega) HF.out
      go_wp2_with fail
      refine (l2Reg k _ k0 (by omega)).mono ?_
      rintro e w6 ⟨rfl, hb⟩
      have X6 := X5.trans (hb.mono X5.size)
      have s4 := reg_size k
      clear hb X5 c0 c3
      go_wp2
      go_ret
      exact ⟨ret_str (by rw [← EN.out]; rfl), X6⟩
    · go_wp2
      go_ret
      exact ⟨ret_str (by rw [← EN.out]; rfl), X5⟩
    · go_wp2
      go_ret
      exact ⟨ret_str (by rw [← EN.out]; rfl), X5⟩
    · go_wp2
      go_ret
      exact ⟨ret_str (by rw [← EN.out]; rfl), X5⟩
    · go_wp2
      go_ret
      exact ⟨ret_str (by rw [← EN.out]; rfl), X5⟩
    · go_wp2
      go_ret
      exact ⟨ret_str (by rw [← EN.out]; rfl), X5⟩
    · go_wp2
      go_ret
      exact ⟨ret_str (by rw [← EN.out]; rfl), X5⟩
    · go_wp2
      go_ret
      exact ⟨ret_str (by rw [← EN.out]; rfl), X5⟩
    · go_wp2
      go_ret
      exact ⟨ret_str (by rw [← EN.out]; rfl), X5⟩
/-- The text of an instruction; nothing, if it is not ok. -/
def itext (op d a k : Int) : ByteArray := if okB op d a k then textS op d a k else ⟨#[]⟩
theorem insText (op d a k : Int) (w : World) : Calls Tryz.prog 9 #[.agg #[.int .i64 op, .int .i64 d, .int .i64 a, .int .i64 k]] w fun e w' => e = .returned (.string (itext op d a k)) ∧ Below w.heap.size w w' := by
  unfold itext
  cases h : okB op d a k with
  | true => exact insText_ok op d a k w h
  | false =>
    go_enter Tryz.func9, Tryz.ntmps9
    go_wp2_with fail
    refine (insOk op d a k _).mono ?_
    rintro e w1 ⟨rfl, hb⟩
    rw [h]
    have B1 : Below w.heap.size w w1 := ((Below.refl _ _).alloc (Nat.le_refl _) _).trans (hb.mono (by simp))
    clear hb h
    go_wp2
    go_ret
    exact ⟨rfl, B1⟩
end Go.Proofs.YthpajjlhjfhdpaaGreatDoor.Ins
