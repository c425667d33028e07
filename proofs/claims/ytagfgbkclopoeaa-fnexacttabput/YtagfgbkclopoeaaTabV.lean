/-
  The text of a sum: the program's sumText.
-/
import Derived.Test.YtagfgbkclopoeaaTabU
import Derived.Test.YtagfgbkclopoeaaTxt
import Derived.Test.YtagfgbkclopoeaaPolEr
import Derived.Lib.AppendStr
namespace Go.Proofs.Ytagfgbkclopoeaa.Tab
set_option linter.unusedVariables false
open Go.ChangeShapes Go.WideShapes Go.ChangeAt Go.RowKit Go.Shelf IntS Pol Rng
theorem keep_byte {w w' : World} {lo : Nat} {v : Value} {l : List UInt8} (hown : OwnB w lo v l) (h2 : w.grownBy w' v.ownBlock) : ∀ (k : Nat) cs t z, w.heap[k]? = some (Obj.cells cs t z) → t ≠ 5 → w'.heap[k]? = some (Obj.cells cs t z) := fun k cs t z hk ht => by
  rw [h2.block k (lt_of_some hk) ?_]
  · exact hk
  · intro e
    obtain ⟨_, h0 | ⟨g, cap, cur, hv, _, hh, _⟩⟩ := hown
    · rw [h0.1] at e; simp [Value.ownBlock] at e
    · rw [hv] at e
      obtain rfl : k = g := by simpa [Value.ownBlock] using e
      rw [hk] at hh
      cases hh
      exact ht rfl
/-- Two bytes appended to bytes that the call made. -/
theorem wpList_pushTwo {w : World} {ops : Array Oper} {rest : List Oper} {o : Oper} {a : Act} {Q : Exit → Act → World → Prop} (hgd : o.guard = none) (s x : Operand)
    (ho : o.op = .call { callee := .builtin .append, args := #[s, x], argTypes := #[102, 102] })
    (lo : Nat) (v : Value) (l : List UInt8) (hs : a.eval s = v) (hown : OwnB w lo v l) (hlo : lo ≤ w.heap.size)
    (ad : Addr) (b c : UInt8) (hx : a.eval x = .slice (some ad) 2 2) (hb : w.cell? (ad.add 0) = some (.int .u8 (b.toNat : Int))) (hc : w.cell? (ad.add 1) = some (.int .u8 (c.toNat : Int))) (hl : l.length ≤ 1000000)
    (h : ∀ (v' : Value) (w' : World), Hid (OwnB w' lo v' (l ++ [b, c])) → Hid (Below lo w w') → Hid (∀ (k : Nat) cs t z, w.heap[k]? = some (Obj.cells cs t z) → t ≠ 5 → w'.heap[k]? = some (Obj.cells cs t z)) → wpList Try.prog ops Q rest (a.put o.dst v') w') : wpList Try.prog ops Q (o :: rest) a w := by
  obtain ⟨i, hi, hz, hsz, hby⟩ := info_byte
  have hlt := hown.lt
  refine wpList_append_own w hgd s x 102 ho lo 5 i _ 1 1 Try.underlying102 hi hz hsz hby rfl (by decide) v l.length (bvals l) hs hown ad 2 2 [.int .u8 (b.toNat : Int), .int .u8 (c.toNat : Int)] hx rfl (fun j u hu => ?_) (fun u hu => by simp at hu; rcases hu with rfl | rfl <;> rfl) (by unfold maxLen; omega) (by omega) hlo fun v' w' h1 h2 h3 => ?_
  · match j, hu with
    | 0, hu => cases hu; exact hb
    | 1, hu => cases hu; exact hc
    | j + 2, hu => simp at hu
  · have g1 : OwnB w' lo v' (l ++ [b, c]) := by
      unfold OwnB
      rw [List.length_append, show bvals (l ++ [b, c]) = bvals l ++ [.int .u8 (b.toNat : Int), .int .u8 (c.toNat : Int)] by simp [bvals]]
      exact h1
    exact h v' w' g1 ((Below.refl lo w).grown h2 hlo (fun k e => (hlt k e).1)) (keep_byte hown h2)
/-- A text appended to bytes that the call made. -/
theorem wpList_pushText {w : World} {ops : Array Oper} {rest : List Oper} {o : Oper} {a : Act} {Q : Exit → Act → World → Prop} (hgd : o.guard = none) (s x : Operand)
    (ho : o.op = .call { callee := .builtin .append, args := #[s, x], argTypes := #[102, 9] })
    (lo : Nat) (v : Value) (l : List UInt8) (hs : a.eval s = v) (hown : OwnB w lo v l) (hlo : lo ≤ w.heap.size)
    (bs : List UInt8) (hx : a.eval x = .string ⟨bs.toArray⟩) (hl : l.length ≤ 1000000) (hl2 : bs.length ≤ 1000000)
    (h : ∀ (v' : Value) (w' : World), Hid (OwnB w' lo v' (l ++ bs)) → Hid (Below lo w w') → Hid (∀ (k : Nat) cs t z, w.heap[k]? = some (Obj.cells cs t z) → t ≠ 5 → w'.heap[k]? = some (Obj.cells cs t z)) → wpList Try.prog ops Q rest (a.put o.dst v') w') : wpList Try.prog ops Q (o :: rest) a w := by
  obtain ⟨i, hi, hz, hsz, hby⟩ := info_byte
  have hlt := hown.lt
  have es : (⟨bs.toArray⟩ : ByteArray).size = bs.length := by simp [ByteArray.size]
  refine Go.Lib.wpList_append_own_string w hgd s x 102 9 ho lo 5 i Try.underlying102 Try.underlying9 hi hz hsz hby v l.length (bvals l) hs hown ⟨bs.toArray⟩ hx (by rw [es]; unfold maxLen; omega) (by rw [es]; omega) hlo fun v' w' h1 h2 h3 => ?_
  have g1 : OwnB w' lo v' (l ++ bs) := by
    unfold OwnB
    rw [List.length_append, show bvals (l ++ bs) = bvals l ++ Go.Lib.strCells ⟨bs.toArray⟩ by simp [bvals, Go.Lib.strCells]]
    rw [es] at h1
    exact h1
  exact h v' w' g1 ((Below.refl lo w).grown h2 hlo (fun k e => (hlt k e).1)) (keep_byte hown h2)
def partTxt (m : Mono) : List UInt8 := [Pol.byteOf (m.1 / 256), Pol.byteOf m.1] ++ txt m.2
/-- The text of a sum. -/
def sumTxt : List Mono → List UInt8
  | [] => []
  | m :: r => partTxt m ++ sumTxt r
theorem sumTxt_app : ∀ a b : List Mono, sumTxt (a ++ b) = sumTxt a ++ sumTxt b
  | [], b => rfl
  | x :: a, b => by simp [sumTxt, sumTxt_app a b]
theorem sumTxt_next {ps : List Mono} {k : Nat} {m : Mono} (h : ps[k]? = some m) : sumTxt (ps.take (k + 1)) = (sumTxt (ps.take k) ++ [Pol.byteOf (m.1 / 256), Pol.byteOf m.1]) ++ txt m.2 := by
  rw [List.take_add_one, h, sumTxt_app]
  simp [sumTxt, partTxt]
theorem sumTxt_len : ∀ {ps : List Mono}, (∀ m ∈ ps, m.2.length ≤ 4) → (sumTxt ps).length ≤ 7 * ps.length
  | [], _ => by simp [sumTxt]
  | m :: r, h => by
    have h1 := sumTxt_len (ps := r) (fun x hx => h x (List.mem_cons_of_mem _ hx))
    have h2 := h m (List.mem_cons_self ..)
    simp [sumTxt, partTxt, txt]
    omega
theorem ok_parts' {ps : List Mono} (h : okP ps = true) : ps.length ≤ 12 ∧ ∀ m ∈ ps, monoB m = true := by
  unfold okP at h
  simp only [Bool.and_eq_true] at h
  refine ⟨of_decide_eq_true h.1, fun m hm => ?_⟩
  obtain ⟨k, hk, rfl⟩ := List.getElem_of_mem hm
  have h1 := all_at h.2 hk
  unfold Pol.partAt at h1
  rw [Pol.getD_in _ _ hk] at h1
  exact (Bool.and_eq_true_iff.1 h1).1
set_option maxRecDepth 8000 in
set_option maxHeartbeats 16000000 in
theorem sumText (ps : List Mono) (B : Nat) (v : Value) (w : World) (h : PRow w B v ps) (hok : okP ps = true) :
    Calls Try.prog 56 #[.agg #[v]] w fun e w' => e = .returned (.string ⟨(sumTxt ps).toArray⟩) ∧ Below w.heap.size w w' := by
  obtain ⟨hn12, hg⟩ := ok_parts' hok
  have HG := hide hg
  have HLEN := hide (sumTxt_len (ps := ps) (fun m hm => (mono_good (hg m hm)).2.2.2.2))
  obtain ⟨a, cap, off, rfl, h2, h3, hz, h4⟩ := h
  unfold maxLen at h3
  clear hz hok hg
  have BW : Hid (Below w.heap.size w (w.alloc (.cells #[.slice a ps.length cap] 40))) := (Below.refl _ _).alloc (Nat.le_refl _) _
  obtain ⟨n, en⟩ : ∃ n, ps.length = n := ⟨_, rfl⟩
  have EN := hide en
  rw [en] at h2 BW hn12 ⊢
  have H4 := hide h4
  clear en h4
  go_enter Try.func56, Try.ntmps56
  by_cases h0 : n = 0
  · subst h0
    have e0 : ps = [] := List.length_eq_zero_iff.1 EN.out
    have HD : Hid (sumTxt ps = []) := show _ = _ by rw [e0]; rfl
    go_wp2
    generalize w.alloc (.cells #[.slice a 0 cap] 40) = V at BW ⊢
    have RC : (convert 102 9 (.slice none 0 0)).run Try.prog V = .ok (.string ⟨#[]⟩) V := by
      rw [run_convert_bytes_string V 102 9 5 none 0 0 Try.underlying102 Try.underlying5 Try.underlying9]
      rfl
    refine wp_loop_rounds 1 ?_
    rw [rounds_succ]
    go_wp2
    go_ret
    exact ⟨by rw [HD.out]; rfl, BW.out⟩
  · obtain ⟨rfl, hc⟩ := H4.out.resolve_left (fun e => h0 (by rw [← EN.out, e]; rfl))
    have HC := hide hc
    clear hc H4
    go_wp2
    generalize w.alloc (.cells #[.slice (some ⟨B, off, none⟩) n cap] 40) = V at BW ⊢
    go_loopw [3, 9] (fun t i wr => ∃ k : Nat, k ≤ n ∧ i = .int .i64 k ∧ Hid (OwnB wr w.heap.size t (sumTxt (ps.take k))) ∧ Hid (Below w.heap.size w wr)) (fun _ i _ => n - (intOf i).toNat)
    case atStart => exact ⟨0, by omega, rfl, World.ownsRow_nil _ _ _ _, BW⟩
    case round =>
      obtain ⟨k, hk, rfl, HO, HB⟩ := hrel
      by_cases hlt : k < n
      case neg =>
        obtain rfl : k = n := by omega
        have et : ps.take k = ps := by rw [← EN.out, List.take_length]
        rw [et] at HO
        have ne : sumTxt ps ≠ [] := by
          match ps, EN.out with
          | [], e => exact absurd e.symm (by simpa using h0)
          | m :: r, _ => simp [sumTxt, partTxt]
        obtain ⟨G, cp, rfl, g2, g3, g4, g5⟩ := HO.out.form ne
        have RC := run_convert_bytes_back (P := Try.prog) wr 102 9 5 ⟨G, 0, none⟩ cp (sumTxt ps) Try.underlying102 Try.underlying5 Try.underlying9 (fun j hj => by
          rw [Go.WideShapes.add_plain, Nat.zero_add]
          exact g5 j hj)
        clear g5 HO g2 g3 g4 et ne
        go_wp2
        go_ret
        exact ⟨rfl, HB.out⟩
      obtain ⟨x, ex⟩ : ∃ x, ps[k]? = some x := ⟨_, List.getElem?_eq_getElem (by rw [EN.out]; exact hlt)⟩
      obtain ⟨c, at_⟩ := x
      have MG := mono_good (HG.out _ (List.mem_of_getElem? ex))
      obtain ⟨g1, s, b, g2, g3⟩ := HC.out k _ ex
      have cx := cell_below HB.out g1
      have sx := cell_below HB.out g2
      have RX := hide g3
      obtain ⟨qa, ca, _, rfl, _⟩ := g3
      simp only [] at cx sx RX MG
      have NX := hide (sumTxt_next ex)
      simp only [] at NX
      have lk : ((k : Nat) : Int) < (n : Nat) := by omega
      have LT : Hid ((sumTxt (ps.take k)).length ≤ 84) := show _ ≤ _ by
        have h1 := sumTxt_len (ps := ps.take k) (fun m hm => (mono_good (HG.out m (List.mem_of_mem_take hm))).2.2.2.2)
        have h2 : (ps.take k).length ≤ 12 := by rw [List.length_take]; omega
        omega
      obtain ⟨l, el⟩ : ∃ l, sumTxt (ps.take k) = l := ⟨_, rfl⟩
      rw [el] at HO LT NX
      have BX : Below wr.heap.size wr ((wr.alloc (.cells #[.int .i64 c, .slice qa at_.length ca] 88)).alloc (.cells #[.int .u8 (c / 256), .int .u8 (c % 256)] 5)) := ((Below.refl _ _).alloc (Nat.le_refl _) _).alloc (by simp) _
      have OX := hide (HO.out.below BX)
      have BY := hide (HB.out.trans (BX.mono HB.out.size))
      have hh1 : ((wr.alloc (.cells #[.int .i64 c, .slice qa at_.length ca] 88)).alloc (.cells #[.int .u8 (c / 256), .int .u8 (c % 256)] 5)).heap[wr.heap.size]? = some (.cells #[.int .i64 c, .slice qa at_.length ca] 88) := by
        rw [heap_alloc_old _ _ (by simp), World.alloc_heap_new]
      have HH := hide hh1
      have c1 : c / 256 = ((Pol.byteOf (c / 256)).toNat : Int) := byte_nat (by omega)
      have c2 : c % 256 = ((Pol.byteOf c).toNat : Int) := by
        unfold Pol.byteOf
        simp only [UInt8.toNat_ofNat']
        omega
      have CB : Hid (((wr.alloc (.cells #[.int .i64 c, .slice qa at_.length ca] 88)).alloc (.cells #[.int .u8 (c / 256), .int .u8 (c % 256)] 5)).cell? ((⟨wr.heap.size + 1, 0, none⟩ : Addr).add 0) = some (.int .u8 ((Pol.byteOf (c / 256)).toNat : Int))) := show _ = _ by
        rw [Go.WideShapes.add_plain, ← c1, show wr.heap.size + 1 = (wr.alloc (.cells #[.int .i64 c, .slice qa at_.length ca] 88)).heap.size by simp, World.cell?_alloc_new]
        rfl
      have CC : Hid (((wr.alloc (.cells #[.int .i64 c, .slice qa at_.length ca] 88)).alloc (.cells #[.int .u8 (c / 256), .int .u8 (c % 256)] 5)).cell? ((⟨wr.heap.size + 1, 0, none⟩ : Addr).add 1) = some (.int .u8 ((Pol.byteOf c).toNat : Int))) := show _ = _ by
        rw [Go.WideShapes.add_plain, ← c2, show wr.heap.size + 1 = (wr.alloc (.cells #[.int .i64 c, .slice qa at_.length ca] 88)).heap.size by simp, World.cell?_alloc_new]
        rfl
      have LX : Hid (l.length ≤ 1000000) := show _ ≤ _ by have := LT.out; omega
      have FN := hide MG
      have cb := MG.2.1
      clear ex g1 g2 MG BX HO HB hh1 c1 c2 el
      go_wp2_with (at_builtin; refine wpList_pushTwo rfl _ _ rfl w.heap.size _ l rfl OX.out BY.out.size ⟨wr.heap.size + 1, 0, none⟩ (Pol.byteOf (c / 256)) (Pol.byteOf c) rfl CB.out CC.out LX.out ?_; intro t2 u2 hO hb hkeep; refine Hid.out ?_)
      have B2 := hide (BY.out.trans hb.out)
      have H2 := hkeep.out _ _ _ _ HH.out (by decide)
      have p1 : u2.cell? ⟨wr.heap.size, 1, none⟩ = some (.slice qa at_.length ca) := by
        unfold World.cell?
        simp only [H2]
        rfl
      have RX2 := hide (RX.out.below B2.out)
      have LB := hide (lt_of_some H2)
      clear OX BY CB CC LX HH hb hkeep H2 RX cx sx
      refine hide ?_
      go_wp2_with fail
      refine (Pol.atomsText at_ b _ _ RX2.out FN.out.1.at_ FN.out.1.len).mono ?_
      rintro e u4 ⟨rfl, hb⟩
      rw [sort_self FN.out.2.2.1]
      have O4 := hide (hO.out.below hb)
      have B4 := hide (B2.out.trans (hb.mono B2.out.size))
      have L4 : Hid ((l ++ [Pol.byteOf (c / 256), Pol.byteOf c]).length ≤ 1000000) := show _ ≤ _ by have := LT.out; simp; omega
      have L5 : Hid ((txt at_).length ≤ 1000000) := show _ ≤ _ by have := FN.out.2.2.2.2; unfold txt; simp; omega
      clear hb hO B2 p1 RX2
      go_wp2_with (at_builtin; refine wpList_pushText rfl _ _ rfl w.heap.size _ _ rfl O4.out B4.out.size (txt at_) rfl L4.out L5.out ?_; intro t5 u5 hO5 hb5 hkeep5; refine Hid.out ?_)
      have O5 := hO5.out
      rw [← NX.out] at O5
      have O6 := hide O5
      have B6 := hide (B4.out.trans hb5.out)
      clear O5 O4 B4 hO5 hb5 hkeep5 L4 L5
      refine hide ?_
      go_wp2
      exact ⟨⟨k + 1, by omega, by go_num, O6, B6⟩, by simp [intOf]; omega⟩
end Go.Proofs.Ytagfgbkclopoeaa.Tab
