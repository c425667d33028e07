/-
  One more int for a list of ints that the call made; draws of words.
-/
import Derived.Test.YtpbpabcokfblfaaIntA
import Derived.Test.YtpbpabcokfblfaaDrawB
namespace Go.Proofs.Ytpbpabcokfblfaa.IntS
set_option linter.unusedVariables false
set_option linter.unusedSimpArgs false
open Go.ChangeShapes Go.WideShapes Go.ChangeAt Go.RowKit
theorem wpList_pushT {w : World} {ops : Array Oper} {rest : List Oper} {o : Oper} {a : Act} {Q : Exit → Act → World → Prop} (hgd : o.guard = none) (s x : Operand)
    (ho : o.op = .call { callee := .builtin .append, args := #[s, x], argTypes := #[23, 23] })
    (lo g cap : Nat) (l : List Int) (hs : a.eval s = .slice (some ⟨g, 0, none⟩) l.length cap) (hown : IntS.Own w lo (.slice (some ⟨g, 0, none⟩) l.length cap) l) (hlo : lo ≤ w.heap.size)
    (ad : Addr) (y : Int) (hx : a.eval x = .slice (some ad) 1 1) (hc : w.cell? (ad.add 0) = some (.int .i64 y)) (hl : l.length ≤ 1000000)
    (h : ∀ (G cap : Nat) (w' : World), Hid (IntS.Own w' lo (.slice (some ⟨G, 0, none⟩) (l.length + 1) cap) (l ++ [y])) → Hid (Turn g w w') → wpList Try.prog ops Q rest (a.put o.dst (.slice (some ⟨G, 0, none⟩) (l.length + 1) cap)) w') : wpList Try.prog ops Q (o :: rest) a w := by
  obtain ⟨i, hi, hz, hsz, hby⟩ := info_int
  refine wpList_append_own w hgd s x 23 ho lo 3 i _ 1 8 Try.underlying23 hi hz hsz hby rfl (by decide) (.slice (some ⟨g, 0, none⟩) l.length cap) l.length (vals l) hs hown ad 1 1 [.int .i64 y] hx rfl (fun j u hu => ?_) (fun u hu => by simp at hu; subst hu; rfl) (by unfold maxLen; omega) (by omega) hlo fun v' w' h1 h2 h3 => ?_
  · match j, hu with
    | 0, hu => cases hu; exact hc
    | j + 1, hu => simp at hu
  · have e : vals l ++ [.int .i64 y] = vals (l ++ [y]) := by simp [vals]
    rw [e] at h1
    have g1 : IntS.Own w' lo v' (l ++ [y]) := by
      unfold IntS.Own
      rw [List.length_append]
      exact h1
    obtain ⟨G, cap, rfl, _⟩ := g1.form (fun e2 => by have := (h3.1 e2).2; omega)
    rw [List.length_append] at g1
    have := h G cap w' g1 (Turn.of_grown h2)
    simpa using this
theorem own_nil (w : World) {lo : Nat} (hlo : lo ≤ w.heap.size) : IntS.Own (w.alloc (.cells #[] 3)) lo (.slice (some ⟨w.heap.size, 0, none⟩) 0 0) [] :=
  ⟨rfl, Or.inr ⟨w.heap.size, 0, #[], rfl, hlo, by show (w.heap.push _)[w.heap.size]? = _; exact Array.getElem?_push_size, Nat.le_refl _, by unfold maxLen; omega, rfl, rfl⟩⟩
theorem own_gt {lo g n cap : Nat} {w : World} {xs : List Int} (h : IntS.Own w lo (.slice (some ⟨g, 0, none⟩) n cap) xs) : lo ≤ g ∧ g < w.heap.size := by
  obtain ⟨g', cap', e, h1, h2, _⟩ := h.form (by simp)
  cases e
  exact ⟨h1, h2⟩
theorem own_below {w w' : World} {lo g n cap : Nat} {xs : List Int} (h : IntS.Own w lo (.slice (some ⟨g, 0, none⟩) n cap) xs) (hb : Below w.heap.size w w') : IntS.Own w' lo (.slice (some ⟨g, 0, none⟩) n cap) xs :=
  h.turn (B := g + 1) (Turn.of_below hb) (by omega) (own_gt h).2
theorem own_read {w : World} {lo g n cap : Nat} {xs : List Int} (h : IntS.Own w lo (.slice (some ⟨g, 0, none⟩) n cap) xs) : ∃ B, Row w B (.slice (some ⟨g, 0, none⟩) n cap) xs := by
  obtain ⟨g', cap', e, _, _, h4⟩ := h.form (by simp)
  exact ⟨g', h4.row⟩
end Go.Proofs.Ytpbpabcokfblfaa.IntS
namespace Go.Proofs.Ytpbpabcokfblfaa.Draw
set_option linter.unusedVariables false
set_option linter.unusedSimpArgs false
open Go.ChangeShapes Go.WideShapes Go.ChangeAt Go.RowKit
open IntS (Turn hide cell_below Row Own own_nil own_gt own_below own_read wpList_pushT)
theorem Keep.turn {R : Nat} {w w' : World} (h : Keep R w w') : Turn R w w' := ⟨h.os, h.tape, h.output, h.size, h.block⟩
theorem rd_turn {R q T : Nat} {w w' : World} (h : Rd R q w) (ht : Turn T w w') (hT : R < T) (hw : R < w.heap.size) : Rd R q w' := h.below (by
  rcases Nat.lt_or_ge R w.heap.size with h1 | h1
  · exact ht.below hT h1
  · omega)
theorem keep_up {R T : Nat} {w v V : World} (h : Keep R w v) (h2 : Turn T v V) (hT : w.heap.size ≤ T) : Keep R w V :=
  ⟨h2.os.trans h.os, h2.tape.trans h.tape, h2.output.trans h.output, Nat.le_trans h.size h2.size, fun k hk hne => (h2.block k (Nat.lt_of_lt_of_le hk h.size) (by omega)).trans (h.block k hk hne)⟩
theorem own_step {R lo g n cap : Nat} {w w' : World} {xs : List Int} (h : Own w lo (.slice (some ⟨g, 0, none⟩) n cap) xs) (k : Keep R w w') (hR : R < lo) : Own w' lo (.slice (some ⟨g, 0, none⟩) n cap) xs := h.turn k.turn (by have := (own_gt h).1; omega) (own_gt h).2
theorem alloc_below (w : World) (o : Obj) : Below w.heap.size w (w.alloc o) := (Below.refl _ _).alloc (Nat.le_refl _) o
set_option maxRecDepth 8000 in
set_option maxHeartbeats 8000000 in
theorem words (R q N : Nat) (w : World) (h : Rd R q w) (hq : q ≤ 700000) (hN : N ≤ 1000) :
    Calls Try.prog 12 #[.pointer (some ⟨R, 0, none⟩), .int .i64 (N : Int)] w fun e w' => ∃ g cap xs, e = .returned (.slice (some ⟨g, 0, none⟩) N cap) ∧ xs.length = N ∧ Own w' w.heap.size (.slice (some ⟨g, 0, none⟩) N cap) xs ∧ Rd R (q + 3 * N) w' ∧ Keep R w w' := by
  have hR := h.lt
  have K0 : Hid (Keep R w (w.alloc (.cells #[] 3))) := (Keep.refl R w).alloc _
  have H0 := hide (h.alloc (.cells #[] 3))
  have O0 := hide (own_nil w (Nat.le_refl _))
  clear h
  go_enter Try.func12, Try.ntmps12
  go_wp2
  generalize w.alloc (.cells #[] 3) = u0 at K0 H0 O0 ⊢
  go_loopw [5, 6] (fun s i wr => ∃ (j cap g : Nat) (xs : List Int), j ≤ N ∧ i = .int .i64 (j : Int) ∧ s = .slice (some ⟨g, 0, none⟩) j cap ∧ Hid (xs.length = j) ∧ Hid (Own wr w.heap.size (.slice (some ⟨g, 0, none⟩) j cap) xs) ∧ Hid (Rd R (q + 3 * j) wr) ∧ Hid (Keep R w wr)) (fun _ i _ => N - (intOf i).toNat)
  case atStart => exact ⟨0, 0, w.heap.size, [], by omega, rfl, rfl, rfl, O0, hide (H0.out.mono (by omega)), K0⟩
  case round =>
    clear O0 H0 K0
    obtain ⟨j, cap, g, xs, hj, rfl, rfl, EL, OO, HH, KK⟩ := hrel
    by_cases h0 : j < N
    · have lk : ((j : Nat) : Int) < (N : Nat) := by omega
      go_wp2_with fail
      refine (word R (q + 3 * j) wr HH.out (by omega)).mono ?_
      rintro e v2 ⟨y, rfl, y0, y1, h1, k1⟩
      have b1 := alloc_below v2 (.cells #[.int .i64 y] 3)
      have O0 := own_below (own_step OO.out k1 hR) b1
      have gl := (own_gt O0).1
      have O1 := hide (show Own (v2.alloc (.cells #[.int .i64 y] 3)) w.heap.size (.slice (some ⟨g, 0, none⟩) xs.length cap) xs by rw [EL.out]; exact O0)
      have K1 := hide ((KK.out.trans k1).trans (Keep.of_below b1))
      have H1 := hide (h1.below (b1.mono (by have := h1.lt; omega)))
      have C1 : Hid ((v2.alloc (.cells #[.int .i64 y] 3)).cell? ((⟨v2.heap.size, 0, none⟩ : Addr).add 0) = some (.int .i64 y)) := show _ = _ by rw [Go.WideShapes.add_plain]; simp
      have L1 : Hid (xs.length ≤ 1000000) := show _ ≤ _ by rw [EL.out]; omega
      have LO : Hid (w.heap.size ≤ (v2.alloc (.cells #[.int .i64 y] 3)).heap.size) := K1.out.size
      clear h1 k1 HH OO KK b1 y0 y1 O0
      go_wp2_with (at_builtin; refine wpList_pushT rfl _ _ rfl w.heap.size g cap xs (by rw [EL.out]; rfl) O1.out LO.out ⟨v2.heap.size, 0, none⟩ y rfl C1.out L1.out ?_; intro G2 cp2 u2 hO hT; rw [EL.out] at hO ⊢; have ON := hide hO.out; have TN := hide hT.out; clear hO hT; refine Hid.out ?_)
      refine hide ?_
      have KN := hide (keep_up K1.out TN.out gl)
      have HN := hide ((rd_turn H1.out TN.out (by omega) H1.out.lt).mono (show _ ≤ q + 3 * (j + 1) by omega))
      have EN : Hid ((xs ++ [y]).length = j + 1) := show _ = _ by rw [List.length_append, EL.out]; rfl
      clear O1 K1 H1 C1 L1 LO TN EL gl
      go_wp2
      exact ⟨⟨j + 1, cp2, G2, _, by omega, by go_num, rfl, EN, ON, HN, KN⟩, by simp [intOf]; omega⟩
    · obtain rfl : j = N := by omega
      go_wp2
      go_ret
      exact ⟨g, cap, xs, rfl, EL.out, OO.out, HH.out, KK.out⟩
end Go.Proofs.Ytpbpabcokfblfaa.Draw
