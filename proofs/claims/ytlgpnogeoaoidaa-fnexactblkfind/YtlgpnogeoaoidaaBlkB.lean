/-
  Instructions as words, words as instructions: BlkWords, BlkTake, the specification's and the program's.
-/
import Derived.Test.YtlgpnogeoaoidaaBlkA
namespace Go.Proofs.Ytlgpnogeoaoidaa.Blk
set_option linter.unusedVariables false
set_option linter.unusedSimpArgs false
open Go.ChangeShapes Go.WideShapes Go.ChangeAt Go.RowKit IntS Flat InsS
open Ins (okB endsB inB putN takeB takeC)
def wordsL (is : List In4) : List Int := is.map fun i => putN i.op i.d i.a i.k
def inOf (n : Int) : In4 := ⟨n / 4096, n / 1024 % 4, n / 256 % 4, n % 256⟩
def takeL : List Int → List In4
  | [] => []
  | x :: r => if takeB x = true then inOf x :: takeL r else []
theorem drop_at {α : Type} {xs : List α} {k : Nat} {x : α} (h : xs[k]? = some x) : xs.drop k = x :: xs.drop (k + 1) := by
  obtain ⟨hk, rfl⟩ := List.getElem?_eq_some_iff.1 h
  exact List.drop_eq_getElem_cons hk
theorem drop_end {α : Type} {xs : List α} {k : Nat} (h : xs.length ≤ k) : xs.drop k = [] := List.drop_eq_nil_of_le h
theorem takeC_yes {x : Int} (h : takeB x = true) : takeC x = #[.int .i64 (inOf x).op, .int .i64 (inOf x).d, .int .i64 (inOf x).a, .int .i64 (inOf x).k] := by
  unfold takeC
  rw [if_pos h]
  rfl
theorem takeC_no {x : Int} (h : takeB x = false) : takeC x = #[.int .i64 0, .int .i64 0, .int .i64 0, .int .i64 0] := by
  unfold takeC
  rw [if_neg (by rw [h]; decide)]
theorem takeL_len : ∀ ws : List Int, (takeL ws).length ≤ ws.length
  | [] => Nat.le_refl _
  | x :: r => by
    unfold takeL
    split
    · simp; exact takeL_len r
    · simp
theorem heap_new (w : World) (t : TypeId) : (w.alloc (.cells #[] t)).heap[w.heap.size]? = some (.cells #[] t (0, 0)) := (MapKept.heap_alloc w _).1
/-- Ints in a slice that the call made, as one of structs of one int. -/
abbrev OwnN (w : World) (lo : Nat) (v : Value) (xs : List Int) : Prop := OwnF 3 1 w lo v xs.length xs
theorem run_pushN {w : World} {ty : TypeId} {lo cap : Nat} {q : Option Addr} {xs : List Int} (hown : OwnN w lo (.slice q xs.length cap) xs) (hn : xs.length ≤ 1000000000000) (hlo : lo ≤ w.heap.size) (ad : Addr) (y : Int)
    (c0 : w.cell? (ad.add 0) = some (.int .i64 y)) :
    ∃ g' cap' w', (Builtin.append_ #[22, 22] ty #[.slice q xs.length cap, .slice (some ad) 1 1]).run Try.prog w = .ok (.slice (some ⟨g', 0, none⟩) (xs.length + 1) cap') w' ∧ OwnN w' lo (.slice (some ⟨g', 0, none⟩) (xs.length + 1) cap') (xs ++ [y]) ∧ ((Value.slice q xs.length cap).ownBlock = some g' ∨ w.heap.size ≤ g') ∧ g' < w'.heap.size ∧ w.grownBy w' (Value.slice q xs.length cap).ownBlock := by
  obtain ⟨j, hi, hz, hsz, hby⟩ := info_int
  obtain ⟨g', cap', w', h1, h2, h3⟩ := run_flat (P := Try.prog) 22 ty 3 j _ 1 8 Try.underlying22 hi hz hsz hby rfl (by decide) (by decide) hown hn hlo ad [y] rfl (fun j x hx => by
    match j, hx with
    | 0, hx => cases hx; exact c0
    | j + 1, hx => simp at hx)
  refine ⟨g', cap', w', h1, ?_, h3⟩
  unfold OwnN
  rw [List.length_append]
  exact h2
/-- A slice of ints that the call made may be written. -/
theorem row_of_flat {w : World} {B : Nat} {v : Value} {xs : List Int} (h : WFRow 1 w B v xs.length xs) : WRow w B v xs := by
  obtain ⟨a, cap, off, h1, h2, h3, hz, hl, h4⟩ := h
  exact ⟨a, cap, off, h1, h2, h3, hz, h4.imp (fun e => List.length_eq_zero_iff.1 e) id⟩
/-- What grew of a world, a slice of it appended to. -/
theorem below_push {w U u3 : World} {q : Option Addr} {n cap lo : Nat} (hb : Below lo w U) (gr : U.grownBy u3 (Value.slice q n cap).ownBlock) (hq : q = none ∨ ∃ G, q = some ⟨G, 0, none⟩) (hlo : ∀ G, q = some ⟨G, 0, none⟩ → lo ≤ G) (hs : lo ≤ U.heap.size) : Below lo w u3 := by
  obtain ⟨T, ht, hT⟩ := grown_turn gr hq
  refine hb.trans (ht.below ?_ hs)
  rcases hT with hT | rfl
  · exact hlo T hT
  · exact hs
theorem OwnF.below_push {t : TypeId} {c : Nat} {w U u3 : World} {q : Option Addr} {n cap lo : Nat} {fs : List Int} (h : OwnF t c U lo (.slice q n cap) n fs) (hb : Below lo w U) (gr : U.grownBy u3 (Value.slice q n cap).ownBlock) (hs : lo ≤ U.heap.size) : Below lo w u3 :=
  Blk.below_push hb gr (h.q_form.imp (fun e => e.1) id) (fun G e => (h.q_lt e).1) hs
theorem own_new (t : TypeId) (c : Nat) (w : World) : OwnF t c (w.alloc (.cells #[] t)) w.heap.size (.slice (some ⟨w.heap.size, 0, none⟩) 0 0) 0 [] :=
  ⟨by simp [vals], Or.inr ⟨w.heap.size, 0, #[], rfl, Nat.le_refl _, heap_new w t, Nat.le_refl _, by unfold maxLen; omega, by simp, by simp [vals]⟩⟩
set_option maxRecDepth 8000 in
set_option maxHeartbeats 8000000 in
theorem implTake (ws : List Int) (B : Nat) (v : Value) (w : World) (h : Row w B v ws) (hl : ws.length ≤ 1048576) :
    Calls Try.prog 50 #[v] w fun e w' => ∃ q cap, e = .returned (.slice q (takeL ws).length cap) ∧ OwnI w' w.heap.size (.slice q (takeL ws).length cap) (takeL ws) ∧ Below w.heap.size w w' := by
  obtain ⟨a, cap, off, rfl, h2, h3, hz, h4⟩ := h
  unfold maxLen at h3
  clear hz
  obtain ⟨n, en⟩ : ∃ n, ws.length = n := ⟨_, rfl⟩
  have EN := hide en
  rw [en] at hl h2 ⊢
  have H4 := hide h4
  clear en h4
  obtain ⟨R, eR⟩ : ∃ R, takeL ws = R := ⟨_, rfl⟩
  rw [eR]
  have ER := hide eR
  clear eR
  have O0 := hide (OwnF.nil 52 4 w w.heap.size)
  go_enter Try.func50, Try.ntmps50
  go_wp2
  go_loopw [3, 10] (fun s i wr => ∃ (k c : Nat) (q : Option Addr) (L : List In4), k ≤ n ∧ i = .int .i64 k ∧ s = .slice q k c ∧ Hid (L.length = k) ∧ Hid (OwnI wr w.heap.size (.slice q L.length c) L) ∧ Hid (takeL ws = L ++ takeL (ws.drop k)) ∧ Hid (Below w.heap.size w wr)) (fun _ i _ => n - (intOf i).toNat)
  case atStart => exact ⟨0, 0, _, [], by omega, rfl, rfl, rfl, O0, rfl, Below.refl _ _⟩
  case round =>
    obtain ⟨k, c, q, L, hk, rfl, rfl, LL, OX, WL, HB⟩ := hrel
    clear O0
    by_cases hlt : k < n
    case neg =>
      have HD : Hid (L = R) := show _ = _ by rw [← ER.out, WL.out, drop_end (by have := EN.out; omega)]; simp [takeL]
      have OY : Hid (OwnI wr w.heap.size (.slice q R.length c) R) := by rw [← HD.out]; exact OX
      have HK : Hid (k = R.length) := show _ = _ by rw [← HD.out, LL.out]
      go_wp2
      go_ret
      exact ⟨q, c, (by rw [HK.out]; rfl), OY.out, HB.out⟩
    obtain ⟨x, et⟩ : ∃ x, ws[k]? = some x := ⟨_, List.getElem?_eq_getElem (by rw [EN.out]; exact hlt)⟩
    obtain ⟨rfl, hc⟩ := H4.out.resolve_left (fun e => by have := EN.out; rw [e] at this; simp at this; omega)
    have d0 := cell_below HB.out (hc k x et)
    have lk : ((k : Nat) : Int) < (n : Nat) := by omega
    have DR := hide (drop_at et)
    clear et hc
    go_wp2_with fail
    refine (InsI.insTake x _).mono ?_
    rintro e u1 ⟨rfl, hb⟩
    clear d0
    have HB1 := hide (HB.out.trans (hb.mono HB.out.size))
    have OX1 := hide (OX.out.below hb)
    clear hb HB OX
    cases tb : takeB x with
    | false =>
      have HD : Hid (L = R) := show _ = _ by rw [← ER.out, WL.out, DR.out, takeL, if_neg (by rw [tb]; decide)]; simp
      rw [takeC_no tb]
      have HB2 : Hid (Below w.heap.size w (u1.alloc (.cells #[.int .i64 0, .int .i64 0, .int .i64 0, .int .i64 0] 52))) := HB1.out.alloc HB1.out.size _
      have OX2 : Hid (OwnI (u1.alloc (.cells #[.int .i64 0, .int .i64 0, .int .i64 0, .int .i64 0] 52)) w.heap.size (.slice q R.length c) R) := by rw [← HD.out]; exact OX1.out.below ((Below.refl _ _).alloc (Nat.le_refl _) _)
      have HK : Hid (k = R.length) := show _ = _ by rw [← HD.out, LL.out]
      clear OX1 HB1 WL
      go_wp2
      go_ret
      exact ⟨q, c, (by rw [HK.out]; rfl), OX2.out, HB2.out⟩
    | true =>
      have WN : Hid (takeL ws = (L ++ [inOf x]) ++ takeL (ws.drop (k + 1))) := show _ = _ by rw [WL.out, DR.out, takeL, if_pos tb]; simp
      rw [takeC_yes tb]
      obtain ⟨i, ei⟩ : ∃ i, inOf x = i := ⟨_, rfl⟩
      rw [ei] at WN ⊢
      clear ei tb WL DR
      have b1 : Below u1.heap.size u1 (u1.alloc (.cells #[.int .i64 i.op, .int .i64 i.d, .int .i64 i.a, .int .i64 i.k] 52)) := (Below.refl _ _).alloc (Nat.le_refl _) _
      have b2 : Below u1.heap.size u1 ((u1.alloc (.cells #[.int .i64 i.op, .int .i64 i.d, .int .i64 i.a, .int .i64 i.k] 52)).alloc (.cells #[.int .i64 i.op, .int .i64 i.d, .int .i64 i.a, .int .i64 i.k] 52)) := b1.alloc b1.size _
      have OX2 := OX1.out.below b2
      have HB2 := HB1.out.trans (b2.mono HB1.out.size)
      obtain ⟨g', cap', u3, hrun, ho, hg, hgl, gr⟩ := run_pushI (ty := 38) (w := (u1.alloc (.cells #[.int .i64 i.op, .int .i64 i.d, .int .i64 i.a, .int .i64 i.k] 52)).alloc (.cells #[.int .i64 i.op, .int .i64 i.d, .int .i64 i.a, .int .i64 i.k] 52)) OX2 (by have := LL.out; omega) HB2.size ⟨u1.heap.size + 1, 0, none⟩ i (by rw [Addr.add_lit]; simp) (by rw [Addr.add_lit]; simp) (by rw [Addr.add_lit]; simp) (by rw [Addr.add_lit]; simp)
      have HB3 := hide (OwnF.below_push OX2 HB2 gr HB2.size)
      have OY := hide ho
      rw [LL.out] at hrun OY
      clear b1 b2 OX2 HB2 HB1 OX1 ho hg hgl gr
      have LN : Hid ((L ++ [i]).length = k + 1) := show _ = _ by rw [List.length_append, LL.out]; rfl
      go_wp2_with (at_builtin; refine push_list rfl _ _ rfl rfl rfl hrun ?_)
      exact ⟨⟨k + 1, cap', some ⟨g', 0, none⟩, L ++ [i], by omega, by go_num, rfl, LN, by rw [LN.out]; exact OY, WN, HB3⟩, by simp [intOf]; omega⟩
set_option maxRecDepth 8000 in
theorem ints_hold {w : World} {n : Nat} {cs : List Value} (h : Shape.Holds Try.prog w (n + 2) 22 cs) : ∃ v xs B, cs = [v] ∧ Row w B v xs := by
  rcases Shape.holds_slice (n := n + 1) Try.underlying22 h with h | ⟨x, l, c, h, hl, hm, hx⟩
  · exact ⟨_, [], 0, h, ⟨none, 0, 0, rfl, Nat.le_refl _, by unfold maxLen; omega, fun _ => rfl, Or.inl rfl⟩⟩
  · have hc (i : Nat) (hi : i < l) : ∃ v : Int, w.cell? (x.add i) = some (.int .i64 v) := by
      obtain ⟨xs, h1, h2, h3⟩ := hx i (by omega)
      obtain ⟨v, rfl, hv⟩ := Shape.holds_int (n := n) Try.underlying3 h3
      have e1 : Try.prog.cellsOf 3 = 1 := by kernel_rfl
      have h4 := h2 0 (by rw [e1]; omega)
      rw [e1, Nat.mul_one, Nat.add_zero] at h4
      exact ⟨v, h4⟩
    obtain ⟨xs, e, hxs⟩ := InsS.list_of' l hc
    by_cases h0 : l = 0
    · subst h0
      refine ⟨_, [], 0, h, ⟨some x, c, 0, rfl, Nat.zero_le _, hm, (fun h => by cases h), Or.inl rfl⟩⟩
    · obtain ⟨b, o, spot⟩ := x
      obtain ⟨v0, hv0⟩ := hc 0 (by omega)
      have hspot : spot = none := by simpa [Addr.add] using World.cell?_spot hv0
      subst hspot
      refine ⟨_, xs, b, h, ⟨some ⟨b, o, none⟩, c, o, by rw [e], by omega, hm, (fun h => by cases h), Or.inr ⟨rfl, fun i x hi => ?_⟩⟩⟩
      rw [← Go.WideShapes.add_plain]
      exact hxs i x hi
end Go.Proofs.Ytlgpnogeoaoidaa.Blk
