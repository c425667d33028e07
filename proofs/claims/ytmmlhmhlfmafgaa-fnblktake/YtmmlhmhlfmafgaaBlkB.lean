/-
  Instructions as words, words as instructions: BlkWords, BlkTake, the specification's and the program's.
-/
import Derived.Test.YtmmlhmhlfmafgaaBlkA
namespace Go.Proofs.Ytmmlhmhlfmafgaa.Blk
set_option linter.unusedVariables false
set_option linter.unusedSimpArgs false
open Go.ChangeShapes Go.WideShapes Go.ChangeAt Go.RowKit IntS Flat InsS
open Ins (okB endsB inB putN takeB takeC)
def wordsL (is : List In4) : List Int := is.map fun i => putN i.op i.d i.a i.k
def inOf (n : Int) : In4 := ⟨n / 4096, n / 1024 % 4, n / 256 % 4, n % 256⟩
def takeL : List Int → List In4
  | [] => []
  | x :: r => if takeB x = true then inOf x :: takeL r else []
theorem drop_at {α : Type} {xs : List α} {k : Nat} {x : α} (h : xs[k]? = some x) : xs.drop k = x :: xs.drop (k + 1) := by
  obtain ⟨hk, rfl⟩ := List.getElem?_eq_some_iff.1 h
  exact List.drop_eq_getElem_cons hk
theorem drop_end {α : Type} {xs : List α} {k : Nat} (h : xs.length ≤ k) : xs.drop k = [] := List.drop_eq_nil_of_le h
theorem takeC_yes {x : Int} (h : takeB x = true) : takeC x = #[.int .i64 (inOf x).op, .int .i64 (inOf x).d, .int .i64 (inOf x).a, .int .i64 (inOf x).k] := by
  unfold takeC
  rw [if_pos h]
  rfl
theorem takeC_no {x : Int} (h : takeB x = false) : takeC x = #[.int .i64 0, .int .i64 0, .int .i64 0, .int .i64 0] := by
  unfold takeC
  rw [if_neg (by rw [h]; decide)]
theorem takeL_len : ∀ ws : List Int, (takeL ws).length ≤ ws.length
  | [] => Nat.le_refl _
  | x :: r => by
    unfold takeL
    split
    · simp; exact takeL_len r
    · simp
theorem heap_new (w : World) (t : TypeId) : (w.alloc (.cells #[] t)).heap[w.heap.size]? = some (.cells #[] t (0, 0)) := (MapKept.heap_alloc w _).1
/-- Ints in a slice that the call made, as one of structs of one int. -/
abbrev OwnN (w : World) (lo : Nat) (v : Value) (xs : List Int) : Prop := OwnF 3 1 w lo v xs.length xs
theorem run_pushN {w : World} {ty : TypeId} {lo cap : Nat} {q : Option Addr} {xs : List Int} (hown : OwnN w lo (.slice q xs.length cap) xs) (hn : xs.length ≤ 1000000000000) (hlo : lo ≤ w.heap.size) (ad : Addr) (y : Int)
    (c0 : w.cell? (ad.add 0) = some (.int .i64 y)) :
    ∃ g' cap' w', (Builtin.append_ #[25, 25] ty #[.slice q xs.length cap, .slice (some ad) 1 1]).run Try.prog w = .ok (.slice (some ⟨g', 0, none⟩) (xs.length + 1) cap') w' ∧ OwnN w' lo (.slice (some ⟨g', 0, none⟩) (xs.length + 1) cap') (xs ++ [y]) ∧ ((Value.slice q xs.length cap).ownBlock = some g' ∨ w.heap.size ≤ g') ∧ g' < w'.heap.size ∧ w.grownBy w' (Value.slice q xs.length cap).ownBlock := by
  obtain ⟨j, hi, hz, hsz, hby⟩ := info_int
  obtain ⟨g', cap', w', h1, h2, h3⟩ := run_flat (P := Try.prog) 25 ty 3 j _ 1 8 Try.underlying25 hi hz hsz hby rfl (by decide) (by decide) hown hn hlo ad [y] rfl (fun j x hx => by
    match j, hx with
    | 0, hx => cases hx; exact c0
    | j + 1, hx => simp at hx)
  refine ⟨g', cap', w', h1, ?_, h3⟩
  unfold OwnN
  rw [List.length_append]
  exact h2
/-- A slice of ints that the call made may be written. -/
theorem row_of_flat {w : World} {B : Nat} {v : Value} {xs : List Int} (h : WFRow 1 w B v xs.length xs) : WRow w B v xs := by
  obtain ⟨a, cap, off, h1, h2, h3, hz, hl, h4⟩ := h
  exact ⟨a, cap, off, h1, h2, h3, hz, h4.imp (fun e => List.length_eq_zero_iff.1 e) id⟩
/-- What grew of a world, a slice of it appended to. -/
theorem below_push {w U u3 : World} {q : Option Addr} {n cap lo : Nat} (hb : Below lo w U) (gr : U.grownBy u3 (Value.slice q n cap).ownBlock) (hq : q = none ∨ ∃ G, q = some ⟨G, 0, none⟩) (hlo : ∀ G, q = some ⟨G, 0, none⟩ → lo ≤ G) (hs : lo ≤ U.heap.size) : Below lo w u3 := by
  obtain ⟨T, ht, hT⟩ := grown_turn gr hq
  refine hb.trans (ht.below ?_ hs)
  rcases hT with hT | rfl
  · exact hlo T hT
  · exact hs
theorem OwnF.below_push {t : TypeId} {c : Nat} {w U u3 : World} {q : Option Addr} {n cap lo : Nat} {fs : List Int} (h : OwnF t c U lo (.slice q n cap) n fs) (hb : Below lo w U) (gr : U.grownBy u3 (Value.slice q n cap).ownBlock) (hs : lo ≤ U.heap.size) : Below lo w u3 :=
  Blk.below_push hb gr (h.q_form.imp (fun e => e.1) id) (fun G e => (h.q_lt e).1) hs
theorem own_new (t : TypeId) (c : Nat) (w : World) : OwnF t c (w.alloc (.cells #[] t)) w.heap.size (.slice (some ⟨w.heap.size, 0, none⟩) 0 0) 0 [] :=
  ⟨by simp [vals], Or.inr ⟨w.heap.size, 0, #[], rfl, Nat.le_refl _, heap_new w t, Nat.le_refl _, by unfold maxLen; omega, by simp, by simp [vals]⟩⟩
set_option maxRecDepth 8000 in
set_option maxHeartbeats 8000000 in
theorem specWords (is : List In4) (B : Nat) (v : Value) (w : World) (h : IRow w B v is) (hl : is.length ≤ 1048576) :
    Calls Try.prog 10 #[v] w fun e w' => ∃ q cap, e = .returned (.slice q (wordsL is).length cap) ∧ OwnN w' w.heap.size (.slice q (wordsL is).length cap) (wordsL is) ∧ Below w.heap.size w w' := by
  obtain ⟨a, cap, off, rfl, h2, h3, hz, hfl, h4⟩ := h
  unfold maxLen at h3
  clear hz hfl
  obtain ⟨n, en⟩ : ∃ n, is.length = n := ⟨_, rfl⟩
  have EN := hide en
  rw [en] at hl h2 h4 ⊢
  have H4 := hide h4
  clear en h4
  obtain ⟨R, eR⟩ : ∃ R, wordsL is = R := ⟨_, rfl⟩
  rw [eR]
  have ER := hide eR
  clear eR
  have O0 := hide (own_new 3 1 w)
  have B0 : Hid (Below w.heap.size w (w.alloc (.cells #[] 3))) := (Below.refl _ _).alloc (Nat.le_refl _) _
  have HN : Hid (w.heap.size < (w.alloc (.cells #[] 3)).heap.size) := by simp [Hid]
  go_enter Try.func10, Try.ntmps10
  go_wp2
  generalize w.alloc (.cells #[] 3) = U0 at O0 B0 HN ⊢
  go_loopw [3, 4] (fun s i wr => ∃ (k c : Nat) (q : Option Addr) (L : List Int), k ≤ n ∧ i = .int .i64 k ∧ s = .slice q k c ∧ Hid (L.length = k) ∧ Hid (OwnN wr w.heap.size (.slice q L.length c) L) ∧ Hid (wordsL is = L ++ wordsL (is.drop k)) ∧ Hid (Below w.heap.size w wr)) (fun _ i _ => n - (intOf i).toNat)
  case atStart => exact ⟨0, 0, _, [], by omega, rfl, rfl, rfl, O0, rfl, B0⟩
  case round =>
    obtain ⟨k, c, q, L, hk, rfl, rfl, LL, OX, WL, HB⟩ := hrel
    clear O0 B0
    by_cases hlt : k < n
    case neg =>
      have HD : Hid (L = R) := show _ = _ by rw [← ER.out, WL.out, drop_end (by have := EN.out; omega)]; simp [wordsL]
      have OY : Hid (OwnN wr w.heap.size (.slice q R.length c) R) := by rw [← HD.out]; exact OX
      have HK : Hid (k = R.length) := show _ = _ by rw [← HD.out, LL.out]
      go_wp2
      go_ret
      exact ⟨q, c, (by rw [HK.out]; rfl), OY.out, HB.out⟩
    obtain ⟨i, et⟩ : ∃ i, is[k]? = some i := ⟨_, List.getElem?_eq_getElem (by rw [EN.out]; exact hlt)⟩
    obtain ⟨rfl, hc⟩ := H4.out.resolve_left (by omega)
    obtain ⟨q0, q1, q2, q3⟩ := at4 hc et
    have d0 := cell_below HB.out q0
    have d1 := cell_below HB.out q1
    have d2 := cell_below HB.out q2
    have d3 := cell_below HB.out q3
    have lk : ((k : Nat) : Int) < (n : Nat) := by omega
    have WN : Hid (wordsL is = (L ++ [putN i.op i.d i.a i.k]) ++ wordsL (is.drop (k + 1))) := show _ = _ by rw [WL.out, drop_at et]; simp [wordsL]
    clear et q0 q1 q2 q3 hc WL
    go_wp2_with fail
    refine (Ins.insPut i.op i.d i.a i.k _).mono ?_
    rintro e u1 ⟨rfl, hb⟩
    clear d0 d1 d2 d3
    obtain ⟨y, ey⟩ : ∃ y, putN i.op i.d i.a i.k = y := ⟨_, rfl⟩
    rw [ey] at WN ⊢
    clear ey
    have bo : Below u1.heap.size u1 (u1.alloc (.cells #[.int .i64 y] 3)) := (Below.refl _ _).alloc (Nat.le_refl _) _
    have OX2 := (OX.out.below hb).below bo
    have HB2 := (HB.out.trans (hb.mono HB.out.size)).trans (bo.mono (Nat.le_trans HB.out.size hb.size))
    obtain ⟨g', cap', u3, hrun, ho, hg, hgl, gr⟩ := run_pushN (ty := 25) (w := u1.alloc (.cells #[.int .i64 y] 3)) OX2 (by have := LL.out; omega) HB2.size ⟨u1.heap.size, 0, none⟩ y (by rw [Addr.add_lit]; simp)
    have HB3 := hide (OwnF.below_push OX2 HB2 gr HB2.size)
    have OY := hide ho
    rw [LL.out] at hrun OY
    clear hb bo OX2 HB2 HB OX ho hg hgl gr
    have LN : Hid ((L ++ [y]).length = k + 1) := show _ = _ by rw [List.length_append, LL.out]; rfl
    go_wp2_with (at_builtin; refine push_list rfl _ _ rfl rfl rfl hrun ?_)
    exact ⟨⟨k + 1, cap', some ⟨g', 0, none⟩, L ++ [y], by omega, by go_num, rfl, LN, by rw [LN.out]; exact OY, WN, HB3⟩, by simp [intOf]; omega⟩
set_option maxRecDepth 8000 in
set_option maxHeartbeats 8000000 in
theorem implWords (is : List In4) (B : Nat) (v : Value) (w : World) (h : IRow w B v is) (hl : is.length ≤ 1048576) :
    Calls Try.prog 7 #[v] w fun e w' => ∃ g, e = .returned (.slice (some ⟨g, 0, none⟩) (wordsL is).length (wordsL is).length) ∧ WRow w' g (.slice (some ⟨g, 0, none⟩) (wordsL is).length (wordsL is).length) (wordsL is) ∧ w.heap.size ≤ g ∧ g < w'.heap.size ∧ Below w.heap.size w w' := by
  obtain ⟨a, cap, off, rfl, h2, h3, hz, hfl, h4⟩ := h
  unfold maxLen at h3
  clear hz hfl
  obtain ⟨n, en⟩ : ∃ n, is.length = n := ⟨_, rfl⟩
  have EN := hide en
  rw [en] at hl h2 h4 ⊢
  have H4 := hide h4
  clear en h4
  obtain ⟨R, eR⟩ : ∃ R, wordsL is = R := ⟨_, rfl⟩
  have RL : Hid (R.length = n) := show _ = _ by rw [← eR, wordsL, List.length_map]; exact EN.out
  have RA : Hid (∀ (k : Nat) i, is[k]? = some i → R[k]? = some (putN i.op i.d i.a i.k)) := fun k i hi => by rw [← eR, wordsL, List.getElem?_map, hi]; rfl
  rw [eR, RL.out]
  clear eR
  have M0 := hide (filled_new w n R 3)
  have hmk := run_make_row' (P := Try.prog) 25 3 (.int .i64 0) 8 Try.underlying25 (by kernel_rfl) rfl .i64 .i64 n (by omega) (by omega) w
  have FIN : ∀ u, Filled w n R n u → WRow u w.heap.size (.slice (some ⟨w.heap.size, 0, none⟩) n n) R ∧ w.heap.size < u.heap.size ∧ Below w.heap.size w u := fun u hf => by
    refine ⟨⟨some ⟨w.heap.size, 0, none⟩, n, 0, by rw [RL.out], by rw [RL.out]; exact Nat.le_refl _, by unfold maxLen; omega, (fun h => by cases h), Or.inr ⟨rfl, hf.lt, fun i x hx => ?_⟩⟩, hf.lt, hf.below⟩
    have hi : i < n := by rw [← RL.out]; exact (List.getElem?_eq_some_iff.1 hx).1
    rw [Nat.zero_add]
    exact ⟨hf.done i x hi hx, hf.soft i hi⟩
  have FI := hide FIN
  clear FIN
  by_cases h0 : n = 0
  · subst h0
    have FF := hide (FI.out _ M0.out)
    clear H4 M0 FI
    replace hmk : (Instr.makeSlice 25 (.int .i64 0) (.int .i64 0)).run Try.prog w = .ok (.slice (some ⟨w.heap.size, 0, none⟩) 0 0) (w.alloc (.cells (madeCells #[.int .i64 0] 0) 3)) := hmk
    generalize w.alloc (.cells (madeCells #[.int .i64 0] 0) 3) = U at hmk FF
    go_enter Try.func7, Try.ntmps7
    go_wp2
    refine wp_loop_rounds 1 ?_
    rw [rounds_succ]
    go_wp2
    go_ret
    exact ⟨w.heap.size, rfl, FF.out.1, Nat.le_refl _, FF.out.2.1, FF.out.2.2⟩
  · obtain ⟨rfl, hc⟩ := H4.out.resolve_left h0
    have HC := hide hc
    clear hc H4
    generalize w.alloc (.cells (madeCells #[.int .i64 0] n) 3) = U at hmk M0
    go_enter Try.func7, Try.ntmps7
    go_wp2
    clear hmk
    go_loopw [11] (fun i wr => ∃ k : Nat, k ≤ n ∧ i = .int .i64 k ∧ Hid (Filled w n R k wr)) (fun i _ => n - (intOf i).toNat)
    case atStart => exact ⟨0, by omega, rfl, M0⟩
    case round =>
      obtain ⟨k, hk, rfl, HF⟩ := hrel
      by_cases hlt : k < n
      · obtain ⟨i, et⟩ : ∃ i, is[k]? = some i := ⟨_, List.getElem?_eq_getElem (by rw [EN.out]; exact hlt)⟩
        obtain ⟨q0, q1, q2, q3⟩ := at4 HC.out et
        have d0 := cell_below HF.out.below q0
        have d1 := cell_below HF.out.below q1
        have d2 := cell_below HF.out.below q2
        have d3 := cell_below HF.out.below q3
        have lk : ((k : Nat) : Int) < (n : Nat) := by omega
        have RK := hide (RA.out k i et)
        clear et q0 q1 q2 q3
        have bo : Below wr.heap.size wr (wr.alloc (.cells #[.int .i64 i.op, .int .i64 i.d, .int .i64 i.a, .int .i64 i.k] 33)) := (Below.refl _ _).alloc (Nat.le_refl _) _
        have F0 := hide (Flat.Filled.grow HF.out bo)
        clear bo
        go_wp2_with fail
        refine (InsI.insPut i.op i.d i.a i.k _).mono ?_
        rintro e u ⟨rfl, hb⟩
        obtain ⟨y, ey⟩ : ∃ y, putN i.op i.d i.a i.k = y := ⟨_, rfl⟩
        rw [ey] at RK ⊢
        clear ey
        have F1 := Flat.Filled.grow F0.out hb
        have NX := hide (F1.next hlt RK.out)
        obtain ⟨y0, p0⟩ := F1.left k hlt
        have f0 := F1.soft k hlt
        have lw := F1.lt
        clear hb d0 d1 d2 d3 HF F0 F1
        go_wp2
        exact ⟨⟨k + 1, by omega, by go_num, NX⟩, by simp [intOf]; omega⟩
      · obtain rfl : k = n := by omega
        have FF := hide (FI.out _ HF.out)
        clear HF
        go_wp2
        go_ret
        exact ⟨w.heap.size, rfl, FF.out.1, Nat.le_refl _, FF.out.2.1, FF.out.2.2⟩
set_option maxRecDepth 8000 in
set_option maxHeartbeats 8000000 in
theorem specTake (ws : List Int) (B : Nat) (v : Value) (w : World) (h : Row w B v ws) (hl : ws.length ≤ 1048576) :
    Calls Try.prog 12 #[v] w fun e w' => ∃ q cap, e = .returned (.slice q (takeL ws).length cap) ∧ OwnI w' w.heap.size (.slice q (takeL ws).length cap) (takeL ws) ∧ Below w.heap.size w w' := by
  obtain ⟨a, cap, off, rfl, h2, h3, hz, h4⟩ := h
  unfold maxLen at h3
  clear hz
  obtain ⟨n, en⟩ : ∃ n, ws.length = n := ⟨_, rfl⟩
  have EN := hide en
  rw [en] at hl h2 ⊢
  have H4 := hide h4
  clear en h4
  obtain ⟨R, eR⟩ : ∃ R, takeL ws = R := ⟨_, rfl⟩
  rw [eR]
  have ER := hide eR
  clear eR
  have O0 := hide (own_new 33 4 w)
  have B0 : Hid (Below w.heap.size w (w.alloc (.cells #[] 33))) := (Below.refl _ _).alloc (Nat.le_refl _) _
  go_enter Try.func12, Try.ntmps12
  go_wp2
  generalize w.alloc (.cells #[] 33) = U0 at O0 B0 ⊢
  go_loopw [3, 4] (fun s i wr => ∃ (k c : Nat) (q : Option Addr) (L : List In4), k ≤ n ∧ i = .int .i64 k ∧ s = .slice q k c ∧ Hid (L.length = k) ∧ Hid (OwnI wr w.heap.size (.slice q L.length c) L) ∧ Hid (takeL ws = L ++ takeL (ws.drop k)) ∧ Hid (Below w.heap.size w wr)) (fun _ i _ => n - (intOf i).toNat)
  case atStart => exact ⟨0, 0, _, [], by omega, rfl, rfl, rfl, O0, rfl, B0⟩
  case round =>
    obtain ⟨k, c, q, L, hk, rfl, rfl, LL, OX, WL, HB⟩ := hrel
    clear O0 B0
    by_cases hlt : k < n
    case neg =>
      have HD : Hid (L = R) := show _ = _ by rw [← ER.out, WL.out, drop_end (by have := EN.out; omega)]; simp [takeL]
      have OY : Hid (OwnI wr w.heap.size (.slice q R.length c) R) := by rw [← HD.out]; exact OX
      have HK : Hid (k = R.length) := show _ = _ by rw [← HD.out, LL.out]
      go_wp2
      go_ret
      exact ⟨q, c, (by rw [HK.out]; rfl), OY.out, HB.out⟩
    obtain ⟨x, et⟩ : ∃ x, ws[k]? = some x := ⟨_, List.getElem?_eq_getElem (by rw [EN.out]; exact hlt)⟩
    obtain ⟨rfl, hc⟩ := H4.out.resolve_left (fun e => by have := EN.out; rw [e] at this; simp at this; omega)
    have d0 := cell_below HB.out (hc k x et)
    have lk : ((k : Nat) : Int) < (n : Nat) := by omega
    have DR := hide (drop_at et)
    clear et hc
    go_wp2_with fail
    refine (Ins.insTake x _).mono ?_
    rintro e u1 ⟨rfl, hb⟩
    clear d0
    have HB1 := hide (HB.out.trans (hb.mono HB.out.size))
    have OX1 := hide (OX.out.below hb)
    clear hb HB OX
    cases tb : takeB x with
    | false =>
      have HD : Hid (L = R) := show _ = _ by rw [← ER.out, WL.out, DR.out, takeL, if_neg (by rw [tb]; decide)]; simp
      rw [takeC_no tb]
      have HB2 : Hid (Below w.heap.size w (u1.alloc (.cells #[.int .i64 0, .int .i64 0, .int .i64 0, .int .i64 0] 33))) := HB1.out.alloc HB1.out.size _
      have OX2 : Hid (OwnI (u1.alloc (.cells #[.int .i64 0, .int .i64 0, .int .i64 0, .int .i64 0] 33)) w.heap.size (.slice q R.length c) R) := by rw [← HD.out]; exact OX1.out.below ((Below.refl _ _).alloc (Nat.le_refl _) _)
      have HK : Hid (k = R.length) := show _ = _ by rw [← HD.out, LL.out]
      clear OX1 HB1 WL
      go_wp2
      go_ret
      exact ⟨q, c, (by rw [HK.out]; rfl), OX2.out, HB2.out⟩
    | true =>
      have WN : Hid (takeL ws = (L ++ [inOf x]) ++ takeL (ws.drop (k + 1))) := show _ = _ by rw [WL.out, DR.out, takeL, if_pos tb]; simp
      rw [takeC_yes tb]
      obtain ⟨i, ei⟩ : ∃ i, inOf x = i := ⟨_, rfl⟩
      rw [ei] at WN ⊢
      clear ei tb WL DR
      have b1 : Below u1.heap.size u1 (u1.alloc (.cells #[.int .i64 i.op, .int .i64 i.d, .int .i64 i.a, .int .i64 i.k] 33)) := (Below.refl _ _).alloc (Nat.le_refl _) _
      have b2 : Below u1.heap.size u1 ((u1.alloc (.cells #[.int .i64 i.op, .int .i64 i.d, .int .i64 i.a, .int .i64 i.k] 33)).alloc (.cells #[.int .i64 i.op, .int .i64 i.d, .int .i64 i.a, .int .i64 i.k] 33)) := b1.alloc b1.size _
      have OX2 := OX1.out.below b2
      have HB2 := HB1.out.trans (b2.mono HB1.out.size)
      obtain ⟨g', cap', u3, hrun, ho, hg, hgl, gr⟩ := run_pushI (ty := 23) (w := (u1.alloc (.cells #[.int .i64 i.op, .int .i64 i.d, .int .i64 i.a, .int .i64 i.k] 33)).alloc (.cells #[.int .i64 i.op, .int .i64 i.d, .int .i64 i.a, .int .i64 i.k] 33)) OX2 (by have := LL.out; omega) HB2.size ⟨u1.heap.size + 1, 0, none⟩ i (by rw [Addr.add_lit]; simp) (by rw [Addr.add_lit]; simp) (by rw [Addr.add_lit]; simp) (by rw [Addr.add_lit]; simp)
      have HB3 := hide (OwnF.below_push OX2 HB2 gr HB2.size)
      have OY := hide ho
      rw [LL.out] at hrun OY
      clear b1 b2 OX2 HB2 HB1 OX1 ho hg hgl gr
      have LN : Hid ((L ++ [i]).length = k + 1) := show _ = _ by rw [List.length_append, LL.out]; rfl
      go_wp2_with (at_builtin; refine push_list rfl _ _ rfl rfl rfl hrun ?_)
      exact ⟨⟨k + 1, cap', some ⟨g', 0, none⟩, L ++ [i], by omega, by go_num, rfl, LN, by rw [LN.out]; exact OY, WN, HB3⟩, by simp [intOf]; omega⟩
set_option maxRecDepth 8000 in
set_option maxHeartbeats 8000000 in
theorem implTake (ws : List Int) (B : Nat) (v : Value) (w : World) (h : Row w B v ws) (hl : ws.length ≤ 1048576) :
    Calls Try.prog 8 #[v] w fun e w' => ∃ q cap, e = .returned (.slice q (takeL ws).length cap) ∧ OwnI w' w.heap.size (.slice q (takeL ws).length cap) (takeL ws) ∧ Below w.heap.size w w' := by
  obtain ⟨a, cap, off, rfl, h2, h3, hz, h4⟩ := h
  unfold maxLen at h3
  clear hz
  obtain ⟨n, en⟩ : ∃ n, ws.length = n := ⟨_, rfl⟩
  have EN := hide en
  rw [en] at hl h2 ⊢
  have H4 := hide h4
  clear en h4
  obtain ⟨R, eR⟩ : ∃ R, takeL ws = R := ⟨_, rfl⟩
  rw [eR]
  have ER := hide eR
  clear eR
  have O0 := hide (OwnF.nil 33 4 w w.heap.size)
  go_enter Try.func8, Try.ntmps8
  go_wp2
  go_loopw [3, 10] (fun s i wr => ∃ (k c : Nat) (q : Option Addr) (L : List In4), k ≤ n ∧ i = .int .i64 k ∧ s = .slice q k c ∧ Hid (L.length = k) ∧ Hid (OwnI wr w.heap.size (.slice q L.length c) L) ∧ Hid (takeL ws = L ++ takeL (ws.drop k)) ∧ Hid (Below w.heap.size w wr)) (fun _ i _ => n - (intOf i).toNat)
  case atStart => exact ⟨0, 0, _, [], by omega, rfl, rfl, rfl, O0, rfl, Below.refl _ _⟩
  case round =>
    obtain ⟨k, c, q, L, hk, rfl, rfl, LL, OX, WL, HB⟩ := hrel
    clear O0
    by_cases hlt : k < n
    case neg =>
      have HD : Hid (L = R) := show _ = _ by rw [← ER.out, WL.out, drop_end (by have := EN.out; omega)]; simp [takeL]
      have OY : Hid (OwnI wr w.heap.size (.slice q R.length c) R) := by rw [← HD.out]; exact OX
      have HK : Hid (k = R.length) := show _ = _ by rw [← HD.out, LL.out]
      go_wp2
      go_ret
      exact ⟨q, c, (by rw [HK.out]; rfl), OY.out, HB.out⟩
    obtain ⟨x, et⟩ : ∃ x, ws[k]? = some x := ⟨_, List.getElem?_eq_getElem (by rw [EN.out]; exact hlt)⟩
    obtain ⟨rfl, hc⟩ := H4.out.resolve_left (fun e => by have := EN.out; rw [e] at this; simp at this; omega)
    have d0 := cell_below HB.out (hc k x et)
    have lk : ((k : Nat) : Int) < (n : Nat) := by omega
    have DR := hide (drop_at et)
    clear et hc
    go_wp2_with fail
    refine (InsI.insTake x _).mono ?_
    rintro e u1 ⟨rfl, hb⟩
    clear d0
    have HB1 := hide (HB.out.trans (hb.mono HB.out.size))
    have OX1 := hide (OX.out.below hb)
    clear hb HB OX
    cases tb : takeB x with
    | false =>
      have HD : Hid (L = R) := show _ = _ by rw [← ER.out, WL.out, DR.out, takeL, if_neg (by rw [tb]; decide)]; simp
      rw [takeC_no tb]
      have HB2 : Hid (Below w.heap.size w (u1.alloc (.cells #[.int .i64 0, .int .i64 0, .int .i64 0, .int .i64 0] 33))) := HB1.out.alloc HB1.out.size _
      have OX2 : Hid (OwnI (u1.alloc (.cells #[.int .i64 0, .int .i64 0, .int .i64 0, .int .i64 0] 33)) w.heap.size (.slice q R.length c) R) := by rw [← HD.out]; exact OX1.out.below ((Below.refl _ _).alloc (Nat.le_refl _) _)
      have HK : Hid (k = R.length) := show _ = _ by rw [← HD.out, LL.out]
      clear OX1 HB1 WL
      go_wp2
      go_ret
      exact ⟨q, c, (by rw [HK.out]; rfl), OX2.out, HB2.out⟩
    | true =>
      have WN : Hid (takeL ws = (L ++ [inOf x]) ++ takeL (ws.drop (k + 1))) := show _ = _ by rw [WL.out, DR.out, takeL, if_pos tb]; simp
      rw [takeC_yes tb]
      obtain ⟨i, ei⟩ : ∃ i, inOf x = i := ⟨_, rfl⟩
      rw [ei] at WN ⊢
      clear ei tb WL DR
      have b1 : Below u1.heap.size u1 (u1.alloc (.cells #[.int .i64 i.op, .int .i64 i.d, .int .i64 i.a, .int .i64 i.k] 33)) := (Below.refl _ _).alloc (Nat.le_refl _) _
      have b2 : Below u1.heap.size u1 ((u1.alloc (.cells #[.int .i64 i.op, .int .i64 i.d, .int .i64 i.a, .int .i64 i.k] 33)).alloc (.cells #[.int .i64 i.op, .int .i64 i.d, .int .i64 i.a, .int .i64 i.k] 33)) := b1.alloc b1.size _
      have OX2 := OX1.out.below b2
      have HB2 := HB1.out.trans (b2.mono HB1.out.size)
      obtain ⟨g', cap', u3, hrun, ho, hg, hgl, gr⟩ := run_pushI (ty := 23) (w := (u1.alloc (.cells #[.int .i64 i.op, .int .i64 i.d, .int .i64 i.a, .int .i64 i.k] 33)).alloc (.cells #[.int .i64 i.op, .int .i64 i.d, .int .i64 i.a, .int .i64 i.k] 33)) OX2 (by have := LL.out; omega) HB2.size ⟨u1.heap.size + 1, 0, none⟩ i (by rw [Addr.add_lit]; simp) (by rw [Addr.add_lit]; simp) (by rw [Addr.add_lit]; simp) (by rw [Addr.add_lit]; simp)
      have HB3 := hide (OwnF.below_push OX2 HB2 gr HB2.size)
      have OY := hide ho
      rw [LL.out] at hrun OY
      clear b1 b2 OX2 HB2 HB1 OX1 ho hg hgl gr
      have LN : Hid ((L ++ [i]).length = k + 1) := show _ = _ by rw [List.length_append, LL.out]; rfl
      go_wp2_with (at_builtin; refine push_list rfl _ _ rfl rfl rfl hrun ?_)
      exact ⟨⟨k + 1, cap', some ⟨g', 0, none⟩, L ++ [i], by omega, by go_num, rfl, LN, by rw [LN.out]; exact OY, WN, HB3⟩, by simp [intOf]; omega⟩
set_option maxRecDepth 8000 in
theorem ints_hold {w : World} {n : Nat} {cs : List Value} (h : Shape.Holds Try.prog w (n + 2) 25 cs) : ∃ v xs B, cs = [v] ∧ Row w B v xs := by
  rcases Shape.holds_slice (n := n + 1) Try.underlying25 h with h | ⟨x, l, c, h, hl, hm, hx⟩
  · exact ⟨_, [], 0, h, ⟨none, 0, 0, rfl, Nat.le_refl _, by unfold maxLen; omega, fun _ => rfl, Or.inl rfl⟩⟩
  · have hc (i : Nat) (hi : i < l) : ∃ v : Int, w.cell? (x.add i) = some (.int .i64 v) := by
      obtain ⟨xs, h1, h2, h3⟩ := hx i (by omega)
      obtain ⟨v, rfl, hv⟩ := Shape.holds_int (n := n) Try.underlying3 h3
      have e1 : Try.prog.cellsOf 3 = 1 := by kernel_rfl
      have h4 := h2 0 (by rw [e1]; omega)
      rw [e1, Nat.mul_one, Nat.add_zero] at h4
      exact ⟨v, h4⟩
    obtain ⟨xs, e, hxs⟩ := InsS.list_of' l hc
    by_cases h0 : l = 0
    · subst h0
      refine ⟨_, [], 0, h, ⟨some x, c, 0, rfl, Nat.zero_le _, hm, (fun h => by cases h), Or.inl rfl⟩⟩
    · obtain ⟨b, o, spot⟩ := x
      obtain ⟨v0, hv0⟩ := hc 0 (by omega)
      have hspot : spot = none := by simpa [Addr.add] using World.cell?_spot hv0
      subst hspot
      refine ⟨_, xs, b, h, ⟨some ⟨b, o, none⟩, c, o, by rw [e], by omega, hm, (fun h => by cases h), Or.inr ⟨rfl, fun i x hi => ?_⟩⟩⟩
      rw [← Go.WideShapes.add_plain]
      exact hxs i x hi
end Go.Proofs.Ytmmlhmhlfmafgaa.Blk
