/-
  Our own hand, the program's reckonAhead.
-/
import Derived.Test.YtflhehofgplcoaaDoorOiB
namespace Go.Proofs.YtflhehofgplcoaaDoor.Op
set_option linter.unusedVariables false
set_option linter.unusedSimpArgs false
open Go.ChangeShapes Go.WideShapes Go.ChangeAt Go.RowKit IntS Flat Irk
open Ir Dt
open Mch (Rec)
open Pol (Keep)
theorem const_end {b : Bk} (h : okB b = true) : endB (constL b.ops b.ops.length) b.en b.x b.y b.k = true := by
  obtain ⟨h1, h2, h3, h4, h5⟩ := ok_parts h
  obtain ⟨_, p1, p2, p3, p4, _⟩ := end_parts h5
  have V : ∀ k, valB b.ops k = true → valB (constL b.ops b.ops.length) k = true := fun k hk => by
    have := val_const (n := b.ops.length) (m := b.ops.length) (k := k) (ops := b.ops) (by rw [List.take_length]; exact hk)
    rw [List.take_of_length_le (by rw [constL_len]; exact Nat.le_refl _)] at this
    exact this
  refine end_moved h5 ?_ ?_
  · by_cases e : b.en = 1
    · rw [if_pos e]; exact p2 e
    · rw [if_neg e]; exact V _ (p1 e)
  · by_cases e : b.en = 3 ∨ b.en = 4
    · rw [if_pos e]; exact V _ (p3 e)
    · rw [if_neg e]; exact p4 (by omega)
theorem fold_none {b : Bk} (h : foldK b = none) : foldB b = b := by unfold foldB; rw [h]
theorem fold_some {b : Bk} {k : Int} (h : foldK b = some k) : foldB b = goB b k := by unfold foldB; rw [h]
/-- How a way of the hand ends. -/
structure Wy (w : World) (Z : Nat) (q : Option Addr) (b : Bk) (e : Ending) (w' : World) : Prop where
  ret : e = .returned (.tuple #[])
  hd : ∃ q' n' c', Hd w' Z q' n' c' b ∧ (q' = q ∨ ∀ g, q' = some ⟨g, 0, none⟩ → w.heap.size ≤ g)
  keep : Keep (Its Z q) w w'
theorem Ow.keep {S : Nat → Prop} {w w' : World} {g n cap : Nat} {os : List Opn} (h : Ow w g n cap os) (hk : Keep S w w') (hg : ¬ S g) : Ow w' g n cap os := by
  have := Ow.of (wo_keep h.wo hk (Or.inr hg)) (Nat.lt_of_lt_of_le h.lt hk.size)
  rw [h.len] at this
  exact this
theorem keep_turn {S : Nat → Prop} {a b c : World} {B : Nat} (h : Keep S a b) (k : Turn B b c) (hB : S B ∨ a.heap.size ≤ B) : Keep S a c := h.turn k (fun j hj hS e => by subst e; rcases hB with hB | hB; exact hS hB; omega)
theorem keep_below {S : Nat → Prop} {a b c : World} (h : Keep S a b) (k : Below b.heap.size b c) : Keep S a c := keep_turn (B := b.heap.size) h (Turn.of_below k) (Or.inr h.size)
theorem keep_drew {S : Nat → Prop} {a b : World} (h : Keep S a b) : Keep S a b.drew := keep_below h (Below.refl _ _).drew
set_option maxRecDepth 8000 in
set_option maxHeartbeats 16000000 in
theorem reckonAhead (b : Bk) (Z : Nat) (q : Option Addr) (n c : Nat) (w : World) (h : Hd w Z q n c b) (hok : okB b = true) :
    Calls Tryd.prog 42 #[.pointer (some ⟨Z, 0, none⟩)] w fun e w' => Wy w Z q (foldB ⟨b.pc, b.ln, constL b.ops b.ops.length, b.en, b.x, b.y, b.k⟩) e w' := by
  have CW := hide (fun n k v => known_word hok (n := n) (k := k) (v := v))
  obtain ⟨h1, h2, h3, h4, h5⟩ := ok_parts hok
  have CE := hide (const_end hok)
  obtain ⟨pc, ln, ops, en, bx, by_, bk⟩ := b
  simp only [] at h1 h2 h3 h4 h5 CW CE
  have hl := h.ops.len
  simp only [] at hl
  rw [hl] at h3 ⊢
  obtain ⟨R, eR⟩ : ∃ R, foldB ⟨pc, ln, constL ops n, en, bx, by_, bk⟩ = R := ⟨_, rfl⟩
  rw [eR]
  have ER := hide eR
  clear eR
  have OPS := hide h4
  have RB := hide h.box
  have OB := hide h.ops
  have FAR := hide h.far
  simp only [] at RB OB
  have KW := hide (Keep.refl (Its Z q) w)
  have z2 := RB.out.cell 2 _ rfl
  have BN : n ≤ 48 := by omega
  have HL := hide hl
  clear h hok h4 h5 hl
  go_enter Tryd.func42, Tryd.ntmps42
  go_wp2
  clear z2
  go_loopw [15] (fun i wr => ∃ j : Nat, j ≤ n ∧ i = .int .i64 j ∧ Hid (Rec Z [.int .i64 pc, .int .i64 ln, .slice q n c, .int .i64 en, .int .i64 bx, .int .i64 by_, .int .i64 bk] wr) ∧ Hid (Ob wr q n c (constL ops j)) ∧ Hid (Keep (Its Z q) w wr)) (fun i _ => n - (intOf i).toNat)
  case atStart => exact ⟨0, by omega, rfl, RB, OB, KW⟩
  case round =>
    clear RB OB KW
    obtain ⟨j, hj, rfl, RB, OB, KW⟩ := hrel
    by_cases hlt : j < n
    · obtain ⟨g, rfl, W0⟩ := OB.out.some hlt
      have WO := hide W0
      obtain ⟨o, et⟩ : ∃ o, ops[j]? = some o := ⟨_, List.getElem?_eq_getElem (by rw [HL.out]; exact hlt)⟩
      have et2 := (constL_far ops j j (Nat.le_refl _)).trans et
      obtain ⟨c0, ca, cb, cc, cd⟩ := (W0.at_ j o et2).1
      have OP := hide (op_parts (OPS.out j o et))
      have NX := hide (constL_next et)
      have NN := hide (const_no et)
      have MX := W0.mx
      have ML := W0.le
      unfold maxLen at MX
      have lk : ((j : Nat) : Int) < (n : Nat) := by omega
      clear et W0 OB
      have ET := hide et2
      clear et2
      obtain ⟨kd, ox, oy, ok, ot⟩ := o
      simp only [] at c0 ca cb cc cd OP NX NN
      have RO := hide (Rec.new wr [.int .i64 kd, .int .i64 ox, .int .i64 oy, .int .i64 ok, .int .i64 ot] 41)
      have bo : Below wr.heap.size wr (wr.alloc (.cells #[.int .i64 kd, .int .i64 ox, .int .i64 oy, .int .i64 ok, .int .i64 ot] 41)) := (Below.refl _ _).alloc (Nat.le_refl _) _
      have FZ : Hid (g ≠ Z) := FAR.out g rfl
      have LO : Hid (Z < wr.heap.size ∧ g < wr.heap.size ∧ w.heap.size ≤ wr.heap.size) := ⟨RB.out.lt, WO.out.lt, KW.out.size⟩
      replace RB := hide (RB.out.below bo)
      replace WO := hide (WO.out.below bo)
      replace KW := hide (keep_below KW.out bo)
      clear bo
      by_cases e3 : kd = 3
      · subst e3
        obtain ⟨mx, o1, rfl, lx, tx, -⟩ := val_take (OP.out.2.1 rfl)
        obtain ⟨my, o2, rfl, ly, ty, -⟩ := val_take (OP.out.2.2.2.1 rfl)
        obtain ⟨p1, ex⟩ : ∃ o, (constL ops j)[mx]? = some o := ⟨_, List.getElem?_eq_getElem (by rw [constL_len, HL.out]; omega)⟩
        obtain ⟨p2, ey⟩ : ∃ o, (constL ops j)[my]? = some o := ⟨_, List.getElem?_eq_getElem (by rw [constL_len, HL.out]; omega)⟩
        have KX := known_in ex
        have KY := known_in ey
        obtain ⟨kx, xx, yx, vx, tx'⟩ := p1
        obtain ⟨ky, xy, yy, vy, ty'⟩ := p2
        simp only [] at KX KY
        have SM : Hid (constL ops (j + 1) = if (kx == 1 && ky == 1) = true then (constL ops j).set j ⟨1, 0, 0, Wrd.wdo ok vx vy, 0⟩ else constL ops j) := show _ = _ by
          by_cases k1 : kx = 1
          · by_cases k2 : ky = 1
            · rw [k1, k2, NX.out]; unfold constO; simp only [if_true]; rw [KX, KY, if_pos k1, if_pos k2]; rfl
            · rw [beq_eq_false_iff_ne.2 k2, Bool.and_false, NN.out (by unfold constO; simp only [if_true]; rw [KX, KY, if_pos k1, if_neg k2])]; rfl
          · rw [beq_eq_false_iff_ne.2 k1, Bool.false_and, NN.out (by unfold constO; simp only [if_true]; rw [KX, KY, if_neg k1])]; rfl
        have EX := hide ex
        have EY := hide ey
        clear NX NN KX KY ex ey tx ty OP
        obtain ⟨kn, ek⟩ : ∃ z, (kx == 1 && ky == 1) = z := ⟨_, rfl⟩
        rw [ek] at SM
        have EK := hide ek
        clear ek
        have z2 := RB.out.cell 2 _ rfl
        go_wp2_with fail
        clear z2 c0 ca cb cc cd
        obtain ⟨ob, eob⟩ : ∃ z, wr.heap.size = z := ⟨_, rfl⟩
        have RO2 := RO
        rw [eob] at RO2 LO ⊢
        clear RO
        have RO := RO2
        clear RO2
        generalize wr.alloc (.cells #[.int .i64 3, .int .i64 (mx : Int), .int .i64 (my : Int), .int .i64 ok, .int .i64 ot] 41) = w1 at RB WO KW RO ⊢
        refine (words mx my kx xx yx vx tx' ky xy yy vy ty' pc ln en bx by_ bk (constL ops j) Z g n c _ RB.out WO.out EX.out EY.out).mono ?_
        rintro e w2 ⟨rfl, hb⟩
        rw [EK.out]
        replace RB := hide (RB.out.below hb)
        replace WO := hide (WO.out.below hb)
        replace RO := hide (RO.out.below hb)
        replace KW := hide (keep_below KW.out hb)
        clear hb eob
        cases kn with
        | false =>
          go_wp2
          exact ⟨⟨j + 1, by omega, by go_num, RB, hide (Or.inr ⟨g, rfl, by rw [SM.out]; exact WO.out⟩), KW⟩, by simp [intOf]; omega⟩
        | true =>
          go_wp2_with fail
          refine (wpIn_wide (n := 0)).1 ?_
          have bA : Below w2.heap.size w2 w2.drew := (Below.refl _ _).drew
          replace RB := hide (RB.out.below bA)
          replace WO := hide (WO.out.below bA)
          replace RO := hide (RO.out.below bA)
          replace KW := hide (keep_below KW.out bA)
          clear bA
          refine PhaseIn.region (S := fun v => Rec Z [.int .i64 pc, .int .i64 ln, .slice (some ⟨g, 0, none⟩) n c, .int .i64 en, .int .i64 bx, .int .i64 by_, .int .i64 bk] v ∧ Ow v g n c (constL ops j) ∧ Rec ob [.int .i64 3, .int .i64 (mx : Int), .int .i64 (my : Int), .int .i64 ok, .int .i64 ot] v) 13 (by kernel_rfl) ?_
          generalize w2.drew = d1 at RB WO RO KW ⊢
          have hHeld : Rec Z [.int .i64 pc, .int .i64 ln, .slice (some ⟨g, 0, none⟩) n c, .int .i64 en, .int .i64 bx, .int .i64 by_, .int .i64 bk] d1 ∧ Ow d1 g n c (constL ops j) ∧ Rec ob [.int .i64 3, .int .i64 (mx : Int), .int .i64 (my : Int), .int .i64 ok, .int .i64 ot] d1 := ⟨RB.out, WO.out, RO.out⟩
          refine PhaseIn.takeD (i := 0) (v := ?_) [0, 1, 2, 3, 4, 12, 13] 34 rfl (by rfl) (by kernel_rfl) (by kernel_rfl) (by kernel_rfl) (by kernel_rfl) (by kernel_rfl) (fun _ _ _ h => h) (Or.inl ⟨by kernel_rfl, ?_⟩) hHeld ?_
          rotate_left
          · intro w' hSw
            (try dsimp only at hSw)
            go_simp
            first | done | with_reducible rfl
          try simp only [Act.put, List.setIfInBounds_toArray, List.set]
          refine PhaseIn.takeD (i := 1) (v := ?_) [1, 2, 3, 4, 12, 13] 35 rfl (by rfl) (by kernel_rfl) (by kernel_rfl) (by kernel_rfl) (by kernel_rfl) (by kernel_rfl) (fun _ _ _ h => h) (Or.inl ⟨by kernel_rfl, ?_⟩) hHeld ?_
          rotate_left
          · intro w' hSw
            (try dsimp only at hSw)
            go_simp
            first | done | with_reducible rfl
          try simp only [Act.put, List.setIfInBounds_toArray, List.set]
          refine PhaseIn.takeD (i := 2) (v := ?_) [2, 3, 4, 12, 13] 36 rfl (by rfl) (by kernel_rfl) (by kernel_rfl) (by kernel_rfl) (by kernel_rfl) (by kernel_rfl) (fun _ _ _ h => h) (Or.inl ⟨by kernel_rfl, ?_⟩) hHeld ?_
          rotate_left
          · intro w' hSw
            (try dsimp only at hSw)
            go_simp
            first | done | with_reducible rfl
          try simp only [Act.put, List.setIfInBounds_toArray, List.set]
          refine PhaseIn.takeD (i := 3) (v := ?_) [3, 4, 12, 13] 37 rfl (by rfl) (by kernel_rfl) (by kernel_rfl) (by kernel_rfl) (by kernel_rfl) (by kernel_rfl) (fun _ _ _ h => h) (Or.inl ⟨by kernel_rfl, ?_⟩) hHeld ?_
          rotate_left
          · intro w' hSw
            (try dsimp only at hSw)
            go_simp
            first | done | with_reducible rfl
          try simp only [Act.put, List.setIfInBounds_toArray, List.set]
          refine PhaseIn.takeD (i := 4) (v := ?_) [4, 12, 13] 38 rfl (by rfl) (by kernel_rfl) (by kernel_rfl) (by kernel_rfl) (by kernel_rfl) (by kernel_rfl) (fun _ _ _ h => h) (Or.inl ⟨by kernel_rfl, ?_⟩) hHeld ?_
          rotate_left
          · intro w' hSw
            (try dsimp only at hSw)
            have z2 := hSw.1.cell 2 _ rfl
            go_simp
            first | done | with_reducible rfl
          try simp only [Act.put, List.setIfInBounds_toArray, List.set]
          refine PhaseIn.takeD (i := 5) (v := ?_) [5, 12, 13] 39 rfl (by rfl) (by kernel_rfl) (by kernel_rfl) (by kernel_rfl) (by kernel_rfl) (by kernel_rfl) (fun _ _ _ h => h) (Or.inl ⟨by kernel_rfl, ?_⟩) hHeld ?_
          rotate_left
          · intro w' hSw
            (try dsimp only at hSw)
            go_simp
            first | done | with_reducible rfl
          try simp only [Act.put, List.setIfInBounds_toArray, List.set]
          refine PhaseIn.takeD (i := 6) (v := ?_) [6, 7, 10, 11, 12, 13] 40 rfl (by rfl) (by kernel_rfl) (by kernel_rfl) (by kernel_rfl) (by kernel_rfl) (by kernel_rfl) (fun _ _ _ h => h) (Or.inl ⟨by kernel_rfl, ?_⟩) hHeld ?_
          rotate_left
          · intro w' hSw
            (try dsimp only at hSw)
            go_simp
            first | done | with_reducible rfl
          try simp only [Act.put, List.setIfInBounds_toArray, List.set]
          refine PhaseIn.takeD (i := 7) (v := ?_) [7, 10, 11, 12, 13] 41 rfl (by rfl) (by kernel_rfl) (by kernel_rfl) (by kernel_rfl) (by kernel_rfl) (by kernel_rfl) (fun _ _ _ h => h) (Or.inl ⟨by kernel_rfl, ?_⟩) hHeld ?_
          rotate_left
          · intro w' hSw
            (try dsimp only at hSw)
            have z3 := hSw.2.2.cell 3 _ rfl
            go_simp
            first | done | with_reducible rfl
          try simp only [Act.put, List.setIfInBounds_toArray, List.set]
          refine PhaseIn.takeD (i := 8) (v := ?_) [8, 10, 11, 12, 13] 42 rfl (by rfl) (by kernel_rfl) (by kernel_rfl) (by kernel_rfl) (by kernel_rfl) (by kernel_rfl) (fun _ _ _ h => h) (Or.inl ⟨by kernel_rfl, ?_⟩) hHeld ?_
          rotate_left
          · intro w' hSw
            (try dsimp only at hSw)
            go_simp
            first | done | with_reducible rfl
          try simp only [Act.put, List.setIfInBounds_toArray, List.set]
          refine PhaseIn.takeD (i := 9) (v := ?_) [9, 10, 11, 12, 13] 43 rfl (by rfl) (by kernel_rfl) (by kernel_rfl) (by kernel_rfl) (by kernel_rfl) (by kernel_rfl) (fun _ _ _ h => h) (Or.inl ⟨by kernel_rfl, ?_⟩) hHeld ?_
          rotate_left
          · intro w' hSw
            (try dsimp only at hSw)
            go_simp
            first | done | with_reducible rfl
          try simp only [Act.put, List.setIfInBounds_toArray, List.set]
          refine PhaseIn.one (i := 10) (by kernel_rfl) rfl (by kernel_rfl) (fun K hK => ?_)
          unfold Oper.wpIn
          refine ⟨fun _ _ => trivial, ?_⟩
          go_simp
          refine ⟨rfl, (callsIn_wide.2 (Wrd.implDo ok vx vy _)).mono ?_⟩
          rintro e d2 ⟨rfl, hb⟩
          replace RB := hide (RB.out.below hb)
          replace WO := hide (WO.out.below hb)
          replace RO := hide (RO.out.below hb)
          replace KW := hide (keep_below KW.out hb)
          clear hb hHeld
          have hHeld : Rec Z [.int .i64 pc, .int .i64 ln, .slice (some ⟨g, 0, none⟩) n c, .int .i64 en, .int .i64 bx, .int .i64 by_, .int .i64 bk] d2 ∧ Ow d2 g n c (constL ops j) ∧ Rec ob [.int .i64 3, .int .i64 (mx : Int), .int .i64 (my : Int), .int .i64 ok, .int .i64 ot] d2 := ⟨RB.out, WO.out, RO.out⟩
          refine hK _ _ (fun _ => hHeld) ?_
          clear hK K
          try simp only [Act.put, List.setIfInBounds_toArray, List.set]
          refine PhaseIn.takeD (i := 11) (v := ?_) [11, 12, 13] 45 rfl (by rfl) (by kernel_rfl) (by kernel_rfl) (by kernel_rfl) (by kernel_rfl) (by kernel_rfl) (fun _ _ _ h => h) (Or.inl ⟨by kernel_rfl, ?_⟩) hHeld ?_
          rotate_left
          · intro w' hSw
            (try dsimp only at hSw)
            go_simp
            first | done | with_reducible rfl
          try simp only [Act.put, List.setIfInBounds_toArray, List.set]
          refine PhaseIn.takeD (i := 12) (v := ?_) [12, 13] 46 rfl (by rfl) (by kernel_rfl) (by kernel_rfl) (by kernel_rfl) (by kernel_rfl) (by kernel_rfl) (fun _ _ _ h => h) (Or.inl ⟨by kernel_rfl, ?_⟩) hHeld ?_
          rotate_left
          · intro w' hSw
            (try dsimp only at hSw)
            go_simp
            first | done | with_reducible rfl
          try simp only [Act.put, List.setIfInBounds_toArray, List.set]
          refine PhaseIn.one (i := 13) (by kernel_rfl) rfl (by kernel_rfl) (fun K hK => ?_)
          obtain ⟨⟨c0, c1, c2, c3, c4⟩, ⟨s0, s1, s2, s3, s4⟩⟩ := WO.out.at_ j _ ET.out
          unfold Oper.wpIn
          refine ⟨fun _ _ => trivial, ?_⟩
          go_simp
          have tN := set5_turn d2 g (j * 5) (.int .i64 1) (.int .i64 0) (.int .i64 0) (.int .i64 (Wrd.wdo ok vx vy)) (.int .i64 0)
          have WN := WO.out.set hlt rfl ⟨1, 0, 0, Wrd.wdo ok vx vy, 0⟩
          have RN := RB.out.turn tN (fun e => FZ.out e.symm)
          have ON := RO.out.turn tN (by have := LO.out; omega)
          have KN := keep_turn KW.out tN (Or.inl (Or.inr rfl))
          unfold set5 at tN WN RN ON KN
          simp only [] at WN
          refine hK _ _ (fun h => absurd h (by decide)) ?_
          clear hK K hHeld c0 c1 c2 c3 c4 s0 s1 s2 s3 s4
          try simp only [Act.put, List.setIfInBounds_toArray, List.set]
          generalize (((((d2.setCell ⟨g, j * 5, none⟩ (.int .i64 1)).setCell ⟨g, j * 5 + 1, none⟩ (.int .i64 0)).setCell ⟨g, j * 5 + 2, none⟩ (.int .i64 0)).setCell ⟨g, j * 5 + 3, none⟩ (.int .i64 (Wrd.wdo ok vx vy))).setCell ⟨g, j * 5 + 4, none⟩ (.int .i64 0)) = d3 at tN WN RN ON KN ⊢
          have SN : Hid (constL ops (j + 1) = (constL ops j).set j ⟨1, 0, 0, Wrd.wdo ok vx vy, 0⟩) := show _ = _ by rw [SM.out]; rfl
          have WN2 := hide WN
          have RN2 := hide RN
          have KN2 := hide KN
          clear tN WN RN ON KN RB WO RO KW SM
          refine PhaseIn.done (by kernel_rfl) ?_ _
          go_wp2
          exact ⟨⟨j + 1, by omega, by go_num, RN2, hide (Or.inr ⟨g, rfl, by rw [SN.out]; exact WN2.out⟩), KN2⟩, by simp [intOf]; omega⟩
      · have SM : Hid (constL ops (j + 1) = constL ops j) := NN.out (by unfold constO; exact if_neg e3)
        have n3 : (kd != 3) = true := bne_iff_ne.2 e3
        clear e3 NX NN
        go_wp2
        exact ⟨⟨j + 1, by omega, by go_num, RB, hide (Or.inr ⟨g, rfl, by rw [SM.out]; exact WO.out⟩), KW⟩, by simp [intOf]; omega⟩
    · have lk : ¬ ((j : Nat) : Int) < (n : Nat) := by omega
      obtain rfl : j = n := by omega
      obtain ⟨K, eK⟩ : ∃ K, constL ops j = K := ⟨_, rfl⟩
      rw [HL.out] at CE
      have CW2 := hide (CW.out j)
      rw [eK] at OB CE CW2 ER
      clear CW OPS eK
      have HD : Hid (Hd wr Z q j c ⟨pc, ln, K, en, bx, by_, bk⟩) := ⟨RB.out, OB.out, FAR.out⟩
      have z3 := RB.out.cell 3 _ rfl
      go_wp2_with fail
      refine (onward ⟨pc, ln, K, en, bx, by_, bk⟩ Z q j c _ HD.out CE.out CW2.out h2.1 (by simp only []; omega) (by simp only []; omega) h1.2).mono ?_
      rintro e u ⟨p, rfl, F, hb⟩
      replace RB := hide (RB.out.below hb)
      replace OB := hide (OB.out.below hb)
      replace KW := hide (keep_below KW.out hb)
      have HF := hide F
      clear hb HD z3 F CE CW2
      obtain ⟨fk, ef⟩ : ∃ z, foldK ⟨pc, ln, K, en, bx, by_, bk⟩ = z := ⟨_, rfl⟩
      rw [ef] at HF ⊢
      cases fk with
      | none =>
        rw [fold_none ef] at ER
        obtain rfl := ER.out
        clear ef
        simp only [Option.isSome_none]
        go_wp2
        exact bodyPost_end (v := .tuple #[]) (by simp [results, Tryd.results42, go_sem]) rfl ⟨rfl, ⟨q, j, c, ⟨RB.out, OB.out, FAR.out⟩, Or.inl rfl⟩, KW.out⟩
      | some k0 =>
        obtain rfl := HF.out k0 rfl
        rw [fold_some ef] at ER
        simp only [goB] at ER
        obtain rfl := ER.out
        clear ef
        simp only [Option.isSome_some]
        have f3 := RB.out.soft 3
        have f4 := RB.out.soft 4
        have f5 := RB.out.soft 5
        have f6 := RB.out.soft 6
        have z3 := RB.out.cell 3 _ rfl
        have z4 := RB.out.cell 4 _ rfl
        have z5 := RB.out.cell 5 _ rfl
        have z6 := RB.out.cell 6 _ rfl
        have T4 : Turn Z u ((((u.setCell ⟨Z, 3, none⟩ (.int .i64 1)).setCell ⟨Z, 4, none⟩ (.int .i64 0)).setCell ⟨Z, 5, none⟩ (.int .i64 0)).setCell ⟨Z, 6, none⟩ (.int .i64 p)) := ((((Turn.refl Z u).setCell (p := ⟨Z, 3, none⟩) rfl _).setCell (p := ⟨Z, 4, none⟩) rfl _).setCell (p := ⟨Z, 5, none⟩) rfl _).setCell (p := ⟨Z, 6, none⟩) rfl _
        have R4 := (((RB.out.set 3 (.int .i64 1) (by simp) (show _ = [.int .i64 pc, .int .i64 ln, .slice q j c, .int .i64 1, .int .i64 bx, .int .i64 by_, .int .i64 bk] from rfl)).set 4 (.int .i64 0) (by simp) (show _ = [.int .i64 pc, .int .i64 ln, .slice q j c, .int .i64 1, .int .i64 0, .int .i64 by_, .int .i64 bk] from rfl)).set 5 (.int .i64 0) (by simp) (show _ = [.int .i64 pc, .int .i64 ln, .slice q j c, .int .i64 1, .int .i64 0, .int .i64 0, .int .i64 bk] from rfl)).set 6 (.int .i64 p) (by simp) (show _ = [.int .i64 pc, .int .i64 ln, .slice q j c, .int .i64 1, .int .i64 0, .int .i64 0, .int .i64 p] from rfl)
        have O4 := OB.out.turn T4 (fun g e => FAR.out g e)
        have K4 := keep_turn KW.out T4 (Or.inl (Or.inl rfl))
        have FIN := hide (show Wy w Z q ⟨pc, ln, K, 1, 0, 0, p⟩ (.returned (.tuple #[])) ((((u.setCell ⟨Z, 3, none⟩ (.int .i64 1)).setCell ⟨Z, 4, none⟩ (.int .i64 0)).setCell ⟨Z, 5, none⟩ (.int .i64 0)).setCell ⟨Z, 6, none⟩ (.int .i64 p)) from ⟨rfl, ⟨q, j, c, ⟨R4, O4, FAR.out⟩, Or.inl rfl⟩, K4⟩)
        clear T4 R4 O4 K4
        go_wp2
        exact bodyPost_end (v := .tuple #[]) (by simp [results, Tryd.results42, go_sem]) rfl FIN.out

end Go.Proofs.YtflhehofgplcoaaDoor.Op
