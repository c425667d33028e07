/-
  Bytes: the program's IrBytes.
-/
import Derived.Test.YtkeelacobknfbaaDoorWrC
namespace Go.Proofs.YtkeelacobknfbaaDoor.Wr
set_option linter.unusedVariables false
set_option linter.unusedSimpArgs false
open Go.ChangeShapes Go.WideShapes Go.ChangeAt Go.RowKit IntS Flat
open Ir Push
open Mch (Rec)
set_option maxRecDepth 8000 in
set_option maxHeartbeats 16000000 in
theorem implBytes (b : Bk) (cs : List Value) (w : World) (h : RBk w cs b) (ht : Tbs w) :
    Calls Tryd.prog 13 #[.agg cs.toArray] w fun e w' => ∃ q cap, e = .returned (.slice q (bytesB b).length cap) ∧ (∃ B, BytS.WRow w' B (.slice q (bytesB b).length cap) (bytesB b) ∧ (bytesB b = [] ∨ w.heap.size ≤ B)) ∧ Below w.heap.size w w' := by
  obtain ⟨q, c, B, rfl, hr⟩ := h
  have NO : Hid (okB b = false → bytesB b = []) := fun e => by show bytesB _ = _; unfold bytesB; rw [e]; rfl
  have YES : Hid (okB b = true → bytesB b = headY b ++ opsY b.ops) := fun e => by show bytesB _ = _; unfold bytesB; rw [if_pos e]
  obtain ⟨R, eR⟩ : ∃ R, bytesB b = R := ⟨_, rfl⟩
  rw [eR] at NO YES ⊢
  have OPN : Hid (okB b = true → b.ops.length ≤ 48 ∧ (∀ (i : Nat) o, b.ops[i]? = some o → 0 ≤ o.k ∧ o.k < 65536) ∧ 0 ≤ b.k ∧ b.k < 65536) := fun e => by
    obtain ⟨_, h1, h2, h3⟩ := ok_open e
    exact ⟨h1, fun i o ho => op_k (h2 i o ho), end_k h3⟩
  obtain ⟨pc, ln, ops, en, x, y, k⟩ := b
  obtain ⟨n, en_⟩ : ∃ n, ops.length = n := ⟨_, rfl⟩
  simp only [bv] at *
  have b1 : Below w.heap.size w (w.alloc (.cells #[.int .i64 pc, .int .i64 ln, .slice q n c, .int .i64 en, .int .i64 x, .int .i64 y, .int .i64 k] 25)) := (Below.refl _ _).alloc (Nat.le_refl _) _
  have RA := hide (Rec.new w [.int .i64 pc, .int .i64 ln, .slice q n c, .int .i64 en, .int .i64 x, .int .i64 y, .int .i64 k] 25)
  have HR0 := hide hr
  have HR := hide (hr.below b1)
  have TB := hide (ht.below b1)
  have BW := hide b1
  have EN := hide en_
  rw [en_] at HR HR0 ⊢
  clear b1 hr ht en_ eR
  go_enter Tryd.func13, Tryd.ntmps13
  go_wp2_with fail
  generalize w.alloc (.cells #[.int .i64 pc, .int .i64 ln, .slice q n c, .int .i64 en, .int .i64 x, .int .i64 y, .int .i64 k] 25) = W0 at RA HR TB BW ⊢
  refine (implIrOk ⟨pc, ln, ops, en, x, y, k⟩ [.int .i64 pc, .int .i64 ln, .slice q n c, .int .i64 en, .int .i64 x, .int .i64 y, .int .i64 k] W0 ⟨q, c, B, by unfold bv; rw [EN.out], by rw [EN.out]; exact HR.out⟩ TB.out.1 TB.out.2).mono ?_
  rintro e u1 ⟨rfl, hb⟩
  replace RA := hide (RA.out.below hb)
  replace BW := hide (BW.out.trans (hb.mono BW.out.size))
  clear hb HR TB
  obtain ⟨bo, eo⟩ : ∃ z, okB (⟨pc, ln, ops, en, x, y, k⟩ : Bk) = z := ⟨_, rfl⟩
  rw [eo] at NO YES OPN ⊢
  clear eo
  cases bo with
  | false =>
    obtain rfl := NO.out rfl
    have FIN := hide (OwnY.nil u1 w.heap.size).wrow
    clear RA HR0 NO YES OPN
    go_wp2
    go_ret
    first | exact ⟨none, 0, rfl, FIN.out, BW.out⟩ | exact ⟨none, 0, rfl, (let ⟨B, h, _⟩ := FIN.out; ⟨B, h⟩), BW.out⟩
  | true =>
    replace YES := hide (YES.out rfl)
    obtain ⟨h48, opk, k0, k1⟩ := OPN.out rfl
    try simp only [] at h48 opk k0 k1
    have OPK := hide opk
    have n48 : n ≤ 48 := by rw [EN.out] at h48; exact h48
    have KK : Hid (0 ≤ k ∧ k < 65536) := ⟨k0, k1⟩
    clear NO OPN opk h48 k0 k1
    go_wp2_with fail
    refine (wpIn_wide (n := 0)).1 ?_
    have bA : Below u1.heap.size u1 u1.drew := (Below.refl _ _).drew
    replace RA := hide (RA.out.below bA)
    replace BW := hide (BW.out.trans (bA.mono BW.out.size))
    clear bA
    refine PhaseIn.region (S := fun v => Rec w.heap.size [.int .i64 pc, .int .i64 ln, .slice q n c, .int .i64 en, .int .i64 x, .int .i64 y, .int .i64 k] v) 21 (by kernel_rfl) ?_
    generalize u1.drew = d1 at RA BW ⊢
    have hHeld : Rec w.heap.size [.int .i64 pc, .int .i64 ln, .slice q n c, .int .i64 en, .int .i64 x, .int .i64 y, .int .i64 k] d1 := RA.out
    refine PhaseIn.takeD (i := 0) (v := ?_) [0, 1, 2, 21, 22] 9 rfl (by rfl) (by kernel_rfl) (by kernel_rfl) (by kernel_rfl) (by kernel_rfl) (by kernel_rfl) (fun _ _ _ h => h) (Or.inl ⟨by kernel_rfl, ?_⟩) hHeld ?_
    rotate_left
    · intro w' hSw
      (try dsimp only at hSw)
      go_simp
      first | done | with_reducible rfl
    try simp only [Act.put, List.setIfInBounds_toArray, List.set]
    refine PhaseIn.takeD (i := 1) (v := ?_) [1, 2, 21, 22] 10 rfl (by rfl) (by kernel_rfl) (by kernel_rfl) (by kernel_rfl) (by kernel_rfl) (by kernel_rfl) (fun _ _ _ h => h) (Or.inl ⟨by kernel_rfl, ?_⟩) hHeld ?_
    rotate_left
    · intro w' hSw
      (try dsimp only at hSw)
      have z0 := hSw.cell 0 _ rfl
      go_simp
      first | done | with_reducible rfl
    try simp only [Act.put, List.setIfInBounds_toArray, List.set]
    refine PhaseIn.takeD (i := 2) (v := ?_) [2, 21, 22] 11 rfl (by rfl) (by kernel_rfl) (by kernel_rfl) (by kernel_rfl) (by kernel_rfl) (by kernel_rfl) (fun _ _ _ h => h) (Or.inl ⟨by kernel_rfl, ?_⟩) hHeld ?_
    rotate_left
    · intro w' hSw
      (try dsimp only at hSw)
      go_simp
      first | done | with_reducible rfl
    try simp only [Act.put, List.setIfInBounds_toArray, List.set]
    refine PhaseIn.takeD (i := 3) (v := ?_) [3, 4, 5, 21, 22] 12 rfl (by rfl) (by kernel_rfl) (by kernel_rfl) (by kernel_rfl) (by kernel_rfl) (by kernel_rfl) (fun _ _ _ h => h) (Or.inl ⟨by kernel_rfl, ?_⟩) hHeld ?_
    rotate_left
    · intro w' hSw
      (try dsimp only at hSw)
      go_simp
      first | done | with_reducible rfl
    try simp only [Act.put, List.setIfInBounds_toArray, List.set]
    refine PhaseIn.takeD (i := 4) (v := ?_) [4, 5, 21, 22] 13 rfl (by rfl) (by kernel_rfl) (by kernel_rfl) (by kernel_rfl) (by kernel_rfl) (by kernel_rfl) (fun _ _ _ h => h) (Or.inl ⟨by kernel_rfl, ?_⟩) hHeld ?_
    rotate_left
    · intro w' hSw
      (try dsimp only at hSw)
      have z1 := hSw.cell 1 _ rfl
      go_simp
      first | done | with_reducible rfl
    try simp only [Act.put, List.setIfInBounds_toArray, List.set]
    refine PhaseIn.takeD (i := 5) (v := ?_) [5, 21, 22] 14 rfl (by rfl) (by kernel_rfl) (by kernel_rfl) (by kernel_rfl) (by kernel_rfl) (by kernel_rfl) (fun _ _ _ h => h) (Or.inl ⟨by kernel_rfl, ?_⟩) hHeld ?_
    rotate_left
    · intro w' hSw
      (try dsimp only at hSw)
      go_simp
      first | done | with_reducible rfl
    try simp only [Act.put, List.setIfInBounds_toArray, List.set]
    refine PhaseIn.takeD (i := 6) (v := ?_) [6, 7, 8, 21, 22] 15 rfl (by rfl) (by kernel_rfl) (by kernel_rfl) (by kernel_rfl) (by kernel_rfl) (by kernel_rfl) (fun _ _ _ h => h) (Or.inl ⟨by kernel_rfl, ?_⟩) hHeld ?_
    rotate_left
    · intro w' hSw
      (try dsimp only at hSw)
      go_simp
      first | done | with_reducible rfl
    try simp only [Act.put, List.setIfInBounds_toArray, List.set]
    refine PhaseIn.takeD (i := 7) (v := ?_) [7, 8, 21, 22] 16 rfl (by rfl) (by kernel_rfl) (by kernel_rfl) (by kernel_rfl) (by kernel_rfl) (by kernel_rfl) (fun _ _ _ h => h) (Or.inl ⟨by kernel_rfl, ?_⟩) hHeld ?_
    rotate_left
    · intro w' hSw
      (try dsimp only at hSw)
      have z3 := hSw.cell 3 _ rfl
      go_simp
      first | done | with_reducible rfl
    try simp only [Act.put, List.setIfInBounds_toArray, List.set]
    refine PhaseIn.takeD (i := 8) (v := ?_) [8, 21, 22] 17 rfl (by rfl) (by kernel_rfl) (by kernel_rfl) (by kernel_rfl) (by kernel_rfl) (by kernel_rfl) (fun _ _ _ h => h) (Or.inl ⟨by kernel_rfl, ?_⟩) hHeld ?_
    rotate_left
    · intro w' hSw
      (try dsimp only at hSw)
      go_simp
      first | done | with_reducible rfl
    try simp only [Act.put, List.setIfInBounds_toArray, List.set]
    refine PhaseIn.takeD (i := 9) (v := ?_) [9, 10, 11, 21, 22] 18 rfl (by rfl) (by kernel_rfl) (by kernel_rfl) (by kernel_rfl) (by kernel_rfl) (by kernel_rfl) (fun _ _ _ h => h) (Or.inl ⟨by kernel_rfl, ?_⟩) hHeld ?_
    rotate_left
    · intro w' hSw
      (try dsimp only at hSw)
      go_simp
      first | done | with_reducible rfl
    try simp only [Act.put, List.setIfInBounds_toArray, List.set]
    refine PhaseIn.takeD (i := 10) (v := ?_) [10, 11, 21, 22] 19 rfl (by rfl) (by kernel_rfl) (by kernel_rfl) (by kernel_rfl) (by kernel_rfl) (by kernel_rfl) (fun _ _ _ h => h) (Or.inl ⟨by kernel_rfl, ?_⟩) hHeld ?_
    rotate_left
    · intro w' hSw
      (try dsimp only at hSw)
      have z4 := hSw.cell 4 _ rfl
      go_simp
      first | done | with_reducible rfl
    try simp only [Act.put, List.setIfInBounds_toArray, List.set]
    refine PhaseIn.takeD (i := 11) (v := ?_) [11, 21, 22] 20 rfl (by rfl) (by kernel_rfl) (by kernel_rfl) (by kernel_rfl) (by kernel_rfl) (by kernel_rfl) (fun _ _ _ h => h) (Or.inl ⟨by kernel_rfl, ?_⟩) hHeld ?_
    rotate_left
    · intro w' hSw
      (try dsimp only at hSw)
      go_simp
      first | done | with_reducible rfl
    try simp only [Act.put, List.setIfInBounds_toArray, List.set]
    refine PhaseIn.takeD (i := 12) (v := ?_) [12, 13, 14, 21, 22] 21 rfl (by rfl) (by kernel_rfl) (by kernel_rfl) (by kernel_rfl) (by kernel_rfl) (by kernel_rfl) (fun _ _ _ h => h) (Or.inl ⟨by kernel_rfl, ?_⟩) hHeld ?_
    rotate_left
    · intro w' hSw
      (try dsimp only at hSw)
      go_simp
      first | done | with_reducible rfl
    try simp only [Act.put, List.setIfInBounds_toArray, List.set]
    refine PhaseIn.takeD (i := 13) (v := ?_) [13, 14, 21, 22] 22 rfl (by rfl) (by kernel_rfl) (by kernel_rfl) (by kernel_rfl) (by kernel_rfl) (by kernel_rfl) (fun _ _ _ h => h) (Or.inl ⟨by kernel_rfl, ?_⟩) hHeld ?_
    rotate_left
    · intro w' hSw
      (try dsimp only at hSw)
      have z5 := hSw.cell 5 _ rfl
      go_simp
      first | done | with_reducible rfl
    try simp only [Act.put, List.setIfInBounds_toArray, List.set]
    refine PhaseIn.takeD (i := 14) (v := ?_) [14, 21, 22] 23 rfl (by rfl) (by kernel_rfl) (by kernel_rfl) (by kernel_rfl) (by kernel_rfl) (by kernel_rfl) (fun _ _ _ h => h) (Or.inl ⟨by kernel_rfl, ?_⟩) hHeld ?_
    rotate_left
    · intro w' hSw
      (try dsimp only at hSw)
      go_simp
      first | done | with_reducible rfl
    try simp only [Act.put, List.setIfInBounds_toArray, List.set]
    refine PhaseIn.takeD (i := 15) (v := ?_) [15, 16, 17, 20, 21, 22] 24 rfl (by rfl) (by kernel_rfl) (by kernel_rfl) (by kernel_rfl) (by kernel_rfl) (by kernel_rfl) (fun _ _ _ h => h) (Or.inl ⟨by kernel_rfl, ?_⟩) hHeld ?_
    rotate_left
    · intro w' hSw
      (try dsimp only at hSw)
      go_simp
      first | done | with_reducible rfl
    try simp only [Act.put, List.setIfInBounds_toArray, List.set]
    refine PhaseIn.takeD (i := 16) (v := ?_) [16, 17, 20, 21, 22] 25 rfl (by rfl) (by kernel_rfl) (by kernel_rfl) (by kernel_rfl) (by kernel_rfl) (by kernel_rfl) (fun _ _ _ h => h) (Or.inl ⟨by kernel_rfl, ?_⟩) hHeld ?_
    rotate_left
    · intro w' hSw
      (try dsimp only at hSw)
      have z6 := hSw.cell 6 _ rfl
      go_simp
      first | done | with_reducible rfl
    try simp only [Act.put, List.setIfInBounds_toArray, List.set]
    refine PhaseIn.takeD (i := 18) (v := ?_) [18, 19, 20, 21, 22] 27 rfl (by rfl) (by kernel_rfl) (by kernel_rfl) (by kernel_rfl) (by kernel_rfl) (by kernel_rfl) (fun _ _ _ h => h) (Or.inl ⟨by kernel_rfl, ?_⟩) hHeld ?_
    rotate_left
    · intro w' hSw
      (try dsimp only at hSw)
      go_simp
      first | done | with_reducible rfl
    try simp only [Act.put, List.setIfInBounds_toArray, List.set]
    refine PhaseIn.takeD (i := 19) (v := ?_) [19, 20, 21, 22] 28 rfl (by rfl) (by kernel_rfl) (by kernel_rfl) (by kernel_rfl) (by kernel_rfl) (by kernel_rfl) (fun _ _ _ h => h) (Or.inl ⟨by kernel_rfl, ?_⟩) hHeld ?_
    rotate_left
    · intro w' hSw
      (try dsimp only at hSw)
      have z6 := hSw.cell 6 _ rfl
      go_simp
      first | done | with_reducible rfl
    try simp only [Act.put, List.setIfInBounds_toArray, List.set]
    simp only [wrapY]
    refine PhaseIn.one (i := 17) (by kernel_rfl) rfl (by kernel_rfl) (fun K hK => ?_)
    unfold Oper.wpIn
    refine ⟨fun _ _ => trivial, ?_⟩
    go_simp
    refine ⟨rfl, (callsIn_wide.2 (highByte k _ KK.out.1 KK.out.2)).mono ?_⟩
    rintro e dd ⟨rfl, rfl⟩
    refine hK _ _ (fun _ => hHeld) ?_
    clear hK K
    try simp only [Act.put, List.setIfInBounds_toArray, List.set]
    refine PhaseIn.one (i := 20) (by kernel_rfl) rfl (by kernel_rfl) (fun K hK => ?_)
    unfold Oper.wpIn
    refine ⟨fun _ _ => trivial, ?_⟩
    go_simp
    refine ⟨rfl, (callsIn_wide.2 (lowByte k _ KK.out.1 KK.out.2)).mono ?_⟩
    rintro e dd ⟨rfl, rfl⟩
    refine hK _ _ (fun _ => hHeld) ?_
    clear hK K
    try simp only [Act.put, List.setIfInBounds_toArray, List.set]
    refine PhaseIn.one (i := 21) (by kernel_rfl) rfl (by kernel_rfl) (fun K hK => ?_)
    unfold Oper.wpIn
    refine ⟨fun _ _ => trivial, ?_⟩
    go_simp
    have bP : Below dd.heap.size dd (dd.alloc (.cells #[.int .u8 (pc % 256), .int .u8 (ln % 256), .int .u8 (en % 256), .int .u8 (x % 256), .int .u8 (y % 256), .int .u8 (k / 256), .int .u8 (k % 256)] 5)) := (Below.refl _ _).alloc (Nat.le_refl _) _
    have OY : Hid (OwnY (dd.alloc (.cells #[.int .u8 (pc % 256), .int .u8 (ln % 256), .int .u8 (en % 256), .int .u8 (x % 256), .int .u8 (y % 256), .int .u8 (k / 256), .int .u8 (k % 256)] 5)) (w.heap.size + 1) (.slice (some ⟨dd.heap.size, 0, none⟩) 7 7) [pc % 256, ln % 256, en % 256, x % 256, y % 256, k / 256, k % 256]) := OwnY.fresh dd (w.heap.size + 1) [pc % 256, ln % 256, en % 256, x % 256, y % 256, k / 256, k % 256] RA.out.lt (by unfold maxLen; simp)
    replace RA := hide (RA.out.below bP)
    replace BW := hide (BW.out.trans (bP.mono BW.out.size))
    refine hK _ _ (fun h => absurd h (by decide)) ?_
    clear hK K bP hHeld
    try simp only [Act.put, List.setIfInBounds_toArray, List.set]
    generalize dd.alloc (.cells #[.int .u8 (pc % 256), .int .u8 (ln % 256), .int .u8 (en % 256), .int .u8 (x % 256), .int .u8 (y % 256), .int .u8 (k / 256), .int .u8 (k % 256)] 5) = V1 at OY RA BW ⊢
    generalize dd.heap.size = Gb at OY ⊢
    refine PhaseIn.late (i := 22) (v := ?_) (by kernel_rfl) rfl 3 (by rfl) (by omega) (Or.inl ⟨by kernel_rfl, ?_⟩) ?_
    rotate_left
    · intro w' hSw
      go_simp
      first | done | with_reducible rfl
    try simp only [Act.put, List.setIfInBounds_toArray, List.set]
    refine PhaseIn.done (by kernel_rfl) ?_ _
    have z2 := RA.out.cell 2 _ rfl
    go_wp2
    clear z2
    go_loopw [3, 34] (fun s i wr => ∃ (j ck : Nat) (qk : Option Addr) (ys : List Int), j ≤ n ∧ i = .int .i64 j ∧ s = .slice qk ys.length ck ∧ Hid (ys = [pc % 256, ln % 256, en % 256, x % 256, y % 256, k / 256, k % 256] ++ opsY (ops.take j)) ∧ Hid (OwnY wr (w.heap.size + 1) (.slice qk ys.length ck) ys) ∧ Hid (Below w.heap.size w wr) ∧ Hid (Rec w.heap.size [.int .i64 pc, .int .i64 ln, .slice q n c, .int .i64 en, .int .i64 x, .int .i64 y, .int .i64 k] wr)) (fun _ i _ => n - (intOf i).toNat)
    case atStart => exact ⟨0, _, _, [pc % 256, ln % 256, en % 256, x % 256, y % 256, k / 256, k % 256], by omega, rfl, rfl, by simp [opsY, hide], OY, BW, RA⟩
    case round =>
      clear OY BW RA
      obtain ⟨j, ck, qk, ys, hj, rfl, rfl, EY, OY, BW, RA⟩ := hrel
      have jl : j ≤ ops.length := by rw [EN.out]; exact hj
      have LB : Hid (ys.length = 7 + 6 * j) := show _ = _ by rw [EY.out, List.length_append, opsY_len, List.length_take, Nat.min_eq_left jl]; simp; omega
      have SW : Hid (w.heap.size < wr.heap.size) := RA.out.lt
      have z2 := RA.out.cell 2 _ rfl
      have HR := hide (HR0.out.below BW.out)
      by_cases hlt : j < n
      · have hlt2 := hlt
        obtain ⟨o, et⟩ : ∃ o, ops[j]? = some o := ⟨_, List.getElem?_eq_getElem (by rw [EN.out]; exact hlt)⟩
        obtain ⟨qa, qc, qo, qe, q2, q3, -, q4⟩ := HR.out.ex
        rw [EN.out] at qe
        cases qe
        unfold maxLen at q3
        obtain ⟨rfl, q5⟩ := q4.resolve_left (fun e => by rw [e] at et; simp at et)
        obtain ⟨c0, ca, cb, cc, cd⟩ := q5 j o et
        have NX := hide (opsY_next et)
        have OK := hide (OPK.out j o et)
        rw [EN.out] at q2
        obtain ⟨kd, ox, oy, ok, ot⟩ := o
        simp only [] at c0 ca cb cc cd OK NX
        have QL : Hid (∀ G, qk = some ⟨G, 0, none⟩ → G < wr.heap.size) := fun G e => by
          rcases OY.out.form with ⟨h, _⟩ | ⟨G', h, _, h3⟩
          · rw [h] at e; cases e
          · rw [h] at e; cases e; exact h3
        have RO := hide (Rec.new wr [.int .i64 kd, .int .i64 ox, .int .i64 oy, .int .i64 ok, .int .i64 ot] 51)
        have bo : Below wr.heap.size wr (wr.alloc (.cells #[.int .i64 kd, .int .i64 ox, .int .i64 oy, .int .i64 ok, .int .i64 ot] 51)) := (Below.refl _ _).alloc (Nat.le_refl _) _
        replace OY := hide (OY.out.below bo)
        replace RA := hide (RA.out.below bo)
        replace BW := hide (BW.out.trans (bo.mono BW.out.size))
        have lk : ((j : Nat) : Int) < (n : Nat) := by omega
        clear bo q4 q5 et HR
        go_wp2_with fail
        clear c0 ca cb cc cd z2
        obtain ⟨X, eX⟩ : ∃ z, wr.heap.size = z := ⟨_, rfl⟩
        rw [eX] at RO QL SW ⊢
        generalize wr.alloc (.cells #[.int .i64 kd, .int .i64 ox, .int .i64 oy, .int .i64 ok, .int .i64 ot] 51) = w1 at RO OY RA BW ⊢
        clear eX
        refine (wpIn_wide (n := 0)).1 ?_
        have bA : Below w1.heap.size w1 w1.drew := (Below.refl _ _).drew
        replace RO := hide (RO.out.below bA)
        replace RA := hide (RA.out.below bA)
        replace OY := hide (OY.out.below bA)
        replace BW := hide (BW.out.trans (bA.mono BW.out.size))
        clear bA
        refine PhaseIn.region (S := fun v => Rec X [.int .i64 kd, .int .i64 ox, .int .i64 oy, .int .i64 ok, .int .i64 ot] v) 20 (by kernel_rfl) ?_
        generalize w1.drew = d2 at RO RA OY BW ⊢
        have hHeld : Rec X [.int .i64 kd, .int .i64 ox, .int .i64 oy, .int .i64 ok, .int .i64 ot] d2 := RO.out
        clear RO
        refine PhaseIn.takeD (i := 0) (v := ?_) [0, 20, 21] 38 rfl (by rfl) (by kernel_rfl) (by kernel_rfl) (by kernel_rfl) (by kernel_rfl) (by kernel_rfl) (fun _ _ _ h => h) (Or.inl ⟨by kernel_rfl, ?_⟩) hHeld ?_
        rotate_left
        · intro w' hSw
          (try dsimp only at hSw)
          go_simp
          first | done | with_reducible rfl
        try simp only [Act.put, List.setIfInBounds_toArray, List.set]
        refine PhaseIn.takeD (i := 1) (v := ?_) [1, 2, 3, 19, 20, 21] 39 rfl (by rfl) (by kernel_rfl) (by kernel_rfl) (by kernel_rfl) (by kernel_rfl) (by kernel_rfl) (fun _ _ _ h => h) (Or.inl ⟨by kernel_rfl, ?_⟩) hHeld ?_
        rotate_left
        · intro w' hSw
          (try dsimp only at hSw)
          go_simp
          first | done | with_reducible rfl
        try simp only [Act.put, List.setIfInBounds_toArray, List.set]
        refine PhaseIn.takeD (i := 2) (v := ?_) [2, 3, 19, 20, 21] 40 rfl (by rfl) (by kernel_rfl) (by kernel_rfl) (by kernel_rfl) (by kernel_rfl) (by kernel_rfl) (fun _ _ _ h => h) (Or.inl ⟨by kernel_rfl, ?_⟩) hHeld ?_
        rotate_left
        · intro w' hSw
          (try dsimp only at hSw)
          have o0 := hSw.cell 0 _ rfl
          go_simp
          first | done | with_reducible rfl
        try simp only [Act.put, List.setIfInBounds_toArray, List.set]
        refine PhaseIn.takeD (i := 3) (v := ?_) [3, 19, 20, 21] 41 rfl (by rfl) (by kernel_rfl) (by kernel_rfl) (by kernel_rfl) (by kernel_rfl) (by kernel_rfl) (fun _ _ _ h => h) (Or.inl ⟨by kernel_rfl, ?_⟩) hHeld ?_
        rotate_left
        · intro w' hSw
          (try dsimp only at hSw)
          go_simp
          first | done | with_reducible rfl
        try simp only [Act.put, List.setIfInBounds_toArray, List.set]
        refine PhaseIn.takeD (i := 4) (v := ?_) [4, 5, 6, 19, 20, 21] 42 rfl (by rfl) (by kernel_rfl) (by kernel_rfl) (by kernel_rfl) (by kernel_rfl) (by kernel_rfl) (fun _ _ _ h => h) (Or.inl ⟨by kernel_rfl, ?_⟩) hHeld ?_
        rotate_left
        · intro w' hSw
          (try dsimp only at hSw)
          go_simp
          first | done | with_reducible rfl
        try simp only [Act.put, List.setIfInBounds_toArray, List.set]
        refine PhaseIn.takeD (i := 5) (v := ?_) [5, 6, 19, 20, 21] 43 rfl (by rfl) (by kernel_rfl) (by kernel_rfl) (by kernel_rfl) (by kernel_rfl) (by kernel_rfl) (fun _ _ _ h => h) (Or.inl ⟨by kernel_rfl, ?_⟩) hHeld ?_
        rotate_left
        · intro w' hSw
          (try dsimp only at hSw)
          have o1 := hSw.cell 1 _ rfl
          go_simp
          first | done | with_reducible rfl
        try simp only [Act.put, List.setIfInBounds_toArray, List.set]
        refine PhaseIn.takeD (i := 6) (v := ?_) [6, 19, 20, 21] 44 rfl (by rfl) (by kernel_rfl) (by kernel_rfl) (by kernel_rfl) (by kernel_rfl) (by kernel_rfl) (fun _ _ _ h => h) (Or.inl ⟨by kernel_rfl, ?_⟩) hHeld ?_
        rotate_left
        · intro w' hSw
          (try dsimp only at hSw)
          go_simp
          first | done | with_reducible rfl
        try simp only [Act.put, List.setIfInBounds_toArray, List.set]
        refine PhaseIn.takeD (i := 7) (v := ?_) [7, 8, 9, 19, 20, 21] 45 rfl (by rfl) (by kernel_rfl) (by kernel_rfl) (by kernel_rfl) (by kernel_rfl) (by kernel_rfl) (fun _ _ _ h => h) (Or.inl ⟨by kernel_rfl, ?_⟩) hHeld ?_
        rotate_left
        · intro w' hSw
          (try dsimp only at hSw)
          go_simp
          first | done | with_reducible rfl
        try simp only [Act.put, List.setIfInBounds_toArray, List.set]
        refine PhaseIn.takeD (i := 8) (v := ?_) [8, 9, 19, 20, 21] 46 rfl (by rfl) (by kernel_rfl) (by kernel_rfl) (by kernel_rfl) (by kernel_rfl) (by kernel_rfl) (fun _ _ _ h => h) (Or.inl ⟨by kernel_rfl, ?_⟩) hHeld ?_
        rotate_left
        · intro w' hSw
          (try dsimp only at hSw)
          have o2 := hSw.cell 2 _ rfl
          go_simp
          first | done | with_reducible rfl
        try simp only [Act.put, List.setIfInBounds_toArray, List.set]
        refine PhaseIn.takeD (i := 9) (v := ?_) [9, 19, 20, 21] 47 rfl (by rfl) (by kernel_rfl) (by kernel_rfl) (by kernel_rfl) (by kernel_rfl) (by kernel_rfl) (fun _ _ _ h => h) (Or.inl ⟨by kernel_rfl, ?_⟩) hHeld ?_
        rotate_left
        · intro w' hSw
          (try dsimp only at hSw)
          go_simp
          first | done | with_reducible rfl
        try simp only [Act.put, List.setIfInBounds_toArray, List.set]
        refine PhaseIn.takeD (i := 10) (v := ?_) [10, 11, 12, 15, 19, 20, 21] 48 rfl (by rfl) (by kernel_rfl) (by kernel_rfl) (by kernel_rfl) (by kernel_rfl) (by kernel_rfl) (fun _ _ _ h => h) (Or.inl ⟨by kernel_rfl, ?_⟩) hHeld ?_
        rotate_left
        · intro w' hSw
          (try dsimp only at hSw)
          go_simp
          first | done | with_reducible rfl
        try simp only [Act.put, List.setIfInBounds_toArray, List.set]
        refine PhaseIn.takeD (i := 11) (v := ?_) [11, 12, 15, 19, 20, 21] 49 rfl (by rfl) (by kernel_rfl) (by kernel_rfl) (by kernel_rfl) (by kernel_rfl) (by kernel_rfl) (fun _ _ _ h => h) (Or.inl ⟨by kernel_rfl, ?_⟩) hHeld ?_
        rotate_left
        · intro w' hSw
          (try dsimp only at hSw)
          have o3 := hSw.cell 3 _ rfl
          go_simp
          first | done | with_reducible rfl
        try simp only [Act.put, List.setIfInBounds_toArray, List.set]
        refine PhaseIn.takeD (i := 13) (v := ?_) [13, 14, 15, 19, 20, 21] 51 rfl (by rfl) (by kernel_rfl) (by kernel_rfl) (by kernel_rfl) (by kernel_rfl) (by kernel_rfl) (fun _ _ _ h => h) (Or.inl ⟨by kernel_rfl, ?_⟩) hHeld ?_
        rotate_left
        · intro w' hSw
          (try dsimp only at hSw)
          go_simp
          first | done | with_reducible rfl
        try simp only [Act.put, List.setIfInBounds_toArray, List.set]
        refine PhaseIn.takeD (i := 14) (v := ?_) [14, 15, 19, 20, 21] 52 rfl (by rfl) (by kernel_rfl) (by kernel_rfl) (by kernel_rfl) (by kernel_rfl) (by kernel_rfl) (fun _ _ _ h => h) (Or.inl ⟨by kernel_rfl, ?_⟩) hHeld ?_
        rotate_left
        · intro w' hSw
          (try dsimp only at hSw)
          have o3 := hSw.cell 3 _ rfl
          go_simp
          first | done | with_reducible rfl
        try simp only [Act.put, List.setIfInBounds_toArray, List.set]
        refine PhaseIn.takeD (i := 16) (v := ?_) [16, 17, 18, 19, 20, 21] 54 rfl (by rfl) (by kernel_rfl) (by kernel_rfl) (by kernel_rfl) (by kernel_rfl) (by kernel_rfl) (fun _ _ _ h => h) (Or.inl ⟨by kernel_rfl, ?_⟩) hHeld ?_
        rotate_left
        · intro w' hSw
          (try dsimp only at hSw)
          go_simp
          first | done | with_reducible rfl
        try simp only [Act.put, List.setIfInBounds_toArray, List.set]
        refine PhaseIn.takeD (i := 17) (v := ?_) [17, 18, 19, 20, 21] 55 rfl (by rfl) (by kernel_rfl) (by kernel_rfl) (by kernel_rfl) (by kernel_rfl) (by kernel_rfl) (fun _ _ _ h => h) (Or.inl ⟨by kernel_rfl, ?_⟩) hHeld ?_
        rotate_left
        · intro w' hSw
          (try dsimp only at hSw)
          have o4 := hSw.cell 4 _ rfl
          go_simp
          first | done | with_reducible rfl
        try simp only [Act.put, List.setIfInBounds_toArray, List.set]
        refine PhaseIn.takeD (i := 18) (v := ?_) [18, 19, 20, 21] 56 rfl (by rfl) (by kernel_rfl) (by kernel_rfl) (by kernel_rfl) (by kernel_rfl) (by kernel_rfl) (fun _ _ _ h => h) (Or.inl ⟨by kernel_rfl, ?_⟩) hHeld ?_
        rotate_left
        · intro w' hSw
          (try dsimp only at hSw)
          go_simp
          first | done | with_reducible rfl
        try simp only [Act.put, List.setIfInBounds_toArray, List.set]
        simp only [wrapY]
        refine PhaseIn.one (i := 12) (by kernel_rfl) rfl (by kernel_rfl) (fun K hK => ?_)
        unfold Oper.wpIn
        refine ⟨fun _ _ => trivial, ?_⟩
        go_simp
        refine ⟨rfl, (callsIn_wide.2 (highByte ok _ OK.out.1 OK.out.2)).mono ?_⟩
        rintro e dd ⟨rfl, rfl⟩
        refine hK _ _ (fun _ => hHeld) ?_
        clear hK K
        try simp only [Act.put, List.setIfInBounds_toArray, List.set]
        refine PhaseIn.one (i := 15) (by kernel_rfl) rfl (by kernel_rfl) (fun K hK => ?_)
        unfold Oper.wpIn
        refine ⟨fun _ _ => trivial, ?_⟩
        go_simp
        refine ⟨rfl, (callsIn_wide.2 (lowByte ok _ OK.out.1 OK.out.2)).mono ?_⟩
        rintro e dd ⟨rfl, rfl⟩
        refine hK _ _ (fun _ => hHeld) ?_
        clear hK K
        try simp only [Act.put, List.setIfInBounds_toArray, List.set]
        refine PhaseIn.one (i := 19) (by kernel_rfl) rfl (by kernel_rfl) (fun K hK => ?_)
        unfold Oper.wpIn
        refine ⟨fun _ _ => trivial, ?_⟩
        go_simp
        have bP : Below dd.heap.size dd (dd.alloc (.cells #[.int .u8 (kd % 256), .int .u8 (ox % 256), .int .u8 (oy % 256), .int .u8 (ok / 256), .int .u8 (ok % 256), .int .u8 (ot % 256)] 5)) := (Below.refl _ _).alloc (Nat.le_refl _) _
        have RZ : Hid (Rec dd.heap.size (valsY (opY ⟨kd, ox, oy, ok, ot⟩)) (dd.alloc (.cells #[.int .u8 (kd % 256), .int .u8 (ox % 256), .int .u8 (oy % 256), .int .u8 (ok / 256), .int .u8 (ok % 256), .int .u8 (ot % 256)] 5))) := Rec.new dd (valsY [kd % 256, ox % 256, oy % 256, ok / 256, ok % 256, ot % 256]) 5
        replace OY := hide (OY.out.below bP)
        replace RA := hide (RA.out.below bP)
        replace BW := hide (BW.out.trans (bP.mono BW.out.size))
        refine hK _ _ (fun _ => hHeld.below bP) ?_
        clear hK K bP hHeld
        try simp only [Act.put, List.setIfInBounds_toArray, List.set]
        generalize dd.alloc (.cells #[.int .u8 (kd % 256), .int .u8 (ox % 256), .int .u8 (oy % 256), .int .u8 (ok / 256), .int .u8 (ok % 256), .int .u8 (ot % 256)] 5) = V at RZ OY RA BW ⊢
        generalize dd.heap.size = Zb at RZ ⊢
        obtain ⟨q4', c4', w5, T4, hrun, O4, T4t, -, hlT4, -⟩ := run_joinY (ty := 22) (zs := opY ⟨kd, ox, oy, ok, ot⟩) (m := 6) OY.out (by have := LB.out; omega) (by have := RA.out.lt; omega) Zb RZ.out rfl (by decide) (by decide)
        have RA4 := hide (RA.out.turn T4t (by omega))
        have BW4 := hide (BW.out.trans (T4t.below (by omega) BW.out.size))
        have EL : ys.length + 6 = (ys ++ opY ⟨kd, ox, oy, ok, ot⟩).length := by rw [List.length_append]; rfl
        have OY4 : Hid (OwnY w5 (w.heap.size + 1) (.slice q4' (ys ++ opY ⟨kd, ox, oy, ok, ot⟩).length c4') (ys ++ opY ⟨kd, ox, oy, ok, ot⟩)) := by
          have h := O4
          rw [EL] at h
          exact h
        have EY2 : Hid (ys ++ opY ⟨kd, ox, oy, ok, ot⟩ = [pc % 256, ln % 256, en % 256, x % 256, y % 256, k / 256, k % 256] ++ opsY (ops.take (j + 1))) := show _ = _ by rw [NX.out, EY.out, List.append_assoc]
        refine PhaseIn.one (i := 20) (by kernel_rfl) rfl (by kernel_rfl) (fun K hK => ?_)
        refine push_in _ _ rfl rfl rfl hrun ?_
        refine hK _ _ (fun h => absurd h (by decide)) ?_
        clear hK K hrun O4 T4t OY RA BW RZ
        try simp only [Act.put, List.setIfInBounds_toArray, List.set]
        rw [EL]
        clear EL
        refine PhaseIn.late (i := 21) (v := ?_) (by kernel_rfl) rfl 3 (by rfl) (by omega) (Or.inl ⟨by kernel_rfl, ?_⟩) ?_
        rotate_left
        · intro w' hSw
          go_simp
          first | done | with_reducible rfl
        try simp only [Act.put, List.setIfInBounds_toArray, List.set]
        refine PhaseIn.done (by kernel_rfl) ?_ _
        go_wp2
        exact ⟨⟨j + 1, c4', q4', _, by omega, by go_num, by rw [List.length_append], EY2, OY4, BW4, RA4⟩, by simp [intOf]; omega⟩
      · have lk : ¬ ((j : Nat) : Int) < (n : Nat) := by omega
        have ej : j = ops.length := by rw [EN.out]; omega
        have E2 : ys = R := by
          rw [EY.out, ej, List.take_length, YES.out]
          rfl
        have FIN2 : Hid (∃ B, BytS.WRow wr B (.slice qk ys.length ck) ys ∧ (ys = [] ∨ w.heap.size ≤ B)) := by
          obtain ⟨B, f1, f2⟩ := OY.out.wrow
          exact ⟨B, f1, f2.imp id (fun h => by omega)⟩
        subst E2
        clear OY EY LB RA HR YES
        go_wp2
        go_ret
        exact ⟨qk, ck, rfl, FIN2.out, BW.out⟩
end Go.Proofs.YtkeelacobknfbaaDoor.Wr
