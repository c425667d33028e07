/-
  Bytes: IrBytes, the specification's and the program's.
-/
import Derived.Test.YtkeelacobknfbaaDoorWrB
import Derived.Test.YtkeelacobknfbaaDoorIrIo
namespace Go.Proofs.YtkeelacobknfbaaDoor.Wr
set_option linter.unusedVariables false
set_option linter.unusedSimpArgs false
open Go.ChangeShapes Go.WideShapes Go.ChangeAt Go.RowKit IntS Flat
open Ir Push
open Mch (Rec)
def Tbs (w : World) : Prop := Tb w 0 opL ∧ Tb w 1 enL
theorem Tbs.below {w w' : World} (h : Tbs w) (hb : Below w.heap.size w w') : Tbs w' := ⟨h.1.below hb, h.2.below hb⟩
theorem wrapY (n : Int) : IntKind.u8.wrap n = n % 256 := by simp [IntKind.wrap, IntKind.bits, IntKind.signed]
theorem lenBytes (b : Bk) : (bytesB b).length ≤ 7 + 6 * b.ops.length := by
  unfold bytesB
  split
  · rw [List.length_append, opsY_len]
    have : (headY b).length = 7 := rfl
    omega
  · exact Nat.zero_le _
set_option maxRecDepth 8000 in
set_option maxHeartbeats 16000000 in
theorem specBytes (b : Bk) (cs : List Value) (w : World) (h : RBk w cs b) :
    Calls Tryd.prog 18 #[.agg cs.toArray] w fun e w' => ∃ q cap, e = .returned (.slice q (bytesB b).length cap) ∧ (∃ B, BytS.WRow w' B (.slice q (bytesB b).length cap) (bytesB b) ∧ (bytesB b = [] ∨ w.heap.size ≤ B)) ∧ Below w.heap.size w w' := by
  obtain ⟨q, c, B, rfl, hr⟩ := h
  have NO : Hid (okB b = false → bytesB b = []) := fun e => by show bytesB _ = _; unfold bytesB; rw [e]; rfl
  have YES : Hid (okB b = true → bytesB b = headY b ++ opsY b.ops) := fun e => by show bytesB _ = _; unfold bytesB; rw [if_pos e]
  obtain ⟨R, eR⟩ : ∃ R, bytesB b = R := ⟨_, rfl⟩
  rw [eR] at NO YES ⊢
  have OPN : Hid (okB b = true → b.ops.length ≤ 48 ∧ (∀ (i : Nat) o, b.ops[i]? = some o → 0 ≤ o.k ∧ o.k < 65536) ∧ 0 ≤ b.k ∧ b.k < 65536) := fun e => by
    obtain ⟨_, h1, h2, h3⟩ := ok_open e
    exact ⟨h1, fun i o ho => op_k (h2 i o ho), end_k h3⟩
  obtain ⟨pc, ln, ops, en, x, y, k⟩ := b
  obtain ⟨n, en_⟩ : ∃ n, ops.length = n := ⟨_, rfl⟩
  simp only [bv] at *
  have b1 : Below w.heap.size w (w.alloc (.cells #[.int .i64 pc, .int .i64 ln, .slice q n c, .int .i64 en, .int .i64 x, .int .i64 y, .int .i64 k] 25)) := (Below.refl _ _).alloc (Nat.le_refl _) _
  have RA := hide (Rec.new w [.int .i64 pc, .int .i64 ln, .slice q n c, .int .i64 en, .int .i64 x, .int .i64 y, .int .i64 k] 25)
  have HR0 := hide hr
  have HR := hide (hr.below b1)
  have BW := hide b1
  have EN := hide en_
  rw [en_] at HR HR0 ⊢
  clear b1 hr en_ eR
  go_enter Tryd.func18, Tryd.ntmps18
  go_wp2_with fail
  generalize w.alloc (.cells #[.int .i64 pc, .int .i64 ln, .slice q n c, .int .i64 en, .int .i64 x, .int .i64 y, .int .i64 k] 25) = W0 at RA HR BW ⊢
  refine (specIrOk ⟨pc, ln, ops, en, x, y, k⟩ [.int .i64 pc, .int .i64 ln, .slice q n c, .int .i64 en, .int .i64 x, .int .i64 y, .int .i64 k] W0 ⟨q, c, B, by unfold bv; rw [EN.out], by rw [EN.out]; exact HR.out⟩).mono ?_
  rintro e u1 ⟨rfl, hb⟩
  replace RA := hide (RA.out.below hb)
  replace BW := hide (BW.out.trans (hb.mono BW.out.size))
  clear hb HR
  obtain ⟨bo, eo⟩ : ∃ z, okB (⟨pc, ln, ops, en, x, y, k⟩ : Bk) = z := ⟨_, rfl⟩
  rw [eo] at NO YES OPN ⊢
  clear eo
  cases bo with
  | false =>
    obtain rfl := NO.out rfl
    have bE := (Below.refl _ u1).alloc (Nat.le_refl _) (.cells #[] 5)
    have FIN := hide (OwnY.fresh u1 w.heap.size [] BW.out.size (by unfold maxLen; simp)).wrow
    replace BW := hide (BW.out.trans (bE.mono BW.out.size))
    clear RA HR0 NO YES OPN bE
    go_wp2
    go_ret
    first | exact ⟨_, 0, rfl, FIN.out, BW.out⟩ | exact ⟨_, 0, rfl, (let ⟨B, h, _⟩ := FIN.out; ⟨B, h⟩), BW.out⟩
  | true =>
    replace YES := hide (YES.out rfl)
    obtain ⟨h48, opk, k0, k1⟩ := OPN.out rfl
    try simp only [] at h48 opk k0 k1
    have OPK := hide opk
    have n48 : n ≤ 48 := by rw [EN.out] at h48; exact h48
    have KK : Hid (0 ≤ k ∧ k < 65536) := ⟨k0, k1⟩
    clear NO OPN opk h48 k0 k1
    have z0 := RA.out.cell 0 _ rfl
    have z1 := RA.out.cell 1 _ rfl
    have z3 := RA.out.cell 3 _ rfl
    have z4 := RA.out.cell 4 _ rfl
    have z5 := RA.out.cell 5 _ rfl
    have bH := (Below.refl _ u1).alloc (Nat.le_refl _) (.cells #[.int .u8 (pc % 256), .int .u8 (ln % 256), .int .u8 (en % 256), .int .u8 (x % 256), .int .u8 (y % 256)] 5)
    have O5 : Hid (OwnY (u1.alloc (.cells #[.int .u8 (pc % 256), .int .u8 (ln % 256), .int .u8 (en % 256), .int .u8 (x % 256), .int .u8 (y % 256)] 5)) (w.heap.size + 1) (.slice (some ⟨u1.heap.size, 0, none⟩) 5 5) [pc % 256, ln % 256, en % 256, x % 256, y % 256]) := OwnY.fresh u1 (w.heap.size + 1) [pc % 256, ln % 256, en % 256, x % 256, y % 256] RA.out.lt (by unfold maxLen; simp)
    replace RA := hide (RA.out.below bH)
    replace BW := hide (BW.out.trans (bH.mono BW.out.size))
    have z6 := RA.out.cell 6 _ rfl
    clear bH
    go_wp2_with fail
    clear z0 z1 z3 z4 z5 z6
    generalize u1.alloc (.cells #[.int .u8 (pc % 256), .int .u8 (ln % 256), .int .u8 (en % 256), .int .u8 (x % 256), .int .u8 (y % 256)] 5) = V1 at O5 RA BW ⊢
    refine (l11Two k (w.heap.size + 1) 5 5 _ [pc % 256, ln % 256, en % 256, x % 256, y % 256] V1 O5.out RA.out.lt (by simp) KK.out.1 KK.out.2).mono ?_
    rintro e u2 ⟨q7, c7, T, rfl, O7, TT, -, hlT, -⟩
    have OY : Hid (OwnY u2 (w.heap.size + 1) (.slice q7 7 c7) [pc % 256, ln % 256, en % 256, x % 256, y % 256, k / 256, k % 256]) := O7
    replace RA := hide (RA.out.turn TT (by omega))
    replace BW := hide (BW.out.trans (TT.below (by omega) BW.out.size))
    clear O7 TT O5 hlT
    go_wp2
    go_loopw [3, 4] (fun s i wr => ∃ (j ck : Nat) (qk : Option Addr) (ys : List Int), j ≤ n ∧ i = .int .i64 j ∧ s = .slice qk ys.length ck ∧ Hid (ys = [pc % 256, ln % 256, en % 256, x % 256, y % 256, k / 256, k % 256] ++ opsY (ops.take j)) ∧ Hid (OwnY wr (w.heap.size + 1) (.slice qk ys.length ck) ys) ∧ Hid (Below w.heap.size w wr) ∧ Hid (Rec w.heap.size [.int .i64 pc, .int .i64 ln, .slice q n c, .int .i64 en, .int .i64 x, .int .i64 y, .int .i64 k] wr)) (fun _ i _ => n - (intOf i).toNat)
    case atStart => exact ⟨0, _, _, [pc % 256, ln % 256, en % 256, x % 256, y % 256, k / 256, k % 256], by omega, rfl, rfl, by simp [opsY, hide], OY, BW, RA⟩
    case round =>
      clear OY BW RA
      obtain ⟨j, ck, qk, ys, hj, rfl, rfl, EY, OY, BW, RA⟩ := hrel
      have jl : j ≤ ops.length := by rw [EN.out]; exact hj
      have LB : Hid (ys.length = 7 + 6 * j) := show _ = _ by rw [EY.out, List.length_append, opsY_len, List.length_take, Nat.min_eq_left jl]; simp; omega
      have SW : Hid (w.heap.size < wr.heap.size) := RA.out.lt
      have z2 := RA.out.cell 2 _ rfl
      have HR := hide (HR0.out.below BW.out)
      by_cases hlt : j < n
      · have hlt2 := hlt
        obtain ⟨o, et⟩ : ∃ o, ops[j]? = some o := ⟨_, List.getElem?_eq_getElem (by rw [EN.out]; exact hlt)⟩
        obtain ⟨qa, qc, qo, qe, q2, q3, -, q4⟩ := HR.out.ex
        rw [EN.out] at qe
        cases qe
        unfold maxLen at q3
        obtain ⟨rfl, q5⟩ := q4.resolve_left (fun e => by rw [e] at et; simp at et)
        obtain ⟨c0, ca, cb, cc, cd⟩ := q5 j o et
        have NX := hide (opsY_next et)
        have OK := hide (OPK.out j o et)
        rw [EN.out] at q2
        obtain ⟨kd, ox, oy, ok, ot⟩ := o
        simp only [] at c0 ca cb cc cd OK NX
        have QL : Hid (∀ G, qk = some ⟨G, 0, none⟩ → G < wr.heap.size) := fun G e => by
          rcases OY.out.form with ⟨h, _⟩ | ⟨G', h, _, h3⟩
          · rw [h] at e; cases e
          · rw [h] at e; cases e; exact h3
        have RO := hide (Rec.new wr [.int .i64 kd, .int .i64 ox, .int .i64 oy, .int .i64 ok, .int .i64 ot] 51)
        have bo : Below wr.heap.size wr (wr.alloc (.cells #[.int .i64 kd, .int .i64 ox, .int .i64 oy, .int .i64 ok, .int .i64 ot] 51)) := (Below.refl _ _).alloc (Nat.le_refl _) _
        replace OY := hide (OY.out.below bo)
        replace RA := hide (RA.out.below bo)
        replace BW := hide (BW.out.trans (bo.mono BW.out.size))
        have lk : ((j : Nat) : Int) < (n : Nat) := by omega
        clear bo q4 q5 et HR
        have o0 := RO.out.cell 0 _ rfl
        have o1 := RO.out.cell 1 _ rfl
        have o2 := RO.out.cell 2 _ rfl
        have bP : Below (wr.alloc (.cells #[.int .i64 kd, .int .i64 ox, .int .i64 oy, .int .i64 ok, .int .i64 ot] 51)).heap.size (wr.alloc (.cells #[.int .i64 kd, .int .i64 ox, .int .i64 oy, .int .i64 ok, .int .i64 ot] 51)) ((wr.alloc (.cells #[.int .i64 kd, .int .i64 ox, .int .i64 oy, .int .i64 ok, .int .i64 ot] 51)).alloc (.cells #[.int .u8 (kd % 256), .int .u8 (ox % 256), .int .u8 (oy % 256)] 5)) := (Below.refl _ _).alloc (Nat.le_refl _) _
        have NB := Rec.new (wr.alloc (.cells #[.int .i64 kd, .int .i64 ox, .int .i64 oy, .int .i64 ok, .int .i64 ot] 51)) (valsY [kd % 256, ox % 256, oy % 256]) 5
        obtain ⟨q2', c2', w2, T, hrun, O2, TT, hT, hlT, hG⟩ := run_joinY (ty := 22) (zs := [kd % 256, ox % 256, oy % 256]) (m := 3) (OY.out.below bP) (by have := LB.out; omega) (by rw [World.size_alloc]; have := RA.out.lt; omega) (wr.alloc (.cells #[.int .i64 kd, .int .i64 ox, .int .i64 oy, .int .i64 ok, .int .i64 ot] 51)).heap.size NB rfl (by decide) (by decide)
        change (Builtin.append_ #[22, 22] 22 #[.slice qk ys.length ck, .slice (some ⟨(wr.alloc (.cells #[.int .i64 kd, .int .i64 ox, .int .i64 oy, .int .i64 ok, .int .i64 ot] 51)).heap.size, 0, none⟩) 3 3]).run Tryd.prog ((wr.alloc (.cells #[.int .i64 kd, .int .i64 ox, .int .i64 oy, .int .i64 ok, .int .i64 ot] 51)).alloc (.cells #[.int .u8 (kd % 256), .int .u8 (ox % 256), .int .u8 (oy % 256)] 5)) = _ at hrun
        have XT : wr.heap.size ≠ T := by
          rcases hT with hT | hT
          · have := QL.out T hT; omega
          · rw [hT, World.size_alloc]; have := RO.out.lt; omega
        have RO2 := hide ((RO.out.below bP).turn TT XT)
        have RA2 := hide ((RA.out.below bP).turn TT (by omega))
        have BW2 := hide ((BW.out.trans (bP.mono BW.out.size)).trans (TT.below (by omega) (by rw [World.size_alloc]; have := BW.out.size; omega)))
        have QL2 : Hid (∀ G, q2' = some ⟨G, 0, none⟩ → G ≠ wr.heap.size) := fun G e h => by
          rcases hG G e with h2 | h2
          · have := QL.out G h2; omega
          · rw [World.size_alloc] at h2; have := RO.out.lt; omega
        have OY2 := hide O2
        simp only [World.size_alloc] at hrun
        clear bP NB TT hT hlT hG XT O2 RO RA BW OY QL
        go_wp2_with (at_builtin; refine push_list rfl _ _ rfl rfl rfl hrun ?_; refine Hid.out ?_)
        clear c0 ca cb cc cd z2
        obtain ⟨X, eX⟩ : ∃ z, wr.heap.size = z := ⟨_, rfl⟩
        rw [eX] at RO2 QL2 SW ⊢
        clear eX
        clear hrun o0 o1 o2
        refine hide ?_
        go_wp2_with fail
        refine (wpIn_wide (n := 0)).1 ?_
        have bA : Below w2.heap.size w2 w2.drew := (Below.refl _ _).drew
        replace RO2 := hide (RO2.out.below bA)
        replace RA2 := hide (RA2.out.below bA)
        replace OY2 := hide (OY2.out.below bA)
        replace BW2 := hide (BW2.out.trans (bA.mono BW2.out.size))
        clear bA
        refine PhaseIn.region (S := fun v => Rec X [.int .i64 kd, .int .i64 ox, .int .i64 oy, .int .i64 ok, .int .i64 ot] v) 8 (by kernel_rfl) ?_
        generalize w2.drew = d1 at RO2 RA2 OY2 BW2 ⊢
        have hHeld : Rec X [.int .i64 kd, .int .i64 ox, .int .i64 oy, .int .i64 ok, .int .i64 ot] d1 := RO2.out
        clear RO2
        refine PhaseIn.takeD (i := 0) (v := ?_) [0, 3, 8, 9] 54 rfl (by rfl) (by kernel_rfl) (by kernel_rfl) (by kernel_rfl) (by kernel_rfl) (by kernel_rfl) (fun _ _ _ h => h) (Or.inl ⟨by kernel_rfl, ?_⟩) hHeld ?_
        rotate_left
        · intro w' hSw
          (try dsimp only at hSw)
          go_simp
          first | done | with_reducible rfl
        try simp only [Act.put, List.setIfInBounds_toArray, List.set]
        refine PhaseIn.takeD (i := 1) (v := ?_) [1, 2, 3, 8, 9] 55 rfl (by rfl) (by kernel_rfl) (by kernel_rfl) (by kernel_rfl) (by kernel_rfl) (by kernel_rfl) (fun _ _ _ h => h) (Or.inl ⟨by kernel_rfl, ?_⟩) hHeld ?_
        rotate_left
        · intro w' hSw
          (try dsimp only at hSw)
          go_simp
          first | done | with_reducible rfl
        try simp only [Act.put, List.setIfInBounds_toArray, List.set]
        refine PhaseIn.takeD (i := 2) (v := ?_) [2, 3, 8, 9] 56 rfl (by rfl) (by kernel_rfl) (by kernel_rfl) (by kernel_rfl) (by kernel_rfl) (by kernel_rfl) (fun _ _ _ h => h) (Or.inl ⟨by kernel_rfl, ?_⟩) hHeld ?_
        rotate_left
        · intro w' hSw
          (try dsimp only at hSw)
          have o3 := hSw.cell 3 _ rfl
          go_simp
          first | done | with_reducible rfl
        try simp only [Act.put, List.setIfInBounds_toArray, List.set]
        refine PhaseIn.takeD (i := 4) (v := ?_) [4, 5, 6, 7, 8, 9] 58 rfl (by rfl) (by kernel_rfl) (by kernel_rfl) (by kernel_rfl) (by kernel_rfl) (by kernel_rfl) (fun _ _ _ h => h) (Or.inl ⟨by kernel_rfl, ?_⟩) hHeld ?_
        rotate_left
        · intro w' hSw
          (try dsimp only at hSw)
          go_simp
          first | done | with_reducible rfl
        try simp only [Act.put, List.setIfInBounds_toArray, List.set]
        refine PhaseIn.takeD (i := 5) (v := ?_) [5, 6, 7, 8, 9] 59 rfl (by rfl) (by kernel_rfl) (by kernel_rfl) (by kernel_rfl) (by kernel_rfl) (by kernel_rfl) (fun _ _ _ h => h) (Or.inl ⟨by kernel_rfl, ?_⟩) hHeld ?_
        rotate_left
        · intro w' hSw
          (try dsimp only at hSw)
          have o4 := hSw.cell 4 _ rfl
          go_simp
          first | done | with_reducible rfl
        try simp only [Act.put, List.setIfInBounds_toArray, List.set]
        refine PhaseIn.takeD (i := 6) (v := ?_) [6, 7, 8, 9] 60 rfl (by rfl) (by kernel_rfl) (by kernel_rfl) (by kernel_rfl) (by kernel_rfl) (by kernel_rfl) (fun _ _ _ h => h) (Or.inl ⟨by kernel_rfl, ?_⟩) hHeld ?_
        rotate_left
        · intro w' hSw
          (try dsimp only at hSw)
          go_simp
          first | done | with_reducible rfl
        try simp only [Act.put, List.setIfInBounds_toArray, List.set]
        simp only [wrapY]
        refine PhaseIn.two (i := 3) (j := 7) (by kernel_rfl) rfl rfl (by kernel_rfl) (by kernel_rfl) (fun K hK => ?_) (fun K hK => ?_)
        · -- the call first
          unfold Oper.wpIn
          refine ⟨fun _ _ => trivial, ?_⟩
          go_simp
          refine ⟨rfl, (callsIn_wide.2 (l11Two ok (w.heap.size + 1) (ys.length + 3) c2' q2' (ys ++ [kd % 256, ox % 256, oy % 256]) _ OY2.out (by have := RA2.out.lt; omega) (by rw [List.length_append]; have := LB.out; simp; omega) OK.out.1 OK.out.2)).mono ?_⟩
          rintro e d2 ⟨q3', c3', T, rfl, O3, TT, hT, hlT, hG⟩
          have XT : X ≠ T := by
            rcases hT with hT | hT
            · exact fun e => QL2.out T hT e.symm
            · have := hHeld.lt; omega
          replace hHeld := hHeld.turn TT XT
          have OY3 := hide O3
          have RA3 := hide (RA2.out.turn TT (by omega))
          have BW3 := hide (BW2.out.trans (TT.below (by omega) BW2.out.size))
          refine hK _ _ (fun _ => hHeld) ?_
          clear hK K O3 TT hT hlT hG XT OY2 RA2 BW2
          try simp only [Act.put, List.setIfInBounds_toArray, List.set]
          refine PhaseIn.one (i := 7) (by kernel_rfl) rfl (by kernel_rfl) (fun K hK => ?_)
          unfold Oper.wpIn
          refine ⟨fun _ _ => trivial, ?_⟩
          go_simp
          have bP : Below d2.heap.size d2 (d2.alloc (.cells #[.int .u8 (ot % 256)] 5)) := (Below.refl _ _).alloc (Nat.le_refl _) _
          have RZ : Hid (Rec d2.heap.size (valsY [ot % 256]) (d2.alloc (.cells #[.int .u8 (ot % 256)] 5))) := Rec.new d2 (valsY [ot % 256]) 5
          replace hHeld := hHeld.below bP
          replace OY3 := hide (OY3.out.below bP)
          replace RA3 := hide (RA3.out.below bP)
          replace BW3 := hide (BW3.out.trans (bP.mono BW3.out.size))
          refine hK _ _ (fun _ => hHeld) ?_
          clear hK K bP
          try simp only [Act.put, List.setIfInBounds_toArray, List.set]
          generalize d2.alloc (.cells #[.int .u8 (ot % 256)] 5) = V at RZ hHeld OY3 RA3 BW3 ⊢
          generalize d2.heap.size = Zb at RZ ⊢
          have bQ := World.block_lt_of_cell? V _ (RZ.out.cell 0 _ rfl)
          obtain ⟨q4', c4', w5, T4, hrun, O4, T4t, -, hlT4, -⟩ := run_joinY (ty := 22) (zs := [ot % 256]) (m := 1) OY3.out (by simp only [List.length_append]; have := LB.out; simp; omega) (by have := RA3.out.lt; omega) Zb RZ.out rfl (by decide) (by decide)
          have RA4 := hide (RA3.out.turn T4t (by omega))
          have BW4 := hide (BW3.out.trans (T4t.below (by omega) BW3.out.size))
          have OY4 : Hid (OwnY w5 (w.heap.size + 1) (.slice q4' (ys ++ opY ⟨kd, ox, oy, ok, ot⟩).length c4') (ys ++ opY ⟨kd, ox, oy, ok, ot⟩)) := by
            have h := O4
            rw [List.append_assoc, List.append_assoc] at h
            have e : ys.length + 3 + 2 + 1 = (ys ++ opY ⟨kd, ox, oy, ok, ot⟩).length := by rw [List.length_append]; rfl
            rw [e] at h
            exact h
          have EY2 : Hid (ys ++ opY ⟨kd, ox, oy, ok, ot⟩ = [pc % 256, ln % 256, en % 256, x % 256, y % 256, k / 256, k % 256] ++ opsY (ops.take (j + 1))) := show _ = _ by rw [NX.out, EY.out, List.append_assoc]
          have EL : ys.length + 3 + 2 + 1 = (ys ++ opY ⟨kd, ox, oy, ok, ot⟩).length := by rw [List.length_append]; rfl
          refine PhaseIn.one (i := 8) (by kernel_rfl) rfl (by kernel_rfl) (fun K hK => ?_)
          refine push_in _ _ rfl rfl rfl hrun ?_
          refine hK _ _ (fun h => absurd h (by decide)) ?_
          clear hK K hrun O4 T4t hHeld OY3 RA3 BW3 RZ
          try simp only [Act.put, List.setIfInBounds_toArray, List.set]
          rw [EL]
          clear EL
          refine PhaseIn.late (i := 9) (v := ?_) (by kernel_rfl) rfl 3 (by rfl) (by omega) (Or.inl ⟨by kernel_rfl, ?_⟩) ?_
          rotate_left
          · intro w' hSw
            go_simp
            first | done | with_reducible rfl
          try simp only [Act.put, List.setIfInBounds_toArray, List.set]
          refine PhaseIn.done (by kernel_rfl) ?_ _
          go_wp2
          exact ⟨⟨j + 1, c4', q4', _, by omega, by go_num, by rw [List.length_append], EY2, OY4, BW4, RA4⟩, by simp [intOf]; omega⟩
        · -- the row first
          unfold Oper.wpIn
          refine ⟨fun _ _ => trivial, ?_⟩
          go_simp
          have bP : Below d1.heap.size d1 (d1.alloc (.cells #[.int .u8 (ot % 256)] 5)) := (Below.refl _ _).alloc (Nat.le_refl _) _
          have RZ : Hid (Rec d1.heap.size (valsY [ot % 256]) (d1.alloc (.cells #[.int .u8 (ot % 256)] 5))) := Rec.new d1 (valsY [ot % 256]) 5
          have ZG : Hid (∀ G, q2' = some ⟨G, 0, none⟩ → G < d1.heap.size) := fun G e => by
            rcases OY2.out.form with ⟨h, _⟩ | ⟨G', h, _, h3⟩
            · rw [h] at e; cases e
            · rw [h] at e; cases e; exact h3
          replace hHeld := hHeld.below bP
          replace OY2 := hide (OY2.out.below bP)
          replace RA2 := hide (RA2.out.below bP)
          replace BW2 := hide (BW2.out.trans (bP.mono BW2.out.size))
          refine hK _ _ (fun _ => hHeld) ?_
          clear hK K bP
          try simp only [Act.put, List.setIfInBounds_toArray, List.set]
          generalize d1.alloc (.cells #[.int .u8 (ot % 256)] 5) = V at RZ hHeld OY2 RA2 BW2 ⊢
          generalize d1.heap.size = Zb at RZ ZG ⊢
          refine PhaseIn.one (i := 3) (by kernel_rfl) rfl (by kernel_rfl) (fun K hK => ?_)
          unfold Oper.wpIn
          refine ⟨fun _ _ => trivial, ?_⟩
          go_simp
          refine ⟨rfl, (callsIn_wide.2 (l11Two ok (w.heap.size + 1) (ys.length + 3) c2' q2' (ys ++ [kd % 256, ox % 256, oy % 256]) _ OY2.out (by have := RA2.out.lt; omega) (by rw [List.length_append]; have := LB.out; simp; omega) OK.out.1 OK.out.2)).mono ?_⟩
          rintro e d2 ⟨q3', c3', T, rfl, O3, TT, hT, hlT, hG⟩
          have XT : X ≠ T := by
            rcases hT with hT | hT
            · exact fun e => QL2.out T hT e.symm
            · have := hHeld.lt; omega
          have ZT : Zb ≠ T := by
            rcases hT with hT | hT
            · have := ZG.out T hT; omega
            · have := RZ.out.lt; omega
          replace hHeld := hHeld.turn TT XT
          replace RZ := hide (RZ.out.turn TT ZT)
          have OY3 := hide O3
          have RA3 := hide (RA2.out.turn TT (by omega))
          have BW3 := hide (BW2.out.trans (TT.below (by omega) BW2.out.size))
          refine hK _ _ (fun _ => hHeld) ?_
          clear hK K O3 TT hT hlT hG XT ZT ZG OY2 RA2 BW2
          try simp only [Act.put, List.setIfInBounds_toArray, List.set]
          have bQ := World.block_lt_of_cell? d2 _ (RZ.out.cell 0 _ rfl)
          obtain ⟨q4', c4', w5, T4, hrun, O4, T4t, -, hlT4, -⟩ := run_joinY (ty := 22) (zs := [ot % 256]) (m := 1) OY3.out (by simp only [List.length_append]; have := LB.out; simp; omega) (by have := RA3.out.lt; omega) Zb RZ.out rfl (by decide) (by decide)
          have RA4 := hide (RA3.out.turn T4t (by omega))
          have BW4 := hide (BW3.out.trans (T4t.below (by omega) BW3.out.size))
          have OY4 : Hid (OwnY w5 (w.heap.size + 1) (.slice q4' (ys ++ opY ⟨kd, ox, oy, ok, ot⟩).length c4') (ys ++ opY ⟨kd, ox, oy, ok, ot⟩)) := by
            have h := O4
            rw [List.append_assoc, List.append_assoc] at h
            have e : ys.length + 3 + 2 + 1 = (ys ++ opY ⟨kd, ox, oy, ok, ot⟩).length := by rw [List.length_append]; rfl
            rw [e] at h
            exact h
          have EY2 : Hid (ys ++ opY ⟨kd, ox, oy, ok, ot⟩ = [pc % 256, ln % 256, en % 256, x % 256, y % 256, k / 256, k % 256] ++ opsY (ops.take (j + 1))) := show _ = _ by rw [NX.out, EY.out, List.append_assoc]
          have EL : ys.length + 3 + 2 + 1 = (ys ++ opY ⟨kd, ox, oy, ok, ot⟩).length := by rw [List.length_append]; rfl
          refine PhaseIn.one (i := 8) (by kernel_rfl) rfl (by kernel_rfl) (fun K hK => ?_)
          refine push_in _ _ rfl rfl rfl hrun ?_
          refine hK _ _ (fun h => absurd h (by decide)) ?_
          clear hK K hrun O4 T4t hHeld OY3 RA3 BW3 RZ
          try simp only [Act.put, List.setIfInBounds_toArray, List.set]
          rw [EL]
          clear EL
          refine PhaseIn.late (i := 9) (v := ?_) (by kernel_rfl) rfl 3 (by rfl) (by omega) (Or.inl ⟨by kernel_rfl, ?_⟩) ?_
          rotate_left
          · intro w' hSw
            go_simp
            first | done | with_reducible rfl
          try simp only [Act.put, List.setIfInBounds_toArray, List.set]
          refine PhaseIn.done (by kernel_rfl) ?_ _
          go_wp2
          exact ⟨⟨j + 1, c4', q4', _, by omega, by go_num, by rw [List.length_append], EY2, OY4, BW4, RA4⟩, by simp [intOf]; omega⟩
      · have lk : ¬ ((j : Nat) : Int) < (n : Nat) := by omega
        have ej : j = ops.length := by rw [EN.out]; omega
        have E2 : ys = R := by
          rw [EY.out, ej, List.take_length, YES.out]
          rfl
        have FIN2 : Hid (∃ B, BytS.WRow wr B (.slice qk ys.length ck) ys ∧ (ys = [] ∨ w.heap.size ≤ B)) := by
          obtain ⟨B, f1, f2⟩ := OY.out.wrow
          exact ⟨B, f1, f2.imp id (fun h => by omega)⟩
        subst E2
        clear OY EY LB RA HR YES
        go_wp2
        go_ret
        exact ⟨qk, ck, rfl, FIN2.out, BW.out⟩
end Go.Proofs.YtkeelacobknfbaaDoor.Wr
