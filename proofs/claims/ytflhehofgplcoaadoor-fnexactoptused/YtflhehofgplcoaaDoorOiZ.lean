/-
  Our own hand, the program's OptUsed.
-/
import Derived.Test.YtflhehofgplcoaaDoorJnB
import Derived.Test.YtflhehofgplcoaaDoorOsU
import Derived.Test.YtflhehofgplcoaaDoorBooS
namespace Go.Proofs.YtflhehofgplcoaaDoor.Op
set_option linter.unusedVariables false
set_option linter.unusedSimpArgs false
open Go.ChangeShapes Go.WideShapes Go.ChangeAt Go.RowKit IntS Flat Irk
open Ir Dt
open Mch (Rec)
open Push
theorem OwnL.nil (w : World) (lo : Nat) : OwnL w lo (.slice none 0 0) [] := ⟨rfl, Or.inl ⟨rfl, rfl⟩⟩
theorem OwnL.wrow {w : World} {lo cap : Nat} {q : Option Addr} {bs : List Bool} (h : OwnL w lo (.slice q bs.length cap) bs) : ∃ B, BooS.WRow w B (.slice q bs.length cap) bs ∧ (bs = [] ∨ lo ≤ B) := by
  have h0 := h
  obtain ⟨hl, ⟨hv, h2⟩ | ⟨g', cap', cur, hv, _⟩⟩ := h
  · have e0 : bs = [] := by
      injection hv with _ e _
      exact List.length_eq_zero_iff.1 e
    subst e0
    cases hv
    exact ⟨0, ⟨none, 0, 0, rfl, Nat.le_refl _, by unfold maxLen; omega, fun _ => rfl, Or.inl rfl⟩, Or.inl rfl⟩
  · cases hv
    obtain ⟨f1, f2⟩ := OwnL.form h0
    exact ⟨g', ⟨_, cap, 0, rfl, f2.le, f2.mx, (fun h => by cases h), Or.inr ⟨rfl, f2.lt, fun i x hx => by rw [Nat.zero_add]; exact f2.at_ i x hx⟩⟩, Or.inr f1⟩
theorem Bw.wrow {w : World} {g n cap : Nat} {bs : List Bool} (h : Bw w g n cap bs) : BooS.WRow w g (.slice (some ⟨g, 0, none⟩) n cap) bs := by
  have hl := h.len
  subst hl
  exact ⟨_, cap, 0, rfl, h.le, h.mx, (fun h => by cases h), Or.inr ⟨rfl, h.lt, fun i x hx => by rw [Nat.zero_add]; exact h.at_ i x hx⟩⟩
theorem used_len (b : Bk) : (usedL b).length = b.ops.length := by unfold usedL; rw [usedD_len, used0_len]
set_option maxRecDepth 8000 in
set_option maxHeartbeats 16000000 in
theorem implUsed (b : Bk) (cs : List Value) (w : World) (h : RBk w cs b) (ht : Tbs w) :
    Calls Tryd.prog 15 #[.agg cs.toArray] w fun e w' => ∃ q cap, e = .returned (.slice q (usedB b).length cap) ∧ OwnL w' w.heap.size (.slice q (usedB b).length cap) (usedB b) ∧ Below w.heap.size w w' := by
  obtain ⟨q, c, B, rfl, hr⟩ := h
  have NO : Hid (okB b = false → usedB b = []) := fun e => by show usedB _ = _; unfold usedB; rw [e]; rfl
  have YES : Hid (okB b = true → usedB b = usedL b) := fun e => by show usedB _ = _; unfold usedB; rw [if_pos e]
  obtain ⟨R, eR⟩ : ∃ R, usedB b = R := ⟨_, rfl⟩
  rw [eR] at NO YES ⊢
  clear eR
  have UL := hide (used_len b)
  obtain ⟨ul, eul⟩ : ∃ z, usedL b = z := ⟨_, rfl⟩
  have EUL := hide eul
  rw [eul] at YES UL
  obtain ⟨n, en⟩ : ∃ n, b.ops.length = n := ⟨_, rfl⟩
  have b1 : Below w.heap.size w (w.alloc (.cells #[.int .i64 b.pc, .int .i64 b.ln, .slice q n c, .int .i64 b.en, .int .i64 b.x, .int .i64 b.y, .int .i64 b.k] 28)) := (Below.refl _ _).alloc (Nat.le_refl _) _
  have RA := hide (Rec.new w [.int .i64 b.pc, .int .i64 b.ln, .slice q n c, .int .i64 b.en, .int .i64 b.x, .int .i64 b.y, .int .i64 b.k] 28)
  have HR := hide (hr.below b1)
  have TB := hide (ht.below b1)
  have BW := hide b1
  have EN := hide en
  simp only [bv] at *
  rw [en] at HR UL ⊢
  clear b1 hr ht eul en
  go_enter Tryd.func15, Tryd.ntmps15
  go_wp2_with fail
  generalize w.alloc (.cells #[.int .i64 b.pc, .int .i64 b.ln, .slice q n c, .int .i64 b.en, .int .i64 b.x, .int .i64 b.y, .int .i64 b.k] 28) = W0 at RA HR TB BW ⊢
  refine (implIrOk b [.int .i64 b.pc, .int .i64 b.ln, .slice q n c, .int .i64 b.en, .int .i64 b.x, .int .i64 b.y, .int .i64 b.k] W0 ⟨q, c, B, by unfold bv; rw [EN.out], by rw [EN.out]; exact HR.out⟩ TB.out.1 TB.out.2).mono ?_
  rintro e u1 ⟨rfl, hb⟩
  replace RA := hide (RA.out.below hb)
  replace HR := hide (HR.out.below hb)
  replace TB := hide (TB.out.below hb)
  replace BW := hide (BW.out.trans (hb.mono BW.out.size))
  clear hb
  cases eo : okB b with
  | false =>
    obtain rfl := NO.out eo
    have FIN := hide (OwnL.nil u1 w.heap.size)
    clear RA HR TB NO YES EUL eo UL
    go_wp2
    go_ret
    exact ⟨none, 0, rfl, FIN.out, BW.out⟩
  | true =>
    obtain rfl := YES.out eo
    obtain ⟨_, _, h3, _⟩ := ok_parts eo
    have z0 := RA.out.cell 0 _ rfl
    have z1 := RA.out.cell 1 _ rfl
    have z2 := RA.out.cell 2 _ rfl
    have z3 := RA.out.cell 3 _ rfl
    have z4 := RA.out.cell 4 _ rfl
    have z5 := RA.out.cell 5 _ rfl
    have z6 := RA.out.cell 6 _ rfl
    have UI := hide (usedIn b q n c B u1 HR.out EN.out TB.out eo)
    have n48 : n ≤ 48 := by rw [EN.out] at h3; exact h3
    clear NO YES eo h3
    go_wp2_with fail
    refine UI.out.mono ?_
    rintro e u2 ⟨U, rfl, uu, bits, hb⟩
    rw [EUL.out] at bits
    have BITS := hide bits
    replace RA := hide (RA.out.below hb)
    replace BW := hide (BW.out.trans (hb.mono BW.out.size))
    have y2 := RA.out.cell 2 _ rfl
    have O0 := hide (OwnL.nil u2 w.heap.size)
    clear UI bits hb z0 z1 z2 z3 z4 z5 z6 TB HR EUL
    go_wp2
    go_loopw [4, 14] (fun s i wr => ∃ (j ck : Nat) (qk : Option Addr) (bs : List Bool), j ≤ n ∧ i = .int .i64 j ∧ s = .slice qk bs.length ck ∧ Hid (bs = R.take j) ∧ Hid (OwnL wr w.heap.size (.slice qk bs.length ck) bs) ∧ Hid (Below w.heap.size w wr)) (fun _ i _ => n - (intOf i).toNat)
    case atStart => exact ⟨0, 0, none, [], by omega, rfl, rfl, rfl, O0, BW⟩
    case round =>
      clear O0 BW RA y2
      obtain ⟨j, ck, qk, bs, hj, rfl, rfl, EB, OL, BW⟩ := hrel
      have LB : Hid (bs.length = j) := show _ = _ by rw [EB.out, List.length_take, UL.out]; omega
      by_cases hlt : j < n
      · have lk : ((j : Nat) : Int) < (n : Nat) := by omega
        obtain ⟨v, ev⟩ : ∃ v, U.testBit j = v := ⟨_, rfl⟩
        have EV : Hid (R.take (j + 1) = R.take j ++ [v]) := show _ = _ by
          have h1 := BITS.out j hlt
          rw [ev] at h1
          have h2 : R[j]? = some v := by
            obtain ⟨z, ez⟩ : ∃ z, R[j]? = some z := ⟨_, List.getElem?_eq_getElem (by rw [UL.out]; exact hlt)⟩
            rw [List.getD_eq_getElem?_getD, ez] at h1
            rw [ez, h1]
            rfl
          rw [List.take_add_one, h2]
          rfl
        go_wp2_with fail
        refine (bitHas U j wr uu (by omega)).mono ?_
        rintro e w0 ⟨rfl, rfl⟩
        rw [ev]
        have bP : Below w0.heap.size w0 (w0.alloc (.cells #[.bool v] 4)) := (Below.refl _ _).alloc (Nat.le_refl _) _
        have NB := (Rec.new w0 [.bool v] 4).cell 0 _ rfl
        have LO1 : w.heap.size ≤ (w0.alloc (.cells #[.bool v] 4)).heap.size := Nat.le_trans BW.out.size bP.size
        have OP := OL.out.below bP
        obtain ⟨g1, c1, w1, hrun, O1, G1, L1, gr⟩ := run_pushL (ty := 34) OP (by have := LB.out; omega) LO1 w0.heap.size v NB
        have hlt2 := World.ownsRow.lt OP
        have BG : Below w.heap.size _ w1 := (Below.refl w.heap.size _).grown gr LO1 (fun k e => (hlt2 k e).1)
        have BU1 := BW.out.trans (bP.mono BW.out.size)
        have BU2 := hide (BU1.trans BG)
        have OL2 := hide O1
        have EB2 : Hid (bs ++ [v] = R.take (j + 1)) := show _ = _ by rw [EV.out, EB.out]
        clear bP NB LO1 O1 G1 L1 gr BU1 OP hlt2 BG OL BW EV ev
        go_wp2_with (at_builtin; refine push_list rfl _ _ rfl rfl rfl hrun ?_; refine Hid.out ?_)
        clear hrun
        refine hide ?_
        go_wp2
        exact ⟨⟨j + 1, c1, some ⟨g1, 0, none⟩, bs ++ [v], by omega, by go_num, by simp, EB2, OL2, BU2⟩, by simp [intOf]; omega⟩
      · have lk : ¬ ((j : Nat) : Int) < (n : Nat) := by omega
        have ej : j = n := by omega
        have EB2 : bs = R := by rw [EB.out, ej, ← UL.out, List.take_length]
        subst EB2
        clear LB EB UL BITS
        go_wp2
        go_ret
        exact ⟨qk, ck, rfl, OL.out, BW.out⟩
theorem lenUsed (b : Bk) : (usedB b).length ≤ b.ops.length := by
  unfold usedB
  split
  · rw [used_len]; exact Nat.le_refl _
  · exact Nat.zero_le _
theorem specUsedW (b : Bk) (cs : List Value) (w : World) (h : RBk w cs b) :
    Calls Tryd.prog 14 #[.agg cs.toArray] w fun e w' => ∃ q cap, e = .returned (.slice q (usedB b).length cap) ∧ (∃ B, BooS.WRow w' B (.slice q (usedB b).length cap) (usedB b) ∧ (usedB b = [] ∨ w.heap.size ≤ B)) ∧ Below w.heap.size w w' := by
  refine (specUsed b cs w h).mono ?_
  rintro e u ⟨g, cap, rfl, h1, h2, hb⟩
  exact ⟨_, cap, rfl, ⟨g, h1.wrow, Or.inr h2⟩, hb⟩
theorem implUsedW (b : Bk) (cs : List Value) (w : World) (h : RBk w cs b) (ht : Tbs w) :
    Calls Tryd.prog 15 #[.agg cs.toArray] w fun e w' => ∃ q cap, e = .returned (.slice q (usedB b).length cap) ∧ (∃ B, BooS.WRow w' B (.slice q (usedB b).length cap) (usedB b) ∧ (usedB b = [] ∨ w.heap.size ≤ B)) ∧ Below w.heap.size w w' := by
  refine (implUsed b cs w h ht).mono ?_
  rintro e u ⟨q, cap, rfl, h1, hb⟩
  exact ⟨q, cap, rfl, h1.wrow, hb⟩
end Go.Proofs.YtflhehofgplcoaaDoor.Op
