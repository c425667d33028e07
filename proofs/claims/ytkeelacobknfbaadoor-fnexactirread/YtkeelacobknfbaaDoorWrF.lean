/-
  Bytes: the program's word, head, operation, more.
-/
import Derived.Test.YtkeelacobknfbaaDoorWrE
namespace Go.Proofs.YtkeelacobknfbaaDoor.Wr
set_option linter.unusedVariables false
set_option linter.unusedSimpArgs false
open Go.ChangeShapes Go.WideShapes Go.ChangeAt Go.RowKit IntS Flat
open Ir Push
open Mch (Rec)
/-- The reader behind so many bytes, and the byte that is taken then. -/
def st (ys : List Int) (af : Addr) (s : Rs) : Nat → Rs
  | 0 => s
  | k + 1 => (nx ys af (st ys af s k)).2
def vl (ys : List Int) (af : Addr) (s : Rs) (k : Nat) : Int := (nx ys af (st ys af s k)).1
theorem st_add (ys : List Int) (af : Addr) (s : Rs) (j : Nat) : ∀ k, st ys af (st ys af s j) k = st ys af s (j + k)
  | 0 => rfl
  | k + 1 => by
    show (nx ys af (st ys af (st ys af s j) k)).2 = (nx ys af (st ys af s (j + k))).2
    rw [st_add ys af s j k]
theorem vl_add (ys : List Int) (af : Addr) (s : Rs) (j k : Nat) : vl ys af (st ys af s j) k = vl ys af s (j + k) := by unfold vl; rw [st_add]
theorem nx_by {ys : List Int} (h : ∀ y ∈ ys, 0 ≤ y ∧ y < 256) (af : Addr) (s : Rs) : 0 ≤ (nx ys af s).1 ∧ (nx ys af s).1 < 256 := by
  obtain ⟨p, e⟩ := s
  unfold nx
  cases e with
  | some b => simp
  | none =>
    cases ey : ys[p]? with
    | none => simp
    | some y => exact h y (List.mem_of_getElem? ey)
theorem or_low (h l : Int) (h0 : 0 ≤ h ∧ h < 256) (l0 : 0 ≤ l ∧ l < 256) : bits BinOp.or IntKind.i64 (h * 256) l = h * 256 + l := by
  obtain ⟨m, rfl⟩ : ∃ n : Nat, h = n := ⟨h.toNat, by omega⟩
  obtain ⟨n, rfl⟩ : ∃ n : Nat, l = n := ⟨l.toNat, by omega⟩
  have e1 : ((m : Int) * 256) = ((2 ^ 8 * m : Nat) : Int) := by omega
  rw [e1]
  show IntKind.i64.wrap ((BitVec.ofInt 64 ((2 ^ 8 * m : Nat) : Int) ||| BitVec.ofInt 64 (n : Int)).toNat : Int) = _
  have e : ∀ m : Nat, BitVec.ofInt 64 (m : Int) = BitVec.ofNat 64 m := fun m => by simp
  rw [e, e, BitVec.toNat_or, BitVec.toNat_ofNat, BitVec.toNat_ofNat, Nat.mod_eq_of_lt (by omega : 2 ^ 8 * m < 2 ^ 64), Nat.mod_eq_of_lt (by omega : n < 2 ^ 64)]
  rw [← Nat.two_pow_add_eq_or_of_lt (by omega : n < 2 ^ 8) m]
  have hw : IntKind.i64.wrap ((2 ^ 8 * m + n : Nat) : Int) = ((2 ^ 8 * m + n : Nat) : Int) := by
    rw [IntKind.wrap_i64]
    omega
  rw [hw]
  omega
/-- The program's errors lie below a block. -/
def GZ (Z : Nat) : Prop := 4 < Z ∧ 2 < Z ∧ 3 < Z
/-- The reader and the program's errors. -/
structure RE (w : World) (Z B : Nat) (q : Option Addr) (n c : Nat) (ys : List Int) (af am an : Addr) (s : Rs) : Prop where
  r : Rr w Z B q n c ys s
  e : Ers w af am an
  g : GZ Z
theorem RE.below {w w' : World} {Z B : Nat} {q : Option Addr} {n c : Nat} {ys : List Int} {af am an : Addr} {s : Rs} (h : RE w Z B q n c ys af am an s) (hb : Below w.heap.size w w') : RE w' Z B q n c ys af am an s := ⟨h.r.below hb, h.e.below hb, h.g⟩
theorem RE.turn {w w' : World} {Z B T : Nat} {q : Option Addr} {n c : Nat} {ys : List Int} {af am an : Addr} {s : Rs} (h : RE w Z B q n c ys af am an s) (ht : Turn T w w') (hT : Z < T) : RE w' Z B q n c ys af am an s := ⟨h.r.turn ht hT, h.e.turn ht ⟨Nat.lt_trans h.g.1 hT, Nat.lt_trans h.g.2.1 hT, Nat.lt_trans h.g.2.2 hT⟩, h.g⟩
theorem nextE (Z B : Nat) (q : Option Addr) (n c : Nat) (ys : List Int) (s : Rs) (af am an : Addr) (k : Nat) (w : World) (h : RE w Z B q n c ys af am an (st ys af s k)) :
    Calls Tryd.prog 81 #[.pointer (some ⟨Z, 0, none⟩)] w fun r w' => r = .returned (.int .i64 (vl ys af s k)) ∧ RE w' Z B q n c ys af am an (st ys af s (k + 1)) ∧ Turn Z w w' := by
  refine (next Z B q n c ys (st ys af s k) af am an w h.r h.e).mono ?_
  rintro r u ⟨rfl, R, T⟩
  exact ⟨rfl, ⟨R, h.e.turn T h.g, h.g⟩, T⟩
set_option maxRecDepth 8000 in
set_option maxHeartbeats 4000000 in
theorem wordE (Z B : Nat) (q : Option Addr) (n c : Nat) (ys : List Int) (s : Rs) (af am an : Addr) (k : Nat) (w : World) (h : RE w Z B q n c ys af am an (st ys af s k)) :
    Calls Tryd.prog 82 #[.pointer (some ⟨Z, 0, none⟩)] w fun r w' => r = .returned (.int .i64 (vl ys af s k * 256 + vl ys af s (k + 1))) ∧ RE w' Z B q n c ys af am an (st ys af s (k + 2)) ∧ Turn Z w w' := by
  have H := hide h
  have b0 : 0 ≤ vl ys af s k ∧ vl ys af s k < 256 := nx_by h.r.by_ af _
  have b1 : 0 ≤ vl ys af s (k + 1) ∧ vl ys af s (k + 1) < 256 := nx_by h.r.by_ af _
  have OR := hide (or_low _ _ b0 b1)
  clear h
  go_enter Tryd.func82, Tryd.ntmps82
  go_wp2_with fail
  refine (nextE Z B q n c ys s af am an k w H.out).mono ?_
  rintro r u ⟨rfl, R, T⟩
  obtain ⟨v0, e0⟩ : ∃ z, vl ys af s k = z := ⟨_, rfl⟩
  rw [e0] at b0 OR ⊢
  have H2 := hide R
  have T1 := hide T
  clear R T H
  go_wp2_with fail
  refine (nextE Z B q n c ys s af am an (k + 1) u H2.out).mono ?_
  rintro r u2 ⟨rfl, R, T⟩
  obtain ⟨v1, e1⟩ : ∃ z, vl ys af s (k + 1) = z := ⟨_, rfl⟩
  rw [e1] at b1 OR ⊢
  have FIN : Hid (RE u2 Z B q n c ys af am an (st ys af s (k + 2)) ∧ Turn Z w u2) := ⟨R, T1.out.trans T⟩
  have E0 := hide e0
  have E1 := hide e1
  clear R T H2 T1 e0 e1
  go_wp2
  exact bodyPost_ret (v := .int .i64 (v0 * 256 + v1)) (by simp [results, Tryd.results82, go_sem]; exact OR.out) rfl ⟨by rw [E0.out, E1.out], FIN.out⟩
theorem rec_fiveY {Z : Nat} {w : World} {c0 c1 c2 c3 c4 : Value} (h : Rec Z [c0, c1, c2, c3, c4] w) (a b c d e : Value) : Rec Z [a, b, c, d, e] (set5 w Z 0 a b c d e) := by
  have := ((((h.set 0 a (by simp) (show _ = [a, c1, c2, c3, c4] from rfl)).set 1 b (by simp) (show _ = [a, b, c2, c3, c4] from rfl)).set 2 c (by simp) (show _ = [a, b, c, c3, c4] from rfl)).set 3 d (by simp) (show _ = [a, b, c, d, c4] from rfl)).set 4 e (by simp) (show _ = [a, b, c, d, e] from rfl)
  exact this
theorem lay5y {w : World} {ops : Array Oper} {rest : List Oper} {o : Oper} {a : Act} {Q : Exit → Act → World → Prop} (hgd : o.guard = none) (hds : o.dst = none) (x y : Operand) (ho : o.op = .store 51 x y)
    (Z : Nat) (x0 x1 x2 x3 x4 : Value) (hB : Rec Z [x0, x1, x2, x3, x4] w) (hx : a.eval x = .pointer (some ⟨Z, 0, none⟩)) (kd ox oy ok ot : Int) (hy : a.eval y = .agg #[.int .i64 kd, .int .i64 ox, .int .i64 oy, .int .i64 ok, .int .i64 ot])
    (h : ∀ w' : World, Hid (Rec Z [.int .i64 kd, .int .i64 ox, .int .i64 oy, .int .i64 ok, .int .i64 ot] w') → Hid (Turn Z w w') → wpList Tryd.prog ops Q rest a w') :
    wpList Tryd.prog ops Q (o :: rest) a w := by
  refine wpList_plain hgd fun K hK => ?_
  have z0 := hB.cell 0 _ rfl
  have y0 := hB.soft 0
  have z1 := hB.cell 1 _ rfl
  have y1 := hB.soft 1
  have z2 := hB.cell 2 _ rfl
  have y2 := hB.soft 2
  have z3 := hB.cell 3 _ rfl
  have y3 := hB.soft 3
  have z4 := hB.cell 4 _ rfl
  have y4 := hB.soft 4
  have key := hK _ _ (h _ (rec_fiveY hB (.int .i64 kd) (.int .i64 ox) (.int .i64 oy) (.int .i64 ok) (.int .i64 ot)) (set5_turn ..))
  unfold set5 at key
  obtain ⟨dst, op, ty, pos, aft, gd⟩ := o
  simp only [] at hgd hds ho
  subst hgd hds ho
  clear h hK
  unfold Oper.wp
  simp only [execOp, hx, hy]
  go_simp
  exact key
set_option maxRecDepth 8000 in
set_option maxHeartbeats 8000000 in
theorem opE (Z B : Nat) (q : Option Addr) (n c : Nat) (ys : List Int) (s : Rs) (af am an : Addr) (w : World) (h : RE w Z B q n c ys af am an s) :
    Calls Tryd.prog 66 #[.pointer (some ⟨Z, 0, none⟩)] w fun r w' => r = .returned (.agg #[.int .i64 (vl ys af s 0), .int .i64 (vl ys af s 1), .int .i64 (vl ys af s 2), .int .i64 (vl ys af s 3 * 256 + vl ys af s 4), .int .i64 (vl ys af s 5)]) ∧ RE w' Z B q n c ys af am an (st ys af s 6) ∧ Turn Z w w' := by
  have b1 : Below w.heap.size w (w.alloc (.cells #[.int .i64 0, .int .i64 0, .int .i64 0, .int .i64 0, .int .i64 0] 51)) := (Below.refl _ _).alloc (Nat.le_refl _) _
  have ZL : Hid (Z < w.heap.size) := h.r.box.lt
  have H0 : Hid (RE (w.alloc (.cells #[.int .i64 0, .int .i64 0, .int .i64 0, .int .i64 0, .int .i64 0] 51)) Z B q n c ys af am an (st ys af s 0)) := h.below b1
  have RB := hide (Rec.new w [.int .i64 0, .int .i64 0, .int .i64 0, .int .i64 0, .int .i64 0] 51)
  have TW : Hid (Turn Z w (w.alloc (.cells #[.int .i64 0, .int .i64 0, .int .i64 0, .int .i64 0, .int .i64 0] 51))) := Turn.of_below b1
  clear h b1
  go_enter Tryd.func66, Tryd.ntmps66
  go_wp2_with fail
  generalize w.alloc (.cells #[.int .i64 0, .int .i64 0, .int .i64 0, .int .i64 0, .int .i64 0] 51) = u0 at H0 RB TW ⊢
  refine (nextE Z B q n c ys s af am an 0 u0 H0.out).mono ?_
  rintro r u1 ⟨rfl, R, T⟩
  have H1 := hide R
  replace TW := hide (TW.out.trans T)
  replace RB := hide (RB.out.turn T (by have := ZL.out; omega))
  clear R T H0
  obtain ⟨v0, e0⟩ : ∃ z, vl ys af s 0 = z := ⟨_, rfl⟩
  have E0 := hide e0
  rw [e0]
  clear e0
  go_wp2_with fail
  refine (nextE Z B q n c ys s af am an 1 u1 H1.out).mono ?_
  rintro r u2 ⟨rfl, R, T⟩
  have H2 := hide R
  replace TW := hide (TW.out.trans T)
  replace RB := hide (RB.out.turn T (by have := ZL.out; omega))
  clear R T H1
  obtain ⟨v1, e1⟩ : ∃ z, vl ys af s 1 = z := ⟨_, rfl⟩
  have E1 := hide e1
  rw [e1]
  clear e1
  go_wp2_with fail
  refine (nextE Z B q n c ys s af am an 2 u2 H2.out).mono ?_
  rintro r u3 ⟨rfl, R, T⟩
  have H3 := hide R
  replace TW := hide (TW.out.trans T)
  replace RB := hide (RB.out.turn T (by have := ZL.out; omega))
  clear R T H2
  obtain ⟨v2, e2⟩ : ∃ z, vl ys af s 2 = z := ⟨_, rfl⟩
  have E2 := hide e2
  rw [e2]
  clear e2
  go_wp2_with fail
  refine (wordE Z B q n c ys s af am an 3 u3 H3.out).mono ?_
  rintro r u4 ⟨rfl, R, T⟩
  have H4 := hide R
  replace TW := hide (TW.out.trans T)
  replace RB := hide (RB.out.turn T (by have := ZL.out; omega))
  clear R T H3
  obtain ⟨v3, e3⟩ : ∃ z, vl ys af s 3 * 256 + vl ys af s (3 + 1) = z := ⟨_, rfl⟩
  have E3 := hide e3
  rw [e3]
  clear e3
  go_wp2_with fail
  refine (nextE Z B q n c ys s af am an 5 u4 H4.out).mono ?_
  rintro r u5 ⟨rfl, R, T⟩
  have H5 := hide R
  replace TW := hide (TW.out.trans T)
  replace RB := hide (RB.out.turn T (by have := ZL.out; omega))
  clear R T H4
  obtain ⟨v5, e5⟩ : ∃ z, vl ys af s 5 = z := ⟨_, rfl⟩
  have E5 := hide e5
  rw [e5]
  clear e5
  go_wp2_with (refine lay5y rfl rfl _ _ rfl w.heap.size _ _ _ _ _ RB.out rfl _ _ _ _ _ rfl ?_; intro u9 RX TX; refine Hid.out ?_)
  have FIN : Hid (RE u9 Z B q n c ys af am an (st ys af s 6) ∧ Turn Z w u9) := by
    have t9 := H5.out.turn TX.out (by have := ZL.out; omega)
    exact ⟨t9, ⟨TX.out.os.trans TW.out.os, TX.out.tape.trans TW.out.tape, TX.out.output.trans TW.out.output, Nat.le_trans TW.out.size TX.out.size, fun b hb hne => (TX.out.block b (Nat.lt_of_lt_of_le hb TW.out.size) (by omega)).trans (TW.out.block b hb hne)⟩⟩
  clear TX TW H5 RB
  refine hide ?_
  have y0 := RX.out.cell 0 _ rfl
  have y1 := RX.out.cell 1 _ rfl
  have y2 := RX.out.cell 2 _ rfl
  have y3 := RX.out.cell 3 _ rfl
  have y4 := RX.out.cell 4 _ rfl
  go_wp2
  exact bodyPost_ret (v := .agg #[.int .i64 (v0), .int .i64 (v1), .int .i64 (v2), .int .i64 (v3), .int .i64 (v5)]) (by simp [results, Tryd.results66, go_sem, y0, y1, y2, y3, y4]) rfl ⟨by rw [← E0.out, ← E1.out, ← E2.out, ← E3.out, ← E5.out], FIN.out⟩
set_option maxRecDepth 8000 in
set_option maxHeartbeats 8000000 in
theorem headE (Z B : Nat) (q : Option Addr) (n c : Nat) (ys : List Int) (s : Rs) (af am an : Addr) (w : World) (h : RE w Z B q n c ys af am an s) :
    Calls Tryd.prog 64 #[.pointer (some ⟨Z, 0, none⟩)] w fun r w' => r = .returned (.agg #[.int .i64 (vl ys af s 0), .int .i64 (vl ys af s 1), .slice none 0 0, .int .i64 (vl ys af s 2), .int .i64 (vl ys af s 3), .int .i64 (vl ys af s 4), .int .i64 (vl ys af s 5 * 256 + vl ys af s 6)]) ∧ RE w' Z B q n c ys af am an (st ys af s 7) ∧ Turn Z w w' := by
  have b1 : Below w.heap.size w (w.alloc (.cells #[.int .i64 0, .int .i64 0, .slice none 0 0, .int .i64 0, .int .i64 0, .int .i64 0, .int .i64 0] 25)) := (Below.refl _ _).alloc (Nat.le_refl _) _
  have ZL : Hid (Z < w.heap.size) := h.r.box.lt
  have H0 : Hid (RE (w.alloc (.cells #[.int .i64 0, .int .i64 0, .slice none 0 0, .int .i64 0, .int .i64 0, .int .i64 0, .int .i64 0] 25)) Z B q n c ys af am an (st ys af s 0)) := h.below b1
  have RB := hide (Rec.new w [.int .i64 0, .int .i64 0, .slice none 0 0, .int .i64 0, .int .i64 0, .int .i64 0, .int .i64 0] 25)
  have TW : Hid (Turn Z w (w.alloc (.cells #[.int .i64 0, .int .i64 0, .slice none 0 0, .int .i64 0, .int .i64 0, .int .i64 0, .int .i64 0] 25))) := Turn.of_below b1
  clear h b1
  go_enter Tryd.func64, Tryd.ntmps64
  go_wp2_with fail
  generalize w.alloc (.cells #[.int .i64 0, .int .i64 0, .slice none 0 0, .int .i64 0, .int .i64 0, .int .i64 0, .int .i64 0] 25) = u0 at H0 RB TW ⊢
  refine (nextE Z B q n c ys s af am an 0 u0 H0.out).mono ?_
  rintro r u1 ⟨rfl, R, T⟩
  have H1 := hide R
  replace TW := hide (TW.out.trans T)
  replace RB := hide (RB.out.turn T (by have := ZL.out; omega))
  clear R T H0
  obtain ⟨v0, e0⟩ : ∃ z, vl ys af s 0 = z := ⟨_, rfl⟩
  have E0 := hide e0
  rw [e0]
  clear e0
  go_wp2_with fail
  refine (nextE Z B q n c ys s af am an 1 u1 H1.out).mono ?_
  rintro r u2 ⟨rfl, R, T⟩
  have H2 := hide R
  replace TW := hide (TW.out.trans T)
  replace RB := hide (RB.out.turn T (by have := ZL.out; omega))
  clear R T H1
  obtain ⟨v1, e1⟩ : ∃ z, vl ys af s 1 = z := ⟨_, rfl⟩
  have E1 := hide e1
  rw [e1]
  clear e1
  go_wp2_with fail
  refine (nextE Z B q n c ys s af am an 2 u2 H2.out).mono ?_
  rintro r u3 ⟨rfl, R, T⟩
  have H3 := hide R
  replace TW := hide (TW.out.trans T)
  replace RB := hide (RB.out.turn T (by have := ZL.out; omega))
  clear R T H2
  obtain ⟨v2, e2⟩ : ∃ z, vl ys af s 2 = z := ⟨_, rfl⟩
  have E2 := hide e2
  rw [e2]
  clear e2
  go_wp2_with fail
  refine (nextE Z B q n c ys s af am an 3 u3 H3.out).mono ?_
  rintro r u4 ⟨rfl, R, T⟩
  have H4 := hide R
  replace TW := hide (TW.out.trans T)
  replace RB := hide (RB.out.turn T (by have := ZL.out; omega))
  clear R T H3
  obtain ⟨v3, e3⟩ : ∃ z, vl ys af s 3 = z := ⟨_, rfl⟩
  have E3 := hide e3
  rw [e3]
  clear e3
  go_wp2_with fail
  refine (nextE Z B q n c ys s af am an 4 u4 H4.out).mono ?_
  rintro r u5 ⟨rfl, R, T⟩
  have H5 := hide R
  replace TW := hide (TW.out.trans T)
  replace RB := hide (RB.out.turn T (by have := ZL.out; omega))
  clear R T H4
  obtain ⟨v4, e4⟩ : ∃ z, vl ys af s 4 = z := ⟨_, rfl⟩
  have E4 := hide e4
  rw [e4]
  clear e4
  go_wp2_with fail
  refine (wordE Z B q n c ys s af am an 5 u5 H5.out).mono ?_
  rintro r u6 ⟨rfl, R, T⟩
  have H6 := hide R
  replace TW := hide (TW.out.trans T)
  replace RB := hide (RB.out.turn T (by have := ZL.out; omega))
  clear R T H5
  obtain ⟨v5, e5⟩ : ∃ z, vl ys af s 5 * 256 + vl ys af s (5 + 1) = z := ⟨_, rfl⟩
  have E5 := hide e5
  rw [e5]
  clear e5
  go_wp2_with (refine lay7 rfl rfl _ _ rfl w.heap.size _ _ _ _ _ _ _ RB.out rfl _ _ _ _ _ _ _ _ _ rfl ?_; intro u9 RX TX; refine Hid.out ?_)
  have FIN : Hid (RE u9 Z B q n c ys af am an (st ys af s 7) ∧ Turn Z w u9) := by
    have t9 := H6.out.turn TX.out (by have := ZL.out; omega)
    exact ⟨t9, ⟨TX.out.os.trans TW.out.os, TX.out.tape.trans TW.out.tape, TX.out.output.trans TW.out.output, Nat.le_trans TW.out.size TX.out.size, fun b hb hne => (TX.out.block b (Nat.lt_of_lt_of_le hb TW.out.size) (by omega)).trans (TW.out.block b hb hne)⟩⟩
  clear TX TW H6 RB
  refine hide ?_
  have y0 := RX.out.cell 0 _ rfl
  have y1 := RX.out.cell 1 _ rfl
  have y2 := RX.out.cell 2 _ rfl
  have y3 := RX.out.cell 3 _ rfl
  have y4 := RX.out.cell 4 _ rfl
  have y5 := RX.out.cell 5 _ rfl
  have y6 := RX.out.cell 6 _ rfl
  go_wp2
  exact bodyPost_ret (v := .agg #[.int .i64 (v0), .int .i64 (v1), .slice none 0 0, .int .i64 (v2), .int .i64 (v3), .int .i64 (v4), .int .i64 (v5)]) (by simp [results, Tryd.results64, go_sem, y0, y1, y2, y3, y4, y5, y6]) rfl ⟨by rw [← E0.out, ← E1.out, ← E2.out, ← E3.out, ← E4.out, ← E5.out], FIN.out⟩
end Go.Proofs.YtkeelacobknfbaaDoor.Wr
