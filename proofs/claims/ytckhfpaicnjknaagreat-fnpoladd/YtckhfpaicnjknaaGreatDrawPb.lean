/-
  Draws: a sum that is ok (l21Poly).
-/
import Derived.Test.YtckhfpaicnjknaaGreatDrawPa
import Derived.BigFrame
namespace Go.Proofs.YtckhfpaicnjknaaGreat.Draw
set_option linter.unusedVariables false
set_option linter.unusedSimpArgs false
open Go.ChangeShapes Go.WideShapes Go.ChangeAt Go.RowKit
open IntS (Turn hide cell_below Row WRow IsT)
open Pol (Rec Mono WPoly WP PRow Mine OwnM addB addP mulB mulP scaleP constP atomP flat)
theorem cells3 (w : World) (y x : Int) (h0 : 0 ≤ x) (h1 : x < 3) : ∃ z : Int, (w.alloc (.cells #[.int .i64 0, .int .i64 1, .int .i64 y] 3)).cell? ⟨w.heap.size, x.toNat, none⟩ = some (.int .i64 z) := by
  obtain ⟨k, rfl⟩ := Int.eq_ofNat_of_zero_le h0
  rw [Int.toNat_natCast, World.cell?_alloc_new]
  have : k = 0 ∨ k = 1 ∨ k = 2 := by omega
  rcases this with rfl | rfl | rfl <;> exact ⟨_, rfl⟩
theorem cells6b (w : World) (x : Int) (h0 : 0 ≤ x) (h1 : x < 6) : ∃ z : Nat, (w.alloc (.cells #[.int .i64 0, .int .i64 1, .int .i64 2, .int .i64 3, .int .i64 6, .int .i64 12] 3)).cell? ⟨w.heap.size, x.toNat, none⟩ = some (.int .i64 (z : Int)) ∧ z ≤ 12 := by
  obtain ⟨k, rfl⟩ := Int.eq_ofNat_of_zero_le h0
  rw [Int.toNat_natCast, World.cell?_alloc_new]
  have : k = 0 ∨ k = 1 ∨ k = 2 ∨ k = 3 ∨ k = 4 ∨ k = 5 := by omega
  rcases this with rfl | rfl | rfl | rfl | rfl | rfl
  · exact ⟨0, rfl, by omega⟩
  · exact ⟨1, rfl, by omega⟩
  · exact ⟨2, rfl, by omega⟩
  · exact ⟨3, rfl, by omega⟩
  · exact ⟨6, rfl, by omega⟩
  · exact ⟨12, rfl, by omega⟩
theorem const_len (n : Int) : (constP n).length ≤ 12 := by
  unfold constP
  split <;> simp
set_option maxRecDepth 8000 in
set_option maxHeartbeats 4000000 in
/-- A sum stored in a drawn region. -/
theorem layInP {w : World} {o : Oper} {a : Act} {K : Act → World → Prop} {Q : Exit → Act → World → Prop} (x y : Operand) (ho : o.op = .store 25 x y)
    (Z : Nat) (x0 : Value) (hB : Rec Z [x0] w) (hx : a.eval x = .pointer (some ⟨Z, 0, none⟩)) (q : Option Addr) (n c : Nat) (hy : a.eval y = .agg #[.slice q n c])
    (h : ∀ w' : World, Hid (Rec Z [.slice q n c] w') → Hid (Turn Z w w') → K (a.put o.dst undef) w') : Oper.wpIn Fence.wide 0 Tryz.prog o a w K Q := by
  have z0 := hB.cell 0 _ rfl
  have y0 := hB.soft 0
  have key := h _ (hB.set 0 (.slice q n c) (by simp) rfl) (set_turn Z w 0 _)
  obtain ⟨dst, op, ty, pos, aft, gd⟩ := o
  simp only [] at ho key
  subst ho
  clear h
  unfold Oper.wpIn
  refine ⟨fun _ _ => trivial, ?_⟩
  rw [show Fence.wide.round = none from rfl, Oper.semAt_none]
  simp only [execOp, hx, hy]
  go_simp
  exact key
/-- How far a chain of calls is, beside which a box is made at any time. -/
structure L9 (d : World) (R q k : Nat) (b : Bool) (v1 v2 p : Value) (W : World) : Prop where
  kp : Keep R d W
  rd0 : k = 0 → Rd R q W
  rd : Rd R (q + 1) W
  rl : R < d.heap.size
  c1 : 1 ≤ k → ∃ x : Int, v1 = .int .i64 x
  c2 : 2 ≤ k → ∃ a l c ps B, v2 = .agg #[.slice a l c] ∧ PRow W B (.slice a l c) ps
  z : b = true → ∃ Z, p = .pointer (some ⟨Z, 0, none⟩) ∧ Rec Z [.slice none 0 0] W ∧ d.heap.size ≤ Z
structure E9 (d : World) (R q : Nat) (b : Bool) (p : Value) (a : Option Addr) (c : Nat) (qs : List Mono) (W : World) : Prop where
  kp : Keep R d W
  rd : Rd R (q + 1) W
  rl : R < d.heap.size
  ex : ∃ lo hi, d.heap.size ≤ lo ∧ hi ≤ W.heap.size ∧ WPoly W lo hi (.slice a qs.length c) qs ∧ (b = true → ∀ Z, p = .pointer (some ⟨Z, 0, none⟩) → Z < lo ∨ hi ≤ Z)
  z : b = true → ∃ Z, p = .pointer (some ⟨Z, 0, none⟩) ∧ Rec Z [.slice none 0 0] W ∧ d.heap.size ≤ Z
structure D9 (d : World) (R q Z : Nat) (a : Option Addr) (c : Nat) (qs : List Mono) (W : World) : Prop where
  kp : Keep R d W
  rd : Rd R (q + 1) W
  rz : Rec Z [.slice a qs.length c] W
  ps : PS W (fun b => d.heap.size ≤ b) (.slice a qs.length c) qs
  zd : d.heap.size ≤ Z
theorem L9.new {d : World} {R q : Nat} {v1 v2 p : Value} (h : Rd R q d) : L9 d R q 0 false v1 v2 p d :=
  ⟨Keep.refl R d, fun _ => h, h.mono (by omega), h.lt, fun h => by omega, fun h => by omega, fun h => by cases h⟩
theorem L9.box {d : World} {R q k : Nat} {v1 v2 p : Value} {W : World} (h : L9 d R q k false v1 v2 p W) (t : TypeId) : L9 d R q k true v1 v2 (.pointer (some ⟨W.heap.size, 0, none⟩)) (W.alloc (.cells #[.slice none 0 0] t)) := by
  have hb := alloc_below W (.cells #[.slice none 0 0] t)
  refine ⟨keep_low h.kp hb, fun e => (h.rd0 e).alloc _, h.rd.alloc _, h.rl, h.c1, fun e => ?_, fun _ => ⟨W.heap.size, rfl, Rec.new W [.slice none 0 0] t, h.kp.size⟩⟩
  obtain ⟨a, l, c, ps, B, h1, h2⟩ := h.c2 e
  exact ⟨a, l, c, ps, B, h1, h2.below hb⟩
theorem L9.call1 {d : World} {R q : Nat} {b : Bool} {v1 v2 p : Value} {W W' : World} {x : Int} (h : L9 d R q 0 b v1 v2 p W) (hr : Rd R (q + 1) W') (hk : Keep R W W') : L9 d R q 1 b (.int .i64 x) v2 p W' := by
  refine ⟨h.kp.trans hk, fun e => by omega, hr, h.rl, fun _ => ⟨x, rfl⟩, fun e => by omega, fun e => ?_⟩
  obtain ⟨Z, h1, h2, h3⟩ := h.z e
  exact ⟨Z, h1, rec_keep h2 hk (by have := h.rl; omega), h3⟩
theorem L9.call2 {d : World} {R q : Nat} {b : Bool} {v1 v2 p : Value} {W W' : World} {a : Option Addr} {l c lo hi : Nat} {ps : List Mono} (h : L9 d R q 1 b v1 v2 p W) (hw : WPoly W' lo hi (.slice a l c) ps) (hb : Below W.heap.size W W') : L9 d R q 2 b v1 (.agg #[.slice a l c]) p W' := by
  obtain ⟨B, hB⟩ := hw.read
  refine ⟨keep_low h.kp hb, fun e => by omega, h.rd.below (hb.mono (by have := h.rd.lt; omega)), h.rl, fun _ => h.c1 (by omega), fun e => ⟨a, l, c, ps, B, rfl, hB⟩, fun e => ?_⟩
  obtain ⟨Z, h1, h2, h3⟩ := h.z e
  exact ⟨Z, h1, h2.below hb, h3⟩
theorem L9.call3 {d : World} {R q : Nat} {b : Bool} {v1 v2 p : Value} {W W' : World} {a : Option Addr} {c : Nat} {qs : List Mono} (h : L9 d R q 2 b v1 v2 p W) (hw : WPoly W' W.heap.size W'.heap.size (.slice a qs.length c) qs) (hb : Below W.heap.size W W') : E9 d R q b p a c qs W' := by
  refine ⟨keep_low h.kp hb, h.rd.below (hb.mono (by have := h.rd.lt; omega)), h.rl, ⟨_, _, h.kp.size, Nat.le_refl _, hw, fun e Z hp => ?_⟩, fun e => ?_⟩
  · obtain ⟨Z', h1, h2, h3⟩ := h.z e
    rw [hp] at h1
    cases h1
    exact Or.inl h2.lt
  · obtain ⟨Z, h1, h2, h3⟩ := h.z e
    exact ⟨Z, h1, h2.below hb, h3⟩
theorem E9.box {d : World} {R q : Nat} {p : Value} {a : Option Addr} {c : Nat} {qs : List Mono} {W : World} (h : E9 d R q false p a c qs W) (t : TypeId) : E9 d R q true (.pointer (some ⟨W.heap.size, 0, none⟩)) a c qs (W.alloc (.cells #[.slice none 0 0] t)) := by
  have hb := alloc_below W (.cells #[.slice none 0 0] t)
  obtain ⟨lo, hi, k1, k2, k3, _⟩ := h.ex
  exact ⟨keep_low h.kp hb, h.rd.alloc _, h.rl, ⟨lo, hi, k1, Nat.le_trans k2 hb.size, k3.below hb, fun _ Z e => Or.inr (by cases e; exact k2)⟩, fun _ => ⟨W.heap.size, rfl, Rec.new W [.slice none 0 0] t, h.kp.size⟩⟩
theorem E9.over {d : World} {R q Z : Nat} {a : Option Addr} {c : Nat} {qs : List Mono} {W V : World} (h : E9 d R q true (.pointer (some ⟨Z, 0, none⟩)) a c qs W) (hz : Rec Z [.slice a qs.length c] V) (ht : Turn Z W V) : D9 d R q Z a c qs V := by
  obtain ⟨lo, hi, k1, k2, k3, k4⟩ := h.ex
  obtain ⟨Z', e, h2, h3⟩ := h.z rfl
  cases e
  have h5 := k4 rfl Z rfl
  have hR := h.rl
  exact ⟨keep_up h.kp ht h3, rd_turn h.rd ht (by omega) h.rd.lt, hz, ((PS.of k3 k2).turn ht (fun q => by omega)).mono (fun b _ q => Nat.le_trans k1 q.1), h3⟩
set_option maxRecDepth 8000 in
set_option maxHeartbeats 16000000 in
theorem poly (R q : Nat) (w : World) (h : Rd R q w) (hq : q ≤ 500000) :
    Calls Tryz.prog 51 #[.pointer (some ⟨R, 0, none⟩), .int .i64 5] w fun e w' => ∃ a c ps, e = .returned (.agg #[.slice a (List.length ps) c]) ∧ DP w' w.heap.size (.slice a ps.length c) ps ∧ ps.length ≤ 12 ∧ Rd R (q + 80) w' ∧ Keep R w w' := by
  have hR := h.lt
  have Z4 := hide (Rec.new w [.slice none 0 0] 25)
  have K0 : Hid (Keep R w (w.alloc (.cells #[.slice none 0 0] 25))) := (Keep.refl R w).alloc _
  have H0 := hide (h.alloc (.cells #[.slice none 0 0] 25))
  clear h
  go_enter Tryz.func51, Tryz.ntmps51
  go_wp2_with fail
  generalize (w.alloc (.cells #[.slice none 0 0] 25)) = va at Z4 K0 H0 ⊢
  refine (word R q va H0.out (by omega)).mono ?_
  rintro e vb ⟨ya, rfl, y0, y1, h1, k1⟩
  replace Z4 := hide (rec_keep Z4.out k1 (by omega))
  replace K0 := hide (K0.out.trans k1)
  have H1 := hide h1
  clear h1 k1 y0 y1 H0
  go_wp2_with fail
  refine (pick R (q + 3) 3 _ (H1.out.alloc _) (by omega)).mono ?_
  rintro e vc ⟨xa, rfl, x0, x1, -, h2, k2⟩
  replace x1 := x1 (by omega)
  obtain ⟨z, hz⟩ := cells3 vb ya xa x0 x1
  have hz2 : vc.cell? ⟨vb.heap.size, xa.toNat, none⟩ = some (.int .i64 z) := (k2.cell (p := ⟨vb.heap.size, xa.toNat, none⟩) (by simp) (by have := H1.out.lt; simp; omega)).trans hz
  replace k2 := (Keep.of_below (alloc_below vb _)).trans k2
  replace Z4 := hide (rec_keep Z4.out k2 (by omega))
  replace K0 := hide (K0.out.trans k2)
  replace H1 := hide h2
  clear h2 k2 hz
  go_wp2_with fail
  refine (specConst z vc).mono ?_
  rintro e vd ⟨a0, c0, rfl, D1, b1⟩
  have PL := hide (const_len z)
  have L5 : Hid (w.heap.size < vd.heap.size) := Nat.lt_of_lt_of_le Z4.out.lt b1.size
  have Z5 := hide (Rec.new vd [.slice a0 (constP z).length c0] 25)
  have b2 := alloc_below vd (.cells #[.slice a0 (constP z).length c0] 25)
  have b3 := b1.trans (b2.mono b1.size)
  have DD := hide ((D1.below b2).mono (show w.heap.size + 1 ≤ vc.heap.size from Z4.out.lt))
  replace Z4 := hide (Z4.out.below b3)
  replace K0 := hide (keep_low K0.out b3)
  replace H1 := hide (H1.out.below (b3.mono (by have := H1.out.lt; omega)))
  clear D1 b1 b2 b3 hz2 x0 x1
  generalize constP z = ps0 at *
  have sz : (vd.alloc (.cells #[.slice a0 ps0.length c0] 25)).heap.size = vd.heap.size + 1 := by simp
  go_wp2_with fail
  generalize hZ : vd.heap.size = X5 at Z5 L5 sz ⊢
  clear hZ
  generalize (vd.alloc (.cells #[.slice a0 ps0.length c0] 25)) = ve at Z5 DD Z4 K0 H1 sz ⊢
  refine (pick R (q + 3 + 1) 6 _ (H1.out.alloc _) (by omega)).mono ?_
  rintro e vf ⟨xb, rfl, x0, x1, -, h2, k2⟩
  replace x1 := x1 (by omega)
  obtain ⟨N, hz, N12⟩ := cells6b ve xb x0 x1
  have hz2 : vf.cell? ⟨ve.heap.size, xb.toNat, none⟩ = some (.int .i64 (N : Int)) := (k2.cell (p := ⟨ve.heap.size, xb.toNat, none⟩) (by simp) (by have := H1.out.lt; simp; omega)).trans hz
  replace k2 := (Keep.of_below (alloc_below ve _)).trans k2
  have L5 := L5.out
  rw [sz] at hz2
  clear sz
  replace Z4 := hide (rec_keep Z4.out k2 (by omega))
  replace Z5 := hide (rec_keep Z5.out k2 (by omega))
  replace DD := hide (DD.out.keep k2 (by omega))
  replace K0 := hide (K0.out.trans k2)
  replace H1 := hide h2
  clear h2 k2 hz
  go_wp2
  clear hz2 x0 x1
  go_loopw [6] (fun i wr => ∃ (k j : Nat) (a : Option Addr) (c : Nat) (ps : List Mono), i = .int .i64 (k : Int) ∧ Hid (k + j = N ∧ ps.length ≤ 12) ∧ Hid (Rec w.heap.size [.slice none 0 0] wr) ∧ Hid (Rec X5 [.slice a ps.length c] wr) ∧ Hid (DP wr (w.heap.size + 1) (.slice a ps.length c) ps) ∧ Hid (Rd R (q + 5 + 6 * j) wr) ∧ Hid (Keep R w wr)) (fun i _ => (intOf i).toNat)
  case atStart => exact ⟨N, 0, a0, c0, ps0, rfl, ⟨Nat.add_zero N, PL.out⟩, Z4, Z5, DD, H1, K0⟩
  case round =>
    clear Z4 Z5 DD H1 K0 PL
    obtain ⟨k, j, a, c, ps, rfl, EE, Z4, Z5, DD, HH, KK⟩ := hrel
    have j12 : j ≤ 12 := by have := EE.out.1; omega
    have c5 := Z5.out.cell 0 _ rfl
    by_cases h0 : k = 0
    · subst h0
      have z4 := Z4.out.cell 0 _ rfl
      have s4 := Z4.out.soft 0
      have FIN : Hid (DP (wr.setCell ⟨w.heap.size, 0, none⟩ (.slice a ps.length c)) w.heap.size (.slice a ps.length c) ps ∧ ps.length ≤ 12 ∧ Rd R (q + 80) (wr.setCell ⟨w.heap.size, 0, none⟩ (.slice a ps.length c)) ∧ Keep R w (wr.setCell ⟨w.heap.size, 0, none⟩ (.slice a ps.length c))) := ⟨(DD.out.turn (set_turn w.heap.size wr 0 _) (by omega)).mono (by omega), EE.out.2, (rd_turn HH.out (set_turn w.heap.size wr 0 _) hR HH.out.lt).mono (by omega), keep_up KK.out (set_turn w.heap.size wr 0 _) (Nat.le_refl _)⟩
      have Z4s := hide (Z4.out.set 0 (.slice a ps.length c) (by simp) (show _ = [.slice a ps.length c] from rfl))
      clear DD HH KK Z4 EE Z5
      go_wp2
      generalize wr.setCell ⟨w.heap.size, 0, none⟩ (.slice a ps.length c) = U at FIN Z4s ⊢
      have z5 := Z4s.out.cell 0 _ rfl
      exact bodyPost_ret (v := .agg #[.slice a ps.length c]) (by simp [results, Tryz.results51, go_sem, z5]) rfl ⟨a, c, ps, rfl, FIN.out⟩
    · obtain ⟨m, rfl⟩ : ∃ m, k = m + 1 := ⟨k - 1, by omega⟩
      have gt : (0 : Int) < ((m + 1 : Nat) : Int) := by omega
      clear c5
      go_wp2_with fail
      refine (word R (q + 5 + 6 * j) wr HH.out (by omega)).mono ?_
      rintro e v1 ⟨y, rfl, y0, y1, h1, k1⟩
      replace Z4 := hide (rec_keep Z4.out k1 (by omega))
      replace Z5 := hide (rec_keep Z5.out k1 (by omega))
      replace DD := hide (DD.out.keep k1 (by omega))
      replace KK := hide (KK.out.trans k1)
      have L1 := h1.lt
      have bV : Below v1.heap.size v1 ((v1.alloc (.cells #[.int .i64 (1 + y % 65535), .slice none 0 0] 55)).alloc (.cells #[.slice (some ⟨v1.heap.size, 0, none⟩) 1 1] 25)) := (alloc_below _ _).trans ((alloc_below _ _).mono (by simp))
      have P7 : Hid (PS ((v1.alloc (.cells #[.int .i64 (1 + y % 65535), .slice none 0 0] 55)).alloc (.cells #[.slice (some ⟨v1.heap.size, 0, none⟩) 1 1] 25)) (fun b => b ≠ R) (.slice (some ⟨v1.heap.size, 0, none⟩) 1 1) [(1 + y % 65535, [])]) := ((lit_mono v1 _).below (alloc_below _ _)).ps.mono (fun b _ h => by have h2 : v1.heap.size ≤ b := h; omega)
      have Z7r := Rec.new (v1.alloc (.cells #[.int .i64 (1 + y % 65535), .slice none 0 0] 55)) [.slice (some ⟨v1.heap.size, 0, none⟩) 1 1] 25
      rw [show (v1.alloc (.cells #[.int .i64 (1 + y % 65535), .slice none 0 0] 55)).heap.size = v1.heap.size + 1 by simp] at Z7r
      have Z7 := hide Z7r
      clear Z7r
      have KV := hide (Keep.of_below (R := R) bV)
      have H7 := hide (h1.below (bV.mono (by omega)))
      have L7 : v1.heap.size ≤ v1.heap.size + 1 := by omega
      clear bV h1 k1 HH
      go_wp2_with fail
      generalize ((v1.alloc (.cells #[.int .i64 (1 + y % 65535), .slice none 0 0] 55)).alloc (.cells #[.slice (some ⟨v1.heap.size, 0, none⟩) 1 1] 25)) = v2 at P7 Z7 KV H7 ⊢
      generalize hx7 : v1.heap.size + 1 = X7 at L7 Z7 ⊢
      clear hx7
      generalize hm7 : (1 + y % 65535) = y7 at P7 ⊢
      clear hm7 y0 y1
      refine (pick R (q + 5 + 6 * j + 3) 3 v2 H7.out (by omega)).mono ?_
      rintro e v3 ⟨x, rfl, x0, x1, -, h3, k3⟩
      obtain ⟨X, rfl⟩ : ∃ X : Nat, x = X := ⟨x.toNat, by omega⟩
      have X2 : X ≤ 2 := by have := x1 (by omega); omega
      replace P7 := hide (P7.out.keep k3 (fun h => h rfl))
      replace Z7 := hide (rec_keep Z7.out k3 (by omega))
      replace KV := hide (KV.out.trans k3)
      replace H7 := hide h3
      clear h3 k3 x0 x1
      go_wp2
      go_loopw [8] (fun i u => ∃ (t s : Nat) (a7 : Option Addr) (c7 : Nat) (ms : List Mono), i = .int .i64 (t : Int) ∧ Hid (t + s = X) ∧ Hid (Rec X7 [.slice a7 ms.length c7] u) ∧ Hid (PS u (fun b => b ≠ R) (.slice a7 ms.length c7) ms) ∧ Hid (Rd R (q + 5 + 6 * j + 4 + s) u) ∧ Hid (Keep R v1 u)) (fun i _ => (intOf i).toNat)
      case atStart => exact ⟨X, 0, some ⟨v1.heap.size, 0, none⟩, 1, [(y7, [])], rfl, Nat.add_zero X, Z7, P7, H7, KV⟩
      case round =>
        clear Z7 P7 H7 KV
        obtain ⟨t, s, a7, c7, ms, rfl, ES, Z7, P7, H7, KV⟩ := hrel
        have s2 : s ≤ 2 := by have := ES.out; omega
        have d7 := Z7.out.cell 0 _ rfl
        by_cases t0 : t = 0
        · subst t0
          have Z4u := hide (rec_keep Z4.out KV.out (by omega))
          have Z5u := hide (rec_keep Z5.out KV.out (by omega))
          have DDu := hide (DD.out.keep KV.out (by omega))
          have KKu := hide (KK.out.trans KV.out)
          have L5u : X5 < wr.heap.size := Z5u.out.lt
          have d5 := Z5u.out.cell 0 _ rfl
          obtain ⟨B1, r1⟩ := DDu.out.ps.read
          obtain ⟨B2, r2⟩ := P7.out.read
          have RA := hide r1
          have RB := hide r2
          clear Z4 Z5 DD KK KV r1 r2
          go_wp2_with fail
          refine (Pol.specAddO ps ms B1 B2 _ _ wr RA.out RB.out).mono ?_
          rintro e v4 ⟨a4, l4, c4, rfl, W4, M4, b4⟩
          obtain rfl := wp_len W4
          have D4 := DP.of W4 M4
          have b5 : Below wr.heap.size wr (v4.alloc (.cells #[.slice a4 (addP ps ms).length c4] 25)) := b4.trans ((alloc_below v4 _).mono b4.size)
          have D5 := hide ((D4.below (alloc_below v4 (.cells #[.slice a4 (addP ps ms).length c4] 25))).mono (show X5 + 1 ≤ wr.heap.size from L5u))
          have Z11 := hide (Rec.new v4 [.slice a4 (addP ps ms).length c4] 25)
          have PL := hide (addP_len ps ms)
          replace Z4u := hide (Z4u.out.below b5)
          replace Z5u := hide (Z5u.out.below b5)
          replace DDu := hide (DDu.out.below b5)
          replace KKu := hide (keep_low KKu.out b5)
          replace H7 := hide ((H7.out.below (b5.mono (by have := H7.out.lt; omega))).mono (show _ ≤ q + 5 + 6 * (j + 1) by omega))
          have PE := hide EE.out.2
          have E2 : Hid (m + (j + 1) = N) := show _ = _ by have := EE.out.1; omega
          have kw : wrap64 (m : Int) = (m : Int) := by have := E2.out; unfold wrap64; omega
          clear W4 M4 b4 D4 d7 d5 b5 RA RB P7 Z7 EE ES
          obtain ⟨T, eT⟩ : ∃ T, addB ps ms = T := ⟨_, rfl⟩
          rw [eT]
          clear eT
          generalize addP ps ms = pn at *
          cases T with
          | false =>
            dsimp only
            repeat go_step
            rw [kw]
            exact ⟨⟨m, j + 1, a, c, ps, rfl, ⟨E2.out, PE.out⟩, Z4u, Z5u, DDu, H7, KKu⟩, by simp [intOf] <;> omega⟩
          | true =>
            have z11 := Z11.out.cell 0 _ rfl
            have s5 := Z5u.out.soft 0
            have y5 := Z5u.out.cell 0 _ rfl
            dsimp only
            repeat go_step
            rw [kw]
            generalize (v4.alloc (.cells #[.slice a4 pn.length c4] 25)) = v5 at D5 Z11 Z4u Z5u DDu KKu H7 ⊢
            have F1 : Hid (Rec w.heap.size [.slice none 0 0] (v5.setCell ⟨X5, 0, none⟩ (.slice a4 pn.length c4))) := Z4u.out.other _ _ (by show X5 ≠ w.heap.size; omega)
            have F2 : Hid (Rec X5 [.slice a4 pn.length c4] (v5.setCell ⟨X5, 0, none⟩ (.slice a4 pn.length c4))) := Z5u.out.set 0 (.slice a4 pn.length c4) (by simp) rfl
            have F3 : Hid (DP (v5.setCell ⟨X5, 0, none⟩ (.slice a4 pn.length c4)) (w.heap.size + 1) (.slice a4 pn.length c4) pn) := (D5.out.turn (set_turn X5 v5 0 _) (by omega)).mono (by omega)
            have F4 : Hid (Rd R (q + 5 + 6 * (j + 1)) (v5.setCell ⟨X5, 0, none⟩ (.slice a4 pn.length c4))) := rd_turn H7.out (set_turn X5 v5 0 _) (by omega) H7.out.lt
            have F5 : Hid (Keep R w (v5.setCell ⟨X5, 0, none⟩ (.slice a4 pn.length c4))) := keep_up KKu.out (set_turn X5 v5 0 _) (by omega)
            exact ⟨⟨m, j + 1, a4, c4, pn, rfl, ⟨E2.out, PL.out⟩, F1, F2, F3, F4, F5⟩, by simp [intOf] <;> omega⟩
        · obtain ⟨p, rfl⟩ : ∃ p, t = p + 1 := ⟨t - 1, by omega⟩
          have gp : (0 : Int) < ((p + 1 : Nat) : Int) := by omega
          clear Z4 Z5 DD EE
          go_wp2_with fail
          refine (wpIn_wide (n := 0)).1 ?_
          refine PhaseIn.region (S := fun v => Rec X7 [.slice a7 ms.length c7] v) 12 (by kernel_rfl) ?_
          have RX := hide (show Rec X7 [.slice a7 ms.length c7] wr.drew from Z7.out.drew)
          have hHeld := RX.out
          obtain ⟨F, hF⟩ : ∃ F : Value → Value → Value → Value → Value → Value → Value → Act, F = fun sv1 sv2 sv3 sv4 sv5 sv6 p9 => { tmps := #[Value.pointer (some { block := R, off := 0 }), Value.int IntKind.i64 5, undef, undef, Value.pointer (some { block := w.heap.size, off := 0 }), Value.pointer (some { block := X5, off := 0 }), Value.int IntKind.i64 (↑m + 1), Value.pointer (some { block := X7, off := 0 }), Value.int IntKind.i64 ↑(p + 1), p9, u10, u11, u12, Value.pointer (some { block := R, off := 0 }), Value.int IntKind.i64 ya, Value.slice (some { block := vb.heap.size, off := 0 }) 3 3, Value.pointer (some { block := R, off := 0 }), Value.int IntKind.i64 xa, Value.pointer (some { block := vb.heap.size, off := xa.toNat }), Value.int IntKind.i64 z, Value.agg #[Value.slice a0 ps0.length c0], Value.slice (some { block := X5 + 1, off := 0 }) 6 6, Value.pointer (some { block := R, off := 0 }), Value.int IntKind.i64 xb, Value.pointer (some { block := X5 + 1, off := xb.toNat }), Value.int IntKind.i64 ↑N, Value.int IntKind.i64 (↑m + 1), Value.bool true, u28, u29, Value.pointer (some { block := R, off := 0 }), Value.int IntKind.i64 y, Value.int IntKind.i64 (y % 65535), Value.int IntKind.i64 y7, Value.agg #[Value.int IntKind.i64 y7, Value.slice none 0 0], Value.slice (some { block := v1.heap.size, off := 0 }) 1 1, Value.agg #[Value.slice (some { block := v1.heap.size, off := 0 }) 1 1], Value.pointer (some { block := R, off := 0 }), Value.int IntKind.i64 ↑X, Value.int IntKind.i64 ↑(p + 1), Value.bool true, Value.bool true, Value.int IntKind.i64 5, Value.bool true, Value.bool true, u45, u46, sv4, Value.agg #[Value.slice a7 ms.length c7], Value.pointer (some { block := R, off := 0 }), Value.int IntKind.i64 5, sv1, sv2, sv3, sv5, sv6, u56, u57, u58, u59, u60, u61, u62, u63, u64, u65, undef], defers := [] } := ⟨_, rfl⟩
          refine PhaseIn.takeD (i := 0) (v := ?_) [0, 5, 6, 7, 8, 10, 11] 48 rfl (by rfl) (by kernel_rfl) (by kernel_rfl) (by kernel_rfl) (by kernel_rfl) (by kernel_rfl) (fun _ _ _ h => h) (Or.inl ⟨by kernel_rfl, ?_⟩) hHeld ?_
          rotate_left
          · intro w' hSw
            (try dsimp only at hSw)
            have z0 := hSw.cell 0 _ rfl
            go_simp
            first | done | with_reducible rfl
          try simp only [Act.put, List.setIfInBounds_toArray, List.set]
          refine PhaseIn.takeD (i := 1) (v := ?_) [1, 3, 4, 5, 6, 7, 8, 10, 11] 49 rfl (by rfl) (by kernel_rfl) (by kernel_rfl) (by kernel_rfl) (by kernel_rfl) (by kernel_rfl) (fun _ _ _ h => h) (Or.inl ⟨by kernel_rfl, ?_⟩) hHeld ?_
          rotate_left
          · intro w' hSw
            (try dsimp only at hSw)
            go_simp
            first | done | with_reducible rfl
          try simp only [Act.put, List.setIfInBounds_toArray, List.set]
          refine PhaseIn.takeD (i := 2) (v := ?_) [2, 3, 4, 5, 6, 7, 8, 10, 11] 50 rfl (by rfl) (by kernel_rfl) (by kernel_rfl) (by kernel_rfl) (by kernel_rfl) (by kernel_rfl) (fun _ _ _ h => h) (Or.inl ⟨by kernel_rfl, ?_⟩) hHeld ?_
          rotate_left
          · intro w' hSw
            (try dsimp only at hSw)
            go_simp
            first | done | with_reducible rfl
          try simp only [Act.put, List.setIfInBounds_toArray, List.set]
          clear hHeld
          refine PhaseIn.layer1 (F := 7) 3 9 _ _ rfl rfl rfl rfl (fun b => #[true, true, true, false, false, false, false, false, false, b, false, false]) (fun b ac W => ∃ sv1 sv2 sv3 sv4 sv5 sv6 p9 : Value, ac = F sv1 sv2 sv3 sv4 sv5 sv6 p9 ∧ Hid (L9 wr.drew R (q + 5 + 6 * j + 4 + s) 0 b sv1 sv2 p9 W)) (fun b ac W => ∃ sv1 sv2 sv3 sv4 sv5 sv6 p9 : Value, ac = F sv1 sv2 sv3 sv4 sv5 sv6 p9 ∧ Hid (L9 wr.drew R (q + 5 + 6 * j + 4 + s) 1 b sv1 sv2 p9 W)) ?_ ?_ ?_ ?_ ?_ false _ _ ?_
          · intro b; cases b <;> kernel_rfl
          · kernel_rfl
          · intro b ac W hI
            rw [show 7 + PhaseIn.left1 b = 6 + PhaseIn.left1 b + 1 by omega, show ((fun b => #[true, true, true, false, false, false, false, false, false, b, false, false]) b).setIfInBounds 3 true = (fun b => #[true, true, true, true, false, false, false, false, false, b, false, false]) b from by cases b <;> kernel_rfl]
            refine PhaseIn.layer1 (F := 6) 4 9 _ _ rfl rfl rfl rfl (fun b => #[true, true, true, true, false, false, false, false, false, b, false, false]) (fun b ac W => ∃ sv1 sv2 sv3 sv4 sv5 sv6 p9 : Value, ac = F sv1 sv2 sv3 sv4 sv5 sv6 p9 ∧ Hid (L9 wr.drew R (q + 5 + 6 * j + 4 + s) 1 b sv1 sv2 p9 W)) (fun b ac W => ∃ sv1 sv2 sv3 sv4 sv5 sv6 p9 : Value, ac = F sv1 sv2 sv3 sv4 sv5 sv6 p9 ∧ Hid (L9 wr.drew R (q + 5 + 6 * j + 4 + s) 2 b sv1 sv2 p9 W)) ?_ ?_ ?_ ?_ ?_ b _ _ hI
            · intro b; cases b <;> kernel_rfl
            · kernel_rfl
            · intro b ac W hI
              rw [show 6 + PhaseIn.left1 b = 5 + PhaseIn.left1 b + 1 by omega, show ((fun b => #[true, true, true, true, false, false, false, false, false, b, false, false]) b).setIfInBounds 4 true = (fun b => #[true, true, true, true, true, false, false, false, false, b, false, false]) b from by cases b <;> kernel_rfl]
              refine PhaseIn.layer1 (F := 5) 5 9 _ _ rfl rfl rfl rfl (fun b => #[true, true, true, true, true, false, false, false, false, b, false, false]) (fun b ac W => ∃ sv1 sv2 sv3 sv4 sv5 sv6 p9 : Value, ac = F sv1 sv2 sv3 sv4 sv5 sv6 p9 ∧ Hid (L9 wr.drew R (q + 5 + 6 * j + 4 + s) 2 b sv1 sv2 p9 W)) (fun b ac W => ∃ (a3 : Option Addr) (c3 : Nat) (qs : List Mono) (T : Bool) (sv1 sv2 p9 : Value) (sv4 sv5 sv6 : Value), ac = F sv1 sv2 (Value.tuple #[Value.agg #[Value.slice a3 qs.length c3], Value.bool T]) sv4 sv5 sv6 p9 ∧ Hid (E9 wr.drew R (q + 5 + 6 * j + 4 + s) b p9 a3 c3 qs W)) ?_ ?_ ?_ ?_ ?_ b _ _ hI
              · intro b; cases b <;> kernel_rfl
              · kernel_rfl
              · intro b ac W hI
                rw [show 5 + PhaseIn.left1 b = 4 + PhaseIn.left1 b + 1 by omega, show ((fun b => #[true, true, true, true, true, false, false, false, false, b, false, false]) b).setIfInBounds 5 true = (fun b => #[true, true, true, true, true, true, false, false, false, b, false, false]) b from by cases b <;> kernel_rfl]
                refine PhaseIn.thru1 (F := 4) (fun b => #[true, true, true, true, true, true, false, false, false, b, false, false]) (fun b => #[true, true, true, true, true, true, true, false, false, b, false, false]) (fun b ac W => ∃ (a3 : Option Addr) (c3 : Nat) (qs : List Mono) (T : Bool) (sv1 sv2 p9 : Value) (sv4 sv5 sv6 : Value), ac = F sv1 sv2 (Value.tuple #[Value.agg #[Value.slice a3 qs.length c3], Value.bool T]) sv4 sv5 sv6 p9 ∧ Hid (E9 wr.drew R (q + 5 + 6 * j + 4 + s) b p9 a3 c3 qs W)) (fun b ac W => ∃ (a3 : Option Addr) (c3 : Nat) (qs : List Mono) (T : Bool) (sv1 sv2 p9 : Value) (sv5 sv6 : Value), ac = F sv1 sv2 (Value.tuple #[Value.agg #[Value.slice a3 qs.length c3], Value.bool T]) (Value.tuple #[Value.agg #[Value.slice a3 qs.length c3], Value.bool T]) sv5 sv6 p9 ∧ Hid (E9 wr.drew R (q + 5 + 6 * j + 4 + s) b p9 a3 c3 qs W)) ?_ ?_ b _ _ hI
                · intro b ac W hI
                  rw [show 4 + PhaseIn.left1 b = 3 + PhaseIn.left1 b + 1 by omega]
                  refine PhaseIn.thru1 (F := 3) (fun b => #[true, true, true, true, true, true, true, false, false, b, false, false]) (fun b => #[true, true, true, true, true, true, true, true, false, b, false, false]) (fun b ac W => ∃ (a3 : Option Addr) (c3 : Nat) (qs : List Mono) (T : Bool) (sv1 sv2 p9 : Value) (sv5 sv6 : Value), ac = F sv1 sv2 (Value.tuple #[Value.agg #[Value.slice a3 qs.length c3], Value.bool T]) (Value.tuple #[Value.agg #[Value.slice a3 qs.length c3], Value.bool T]) sv5 sv6 p9 ∧ Hid (E9 wr.drew R (q + 5 + 6 * j + 4 + s) b p9 a3 c3 qs W)) (fun b ac W => ∃ (a3 : Option Addr) (c3 : Nat) (qs : List Mono) (T : Bool) (sv1 sv2 p9 : Value) (sv6 : Value), ac = F sv1 sv2 (Value.tuple #[Value.agg #[Value.slice a3 qs.length c3], Value.bool T]) (Value.tuple #[Value.agg #[Value.slice a3 qs.length c3], Value.bool T]) (Value.agg #[Value.slice a3 qs.length c3]) sv6 p9 ∧ Hid (E9 wr.drew R (q + 5 + 6 * j + 4 + s) b p9 a3 c3 qs W)) ?_ ?_ b _ _ hI
                  · intro b ac W hI
                    rw [show 3 + PhaseIn.left1 b = 2 + PhaseIn.left1 b + 1 by omega]
                    refine PhaseIn.thru1 (F := 2) (fun b => #[true, true, true, true, true, true, true, true, false, b, false, false]) (fun b => #[true, true, true, true, true, true, true, true, true, b, false, false]) (fun b ac W => ∃ (a3 : Option Addr) (c3 : Nat) (qs : List Mono) (T : Bool) (sv1 sv2 p9 : Value) (sv6 : Value), ac = F sv1 sv2 (Value.tuple #[Value.agg #[Value.slice a3 qs.length c3], Value.bool T]) (Value.tuple #[Value.agg #[Value.slice a3 qs.length c3], Value.bool T]) (Value.agg #[Value.slice a3 qs.length c3]) sv6 p9 ∧ Hid (E9 wr.drew R (q + 5 + 6 * j + 4 + s) b p9 a3 c3 qs W)) (fun b ac W => ∃ (a3 : Option Addr) (c3 : Nat) (qs : List Mono) (T : Bool) (sv1 sv2 p9 : Value), ac = F sv1 sv2 (Value.tuple #[Value.agg #[Value.slice a3 qs.length c3], Value.bool T]) (Value.tuple #[Value.agg #[Value.slice a3 qs.length c3], Value.bool T]) (Value.agg #[Value.slice a3 qs.length c3]) (Value.bool T) p9 ∧ Hid (E9 wr.drew R (q + 5 + 6 * j + 4 + s) b p9 a3 c3 qs W)) ?_ ?_ b _ _ hI
                    · refine PhaseIn.last1 (F := 2) 9 _ rfl rfl (fun b => #[true, true, true, true, true, true, true, true, true, b, false, false]) (fun b ac W => ∃ (a3 : Option Addr) (c3 : Nat) (qs : List Mono) (T : Bool) (sv1 sv2 p9 : Value), ac = F sv1 sv2 (Value.tuple #[Value.agg #[Value.slice a3 qs.length c3], Value.bool T]) (Value.tuple #[Value.agg #[Value.slice a3 qs.length c3], Value.bool T]) (Value.agg #[Value.slice a3 qs.length c3]) (Value.bool T) p9 ∧ Hid (E9 wr.drew R (q + 5 + 6 * j + 4 + s) b p9 a3 c3 qs W)) ?_ ?_ ?_ ?_
                      · kernel_rfl
                      · kernel_rfl
                      · rintro ac W K ⟨a3, c3, qs, T, sv1, sv2, p9, rfl, S0⟩ hK
                        unfold Oper.wpIn
                        subst hF
                        refine ⟨fun _ _ => trivial, ?_⟩
                        go_simp
                        have S' := hide (S0.out.box 25)
                        try simp only [Act.put, List.setIfInBounds_toArray, List.set]
                        exact hK _ _ (rec_keep RX.out S'.out.kp (by omega)) ⟨a3, c3, qs, T, sv1, sv2, _, rfl, S'⟩
                      · rintro ac W ⟨a3, c3, qs, T, sv1, sv2, p9, rfl, S0⟩
                        obtain ⟨Z, rfl, RZ, zd⟩ := S0.out.z rfl
                        subst hF
                        dsimp only
                        refine PhaseIn.one (i := 10) (by kernel_rfl) rfl (by kernel_rfl) (fun K hK => ?_)
                        refine layInP _ _ rfl Z _ RZ rfl a3 qs.length c3 rfl ?_
                        intro V RV TV
                        have DN := hide (S0.out.over RV.out TV.out)
                        refine hK _ _ (fun _ => (rec_keep RX.out DN.out.kp (by omega))) ?_
                        clear hK K RV TV S0 RZ
                        try simp only [Act.put, List.setIfInBounds_toArray, List.set]
                        have hHeld := rec_keep RX.out DN.out.kp (by omega)
                        refine PhaseIn.takeD (i := 11) (v := ?_) [11] 10 rfl (by rfl) (by kernel_rfl) (by kernel_rfl) (by kernel_rfl) (by kernel_rfl) (by kernel_rfl) (fun _ _ _ h => h) (Or.inl ⟨by kernel_rfl, ?_⟩) hHeld ?_
                        rotate_left
                        · intro w' hSw
                          (try dsimp only at hSw)
                          go_simp
                          first | done | with_reducible rfl
                        try simp only [Act.put, List.setIfInBounds_toArray, List.set]
                        refine PhaseIn.done (by kernel_rfl) ?_ _
                        clear hHeld
                        have RV := hide (rec_keep RX.out DN.out.kp (by omega))
                        have KN := hide ((KV.out.trans (Keep.of_below (Below.refl _ _).drew)).trans DN.out.kp)
                        have HN := hide (show Rd R (q + 5 + 6 * j + 4 + (s + 1)) V from DN.out.rd)
                        have EN := hide (show p + (s + 1) = X by have := ES.out; omega)
                        have kw : wrap64 (p : Int) = (p : Int) := by have := EN.out; unfold wrap64; omega
                        cases T with
                        | false =>
                          have PN := hide (((P7.out.below (Below.refl _ _).drew).keep DN.out.kp (fun h => h rfl)))
                          clear DN P7 Z7 KV H7 RX ES
                          try dsimp only
                          repeat go_step
                          rw [kw]
                          exact ⟨⟨p, s + 1, a7, c7, ms, rfl, EN, RV, PN, HN, KN⟩, by simp [intOf] <;> omega⟩
                        | true =>
                          have z9 := DN.out.rz.cell 0 _ rfl
                          have s7 := RV.out.soft 0
                          have e7 := RV.out.cell 0 _ rfl
                          have F1 : Hid (Rec X7 [.slice a3 qs.length c3] (V.setCell ⟨X7, 0, none⟩ (.slice a3 qs.length c3))) := RV.out.set 0 (.slice a3 qs.length c3) (by simp) rfl
                          have F2 : Hid (PS (V.setCell ⟨X7, 0, none⟩ (.slice a3 qs.length c3)) (fun b => b ≠ R) (.slice a3 qs.length c3) qs) := (DN.out.ps.turn (set_turn X7 V 0 _) (show ¬ wr.drew.heap.size ≤ X7 by have := RX.out.lt; omega)).mono (fun b _ h => by have := H7.out.lt; have h2 : wr.heap.size ≤ b := h; omega)
                          have F3 : Hid (Rd R (q + 5 + 6 * j + 4 + (s + 1)) (V.setCell ⟨X7, 0, none⟩ (.slice a3 qs.length c3))) := rd_turn HN.out (set_turn X7 V 0 _) (by omega) HN.out.lt
                          have F4 : Hid (Keep R v1 (V.setCell ⟨X7, 0, none⟩ (.slice a3 qs.length c3))) := keep_up KN.out (set_turn X7 V 0 _) L7
                          clear DN P7 Z7 KV H7 RX ES RV KN HN
                          try dsimp only
                          repeat go_step
                          rw [kw]
                          exact ⟨⟨p, s + 1, a3, c3, qs, rfl, EN, F1, F2, F3, F4⟩, by simp [intOf] <;> omega⟩
                    · rintro b ac W ⟨a3, c3, qs, T, sv1, sv2, p9, sv6, rfl, S0⟩ hN
                      have hHeld := rec_keep RX.out S0.out.kp (by omega)
                      subst hF
                      cases b
                      all_goals
                        refine PhaseIn.takeD (i := 8) (v := ?_) [8, 11] 55 rfl (by rfl) (by kernel_rfl) (by kernel_rfl) (by kernel_rfl) (by kernel_rfl) (by kernel_rfl) (fun _ _ _ h => h) (Or.inl ⟨by kernel_rfl, ?_⟩) hHeld ?_
                        rotate_left
                        · intro w' hSw
                          (try dsimp only at hSw)
                          go_simp
                          first | done | with_reducible rfl
                        try simp only [Act.put, List.setIfInBounds_toArray, List.set]
                        exact hN _ ⟨a3, c3, qs, T, sv1, sv2, p9, rfl, S0⟩
                  · rintro b ac W ⟨a3, c3, qs, T, sv1, sv2, p9, sv5, sv6, rfl, S0⟩ hN
                    have hHeld := rec_keep RX.out S0.out.kp (by omega)
                    subst hF
                    cases b
                    all_goals
                      refine PhaseIn.takeD (i := 7) (v := ?_) [7, 10, 11] 54 rfl (by rfl) (by kernel_rfl) (by kernel_rfl) (by kernel_rfl) (by kernel_rfl) (by kernel_rfl) (fun _ _ _ h => h) (Or.inl ⟨by kernel_rfl, ?_⟩) hHeld ?_
                      rotate_left
                      · intro w' hSw
                        (try dsimp only at hSw)
                        go_simp
                        first | done | with_reducible rfl
                      try simp only [Act.put, List.setIfInBounds_toArray, List.set]
                      exact hN _ ⟨a3, c3, qs, T, sv1, sv2, p9, sv6, rfl, S0⟩
                · rintro b ac W ⟨a3, c3, qs, T, sv1, sv2, p9, sv4, sv5, sv6, rfl, S0⟩ hN
                  have hHeld := rec_keep RX.out S0.out.kp (by omega)
                  subst hF
                  cases b
                  all_goals
                    refine PhaseIn.takeD (i := 6) (v := ?_) [6, 7, 8, 10, 11] 47 rfl (by rfl) (by kernel_rfl) (by kernel_rfl) (by kernel_rfl) (by kernel_rfl) (by kernel_rfl) (fun _ _ _ h => h) (Or.inl ⟨by kernel_rfl, ?_⟩) hHeld ?_
                    rotate_left
                    · intro w' hSw
                      (try dsimp only at hSw)
                      go_simp
                      first | done | with_reducible rfl
                    try simp only [Act.put, List.setIfInBounds_toArray, List.set]
                    exact hN _ ⟨a3, c3, qs, T, sv1, sv2, p9, sv5, sv6, rfl, S0⟩
              · rintro b ac W K ⟨sv1, sv2, sv3, sv4, sv5, sv6, p9, rfl, S0⟩ hK
                obtain ⟨a2, l2, c2, as2, B2, rfl, r2⟩ := S0.out.c2 (by omega)
                obtain ⟨B1, r1⟩ := (P7.out.below (Below.refl _ _).drew).keep S0.out.kp (fun h => h rfl) |>.read
                have CL := Pol.specMul ms as2 B1 B2 _ _ W r1 r2
                unfold Oper.wpIn
                subst hF
                refine ⟨fun _ _ => trivial, ?_⟩
                go_simp
                refine ⟨rfl, (callsIn_wide.2 CL).mono ?_⟩
                rintro e W' ⟨a3, l3, c3, rfl, W3, hb⟩
                obtain rfl := wp_len W3
                have S' := hide (S0.out.call3 W3 hb)
                try simp only [Act.put, List.setIfInBounds_toArray, List.set]
                exact hK _ _ (rec_keep RX.out S'.out.kp (by omega)) ⟨a3, c3, _, _, _, _, p9, sv4, sv5, sv6, rfl, S'⟩
              · rintro ac W K ⟨sv1, sv2, sv3, sv4, sv5, sv6, p9, rfl, S0⟩ hK
                unfold Oper.wpIn
                subst hF
                refine ⟨fun _ _ => trivial, ?_⟩
                go_simp
                have S' := hide (S0.out.box 25)
                try simp only [Act.put, List.setIfInBounds_toArray, List.set]
                exact hK _ _ (rec_keep RX.out S'.out.kp (by omega)) ⟨sv1, sv2, sv3, sv4, sv5, sv6, _, rfl, S'⟩
            · rintro b ac W K ⟨sv1, sv2, sv3, sv4, sv5, sv6, p9, rfl, S0⟩ hK
              obtain ⟨x, rfl⟩ := S0.out.c1 (by omega)
              have CL := Pol.specAtom x W
              unfold Oper.wpIn
              subst hF
              refine ⟨fun _ _ => trivial, ?_⟩
              go_simp
              refine ⟨rfl, (callsIn_wide.2 CL).mono ?_⟩
              rintro e W' ⟨a2, l2, c2, rfl, W2, hb⟩
              have S' := hide (S0.out.call2 W2 hb)
              try simp only [Act.put, List.setIfInBounds_toArray, List.set]
              exact hK _ _ (rec_keep RX.out S'.out.kp (by omega)) ⟨_, _, sv3, sv4, sv5, sv6, p9, rfl, S'⟩
            · rintro ac W K ⟨sv1, sv2, sv3, sv4, sv5, sv6, p9, rfl, S0⟩ hK
              unfold Oper.wpIn
              subst hF
              refine ⟨fun _ _ => trivial, ?_⟩
              go_simp
              have S' := hide (S0.out.box 25)
              try simp only [Act.put, List.setIfInBounds_toArray, List.set]
              exact hK _ _ (rec_keep RX.out S'.out.kp (by omega)) ⟨sv1, sv2, sv3, sv4, sv5, sv6, _, rfl, S'⟩
          · rintro b ac W K ⟨sv1, sv2, sv3, sv4, sv5, sv6, p9, rfl, S0⟩ hK
            have CL := pick R (q + 5 + 6 * j + 4 + s) 5 W (S0.out.rd0 rfl) (by omega)
            unfold Oper.wpIn
            subst hF
            refine ⟨fun _ _ => trivial, ?_⟩
            go_simp
            refine ⟨rfl, (callsIn_wide.2 CL).mono ?_⟩
            rintro e W' ⟨x, rfl, x0, -, -, h1, k1⟩
            have S' := hide (S0.out.call1 (x := x) h1 k1)
            try simp only [Act.put, List.setIfInBounds_toArray, List.set]
            exact hK _ _ (rec_keep RX.out S'.out.kp (by omega)) ⟨_, sv2, sv3, sv4, sv5, sv6, p9, rfl, S'⟩
          · rintro ac W K ⟨sv1, sv2, sv3, sv4, sv5, sv6, p9, rfl, S0⟩ hK
            unfold Oper.wpIn
            subst hF
            refine ⟨fun _ _ => trivial, ?_⟩
            go_simp
            have S' := hide (S0.out.box 25)
            try simp only [Act.put, List.setIfInBounds_toArray, List.set]
            exact hK _ _ (rec_keep RX.out S'.out.kp (by omega)) ⟨sv1, sv2, sv3, sv4, sv5, sv6, _, rfl, S'⟩
          · exact ⟨_, _, _, _, _, _, _, by rw [hF], hide (L9.new (H7.out.below (Below.refl _ _).drew))⟩
end Go.Proofs.YtckhfpaicnjknaaGreat.Draw
