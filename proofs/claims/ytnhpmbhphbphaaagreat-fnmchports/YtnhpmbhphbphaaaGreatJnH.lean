/-
  Draws: so many words (l20Words), ahead of which instructions interrupts come (l20Irqs).
-/
import Derived.Test.YtnhpmbhphbphaaaGreatJnE
import Derived.Test.YtnhpmbhphbphaaaGreatPushM
namespace Go.Proofs.YtnhpmbhphbphaaaGreat.Draw
set_option linter.unusedVariables false
set_option linter.unusedSimpArgs false
open Go.ChangeShapes Go.WideShapes Go.ChangeAt Go.RowKit Flat
open IntS (Turn hide cell_below)
open Mch (Rec)
open Blk (OwnN)
open PushM (pushN pushI own_built)
theorem own_emptyN {w : World} {lo : Nat} (hlo : lo ≤ w.heap.size) : OwnN (w.alloc (.cells #[] 3)) lo (.slice (some ⟨w.heap.size, 0, none⟩) 0 0) [] :=
  ⟨rfl, Or.inr ⟨w.heap.size, 0, #[], rfl, hlo, by show (w.heap.push _)[w.heap.size]? = _; exact Array.getElem?_push_size, Nat.le_refl _, by unfold maxLen; omega, rfl, rfl⟩⟩
/-- One more int. -/
theorem pushOne {w : World} {ty : TypeId} {lo cap n : Nat} {q : Option Addr} {xs : List Int} (hown : OwnN w lo (.slice q n cap) xs) (hl : xs.length = n) (hn : n ≤ 1000000) (hlo : lo ≤ w.heap.size) (Z : Nat) (y : Int) (hr : w.cell? ⟨Z, 0, none⟩ = some (.int .i64 y)) :
    ∃ g' cap' w' T, (Builtin.append_ #[23, 23] ty #[.slice q n cap, .slice (some ⟨Z, 0, none⟩) 1 1]).run Tryz.prog w = .ok (.slice (some ⟨g', 0, none⟩) (n + 1) cap') w' ∧ OwnN w' lo (.slice (some ⟨g', 0, none⟩) (n + 1) cap') (xs ++ [y]) ∧ Turn T w w' ∧ lo ≤ T :=
  pushN hown hl hn hlo Z 1 1 [y] rfl (Nat.le_refl _) (by omega) (fun j x hx => by
    match j, hx with
    | 0, hx => cases hx; exact hr
    | j + 1, hx => simp at hx)
set_option maxRecDepth 8000 in
set_option maxHeartbeats 8000000 in
theorem words (R q N : Nat) (w : World) (h : Rd R q w) (hq : q ≤ 700000) (hN : N ≤ 1000) :
    Calls Tryz.prog 84 #[.pointer (some ⟨R, 0, none⟩), .int .i64 (N : Int)] w fun e w' => ∃ qs cap xs, e = .returned (.slice qs N cap) ∧ xs.length = N ∧ OwnN w' w.heap.size (.slice qs N cap) xs ∧ (∀ x ∈ xs, 0 ≤ x ∧ x < 65536) ∧ Rd R (q + 3 * N) w' ∧ Keep R w w' := by
  have hR := h.lt
  have K0 : Hid (Keep R w (w.alloc (.cells #[] 3))) := (Keep.refl R w).alloc _
  have H0 := hide (h.alloc (.cells #[] 3))
  have O0 := hide (own_emptyN (w := w) (lo := w.heap.size) (Nat.le_refl _))
  clear h
  go_enter Tryz.func84, Tryz.ntmps84
  go_wp2
  generalize w.alloc (.cells #[] 3) = u0 at K0 H0 O0 ⊢
  go_loopw [5, 6] (fun s i wr => ∃ (j cap : Nat) (qs : Option Addr) (xs : List Int), j ≤ N ∧ i = .int .i64 (j : Int) ∧ s = .slice qs j cap ∧ Hid (xs.length = j) ∧ Hid (OwnN wr w.heap.size (.slice qs j cap) xs) ∧ Hid (∀ x ∈ xs, 0 ≤ x ∧ x < 65536) ∧ Hid (Rd R (q + 3 * j) wr) ∧ Hid (Keep R w wr)) (fun _ i _ => N - (intOf i).toNat)
  case atStart => exact ⟨0, 0, _, [], by omega, rfl, rfl, rfl, O0, hide (fun x hx => absurd hx (by simp)), hide (H0.out.mono (by omega)), K0⟩
  case round =>
    clear O0 H0 K0
    obtain ⟨j, cap, qs, xs, hj, rfl, rfl, EL, OO, WW, HH, KK⟩ := hrel
    by_cases h0 : j < N
    · have lk : ((j : Nat) : Int) < (N : Nat) := by omega
      go_wp2_with fail
      refine (word R (q + 3 * j) wr HH.out (by omega)).mono ?_
      rintro e v2 ⟨y, rfl, y0, y1, h1, k1⟩
      replace OO := hide (OwnF.turn OO.out k1.turn (Or.inl hR))
      replace KK := hide (KK.out.trans k1)
      have H1 := hide h1
      have WN : Hid (∀ x ∈ xs ++ [y], 0 ≤ x ∧ x < 65536) := fun x hx => (List.mem_append.1 hx).elim (WW.out x) (fun hx => by rw [List.mem_singleton.1 hx]; exact ⟨y0, y1⟩)
      clear h1 k1 HH WW y0 y1
      have bP : Below v2.heap.size v2 (v2.alloc (.cells #[.int .i64 y] 3)) := (Below.refl _ _).alloc (Nat.le_refl _) _
      have KP := KK.out.trans (Keep.of_below bP)
      have SP : w.heap.size ≤ (v2.alloc (.cells #[.int .i64 y] 3)).heap.size := KP.size
      obtain ⟨g', cap', w', T, hrun, O2, TT, hT⟩ := pushOne (ty := 23) (OwnF.below OO.out bP) EL.out (by omega) SP v2.heap.size y (by simp)
      have H2 : Hid (Rd R (q + 3 * (j + 1)) w') := (rd_turn (H1.out.below (bP.mono (by have := H1.out.lt; omega))) TT (by omega) (by have := H1.out.lt; have := bP.size; omega)).mono (by omega)
      have K2 := hide (keep_up KP TT hT)
      have OO2 := hide O2
      have E2 : Hid ((xs ++ [y]).length = j + 1) := show _ = _ by rw [List.length_append, EL.out]; rfl
      clear bP KP SP O2 TT hT OO KK H1 EL
      go_wp2_with (at_builtin; refine push_list rfl _ _ rfl rfl rfl hrun ?_; refine Hid.out ?_)
      clear hrun
      refine hide ?_
      go_wp2
      exact ⟨⟨j + 1, cap', _, _, by omega, by go_num, rfl, E2, OO2, WN, H2, K2⟩, by simp [intOf]; omega⟩
    · obtain rfl : j = N := by omega
      go_wp2
      go_ret
      exact ⟨qs, cap, xs, rfl, EL.out, OO.out, WW.out, HH.out, KK.out⟩
set_option maxRecDepth 8000 in
set_option maxHeartbeats 8000000 in
theorem irqs (R q : Nat) (w : World) (h : Rd R q w) (hq : q ≤ 700000) :
    Calls Tryz.prog 45 #[.pointer (some ⟨R, 0, none⟩)] w fun e w' => ∃ qs cap n xs, e = .returned (.slice qs n cap) ∧ xs.length = n ∧ n ≤ 4 ∧ OwnN w' w.heap.size (.slice qs n cap) xs ∧ Rd R (q + 5) w' ∧ Keep R w w' := by
  have hR := h.lt
  have K0 : Hid (Keep R w (w.alloc (.cells #[] 3))) := (Keep.refl R w).alloc _
  have H0 := hide (h.alloc (.cells #[] 3))
  have O0 := hide (own_emptyN (w := w) (lo := w.heap.size) (Nat.le_refl _))
  clear h
  go_enter Tryz.func45, Tryz.ntmps45
  go_wp2_with fail
  generalize w.alloc (.cells #[] 3) = u0 at K0 H0 O0 ⊢
  refine (pick R q 5 u0 H0.out (by omega)).mono ?_
  rintro e u1 ⟨x, rfl, x0, x1, -, h1, k1⟩
  obtain ⟨X, rfl⟩ : ∃ X : Nat, x = X := ⟨x.toNat, by omega⟩
  have X4 : X ≤ 4 := by have := x1 (by omega); omega
  replace O0 := hide (OwnF.turn O0.out k1.turn (Or.inl hR))
  replace K0 := hide (K0.out.trans k1)
  have H1 := hide h1
  clear h1 k1 x0 x1 H0
  go_wp2
  go_loopw [3, 4] (fun s i wr => ∃ (k j cap : Nat) (qs : Option Addr) (xs : List Int), i = .int .i64 (k : Int) ∧ s = .slice qs j cap ∧ Hid (k + j = X ∧ xs.length = j) ∧ Hid (OwnN wr w.heap.size (.slice qs j cap) xs) ∧ Hid (Rd R (q + 1 + j) wr) ∧ Hid (Keep R w wr)) (fun _ i _ => (intOf i).toNat)
  case atStart => exact ⟨X, 0, 0, _, [], rfl, rfl, ⟨Nat.add_zero X, rfl⟩, O0, hide (H1.out.mono (by omega)), K0⟩
  case round =>
    clear O0 H1 K0
    obtain ⟨k, j, cap, qs, xs, rfl, rfl, EE, OO, HH, KK⟩ := hrel
    have j4 : j ≤ 4 := by have := EE.out.1; omega
    by_cases h0 : k = 0
    · subst h0
      have FIN : Hid (Rd R (q + 5) wr) := HH.out.mono (by omega)
      have EL := hide EE.out.2
      clear EE HH
      go_wp2
      go_ret
      exact ⟨qs, cap, j, xs, rfl, EL.out, j4, OO.out, FIN.out, KK.out⟩
    · obtain ⟨m, rfl⟩ : ∃ m, k = m + 1 := ⟨k - 1, by omega⟩
      have gt : (0 : Int) < ((m + 1 : Nat) : Int) := by omega
      have EL := hide EE.out.2
      have m4 : m ≤ 4 := by have := EE.out.1; omega
      have E1 : Hid (m + (j + 1) = X) := show _ = _ by have := EE.out.1; omega
      clear EE
      go_wp2_with fail
      refine (pick R (q + 1 + j) 50 wr HH.out (by omega)).mono ?_
      rintro e v2 ⟨y, rfl, -, -, -, h1, k1⟩
      replace OO := hide (OwnF.turn OO.out k1.turn (Or.inl hR))
      replace KK := hide (KK.out.trans k1)
      have H1 := hide h1
      clear h1 k1 HH
      have bP : Below v2.heap.size v2 (v2.alloc (.cells #[.int .i64 y] 3)) := (Below.refl _ _).alloc (Nat.le_refl _) _
      have KP := KK.out.trans (Keep.of_below bP)
      have SP : w.heap.size ≤ (v2.alloc (.cells #[.int .i64 y] 3)).heap.size := KP.size
      obtain ⟨g', cap', w', T, hrun, O2, TT, hT⟩ := pushOne (ty := 23) (OwnF.below OO.out bP) EL.out (by omega) SP v2.heap.size y (by simp)
      have H2 : Hid (Rd R (q + 1 + (j + 1)) w') := (rd_turn (H1.out.below (bP.mono (by have := H1.out.lt; omega))) TT (by omega) (by have := H1.out.lt; have := bP.size; omega)).mono (by omega)
      have K2 := hide (keep_up KP TT hT)
      have OO2 := hide O2
      have E2 : Hid (m + (j + 1) = X ∧ (xs ++ [y]).length = j + 1) := ⟨E1.out, by rw [List.length_append, EL.out]; rfl⟩
      have ki : (((m + 1 : Nat) : Int) - 1) = (m : Int) := by omega
      clear bP KP SP O2 TT hT OO KK H1 EL E1
      go_wp2_with (at_builtin; refine push_list rfl _ _ rfl rfl rfl hrun ?_; refine Hid.out ?_)
      clear hrun
      refine hide ?_
      go_wp2
      exact ⟨⟨m, j + 1, cap', _, _, by first | rfl | (rw [ki]; done) | (simp; done) | (simp; omega), rfl, E2, OO2, H2, K2⟩, by simp [intOf] <;> omega⟩
end Go.Proofs.YtnhpmbhphbphaaaGreat.Draw
namespace Go.Proofs.YtnhpmbhphbphaaaGreat.Draw
set_option linter.unusedVariables false
set_option linter.unusedSimpArgs false
open Go.ChangeShapes Go.WideShapes Go.ChangeAt Go.RowKit Flat
open IntS (Turn hide cell_below)
open Mch (Rec)
open InsS (In4 OwnI flatI)
open PushM (pushI own_built)
theorem lit_cells {w : World} {t : TypeId} {fs : List Int} (j : Nat) (x : Int) (h : fs[j]? = some x) : (w.alloc (.cells (fs.map fun v => Value.int .i64 v).toArray t)).cell? ⟨w.heap.size, j, none⟩ = some (.int .i64 x) := by
  rw [World.cell?_alloc_new]
  simp [h]
/-- One more instruction. -/
theorem pushOneI {w : World} {ty : TypeId} {lo cap n : Nat} {q : Option Addr} {is : List In4} (hown : OwnI w lo (.slice q n cap) is) (hl : is.length = n) (hn : n ≤ 1000000) (hlo : lo ≤ w.heap.size) (op d a k : Int) :
    ∃ g' cap' w' T, (Builtin.append_ #[107, 107] ty #[.slice q n cap, .slice (some ⟨w.heap.size, 0, none⟩) 1 1]).run Tryz.prog (w.alloc (.cells #[.int .i64 op, .int .i64 d, .int .i64 a, .int .i64 k] 38)) = .ok (.slice (some ⟨g', 0, none⟩) (n + 1) cap') w' ∧ OwnI w' lo (.slice (some ⟨g', 0, none⟩) (n + 1) cap') (is ++ [⟨op, d, a, k⟩]) ∧ Turn T (w.alloc (.cells #[.int .i64 op, .int .i64 d, .int .i64 a, .int .i64 k] 38)) w' ∧ lo ≤ T :=
  pushI (hown.below ((Below.refl _ _).alloc (Nat.le_refl _) _)) hl hn (by simp; omega) w.heap.size 1 1 [⟨op, d, a, k⟩] rfl (Nat.le_refl _) (by omega) (fun j x hx => lit_cells (fs := [op, d, a, k]) j x hx)
/-- Three more. -/
theorem pushThree {w : World} {ty : TypeId} {lo cap n : Nat} {q : Option Addr} {is : List In4} (hown : OwnI w lo (.slice q n cap) is) (hl : is.length = n) (hn : n ≤ 1000000) (hlo : lo ≤ w.heap.size) (y : Int) :
    ∃ g' cap' w' T, (Builtin.append_ #[107, 107] ty #[.slice q n cap, .slice (some ⟨w.heap.size, 0, none⟩) 3 3]).run Tryz.prog (w.alloc (.cells #[.int .i64 4, .int .i64 0, .int .i64 0, .int .i64 1, .int .i64 7, .int .i64 2, .int .i64 2, .int .i64 2, .int .i64 12, .int .i64 2, .int .i64 0, .int .i64 y] 38)) = .ok (.slice (some ⟨g', 0, none⟩) (n + 3) cap') w' ∧ OwnI w' lo (.slice (some ⟨g', 0, none⟩) (n + 3) cap') (is ++ [⟨4, 0, 0, 1⟩, ⟨7, 2, 2, 2⟩, ⟨12, 2, 0, y⟩]) ∧ Turn T (w.alloc (.cells #[.int .i64 4, .int .i64 0, .int .i64 0, .int .i64 1, .int .i64 7, .int .i64 2, .int .i64 2, .int .i64 2, .int .i64 12, .int .i64 2, .int .i64 0, .int .i64 y] 38)) w' ∧ lo ≤ T :=
  pushI (hown.below ((Below.refl _ _).alloc (Nat.le_refl _) _)) hl hn (by simp; omega) w.heap.size 3 3 [⟨4, 0, 0, 1⟩, ⟨7, 2, 2, 2⟩, ⟨12, 2, 0, y⟩] rfl (by omega) (by omega) (fun j x hx => lit_cells (fs := [4, 0, 0, 1, 7, 2, 2, 2, 12, 2, 0, y]) j x hx)
set_option maxRecDepth 8000 in
set_option maxHeartbeats 8000000 in
theorem body (R q : Nat) (t : Nat) (w : World) (h : Rd R q w) (hq : q ≤ 600000) (ht : t ≤ 1000) :
    Calls Tryz.prog 96 #[.pointer (some ⟨R, 0, none⟩), .int .i64 (t : Int)] w fun e w' => ∃ (g cap n : Nat) (is : List In4), e = .returned (.slice (some ⟨g, 0, none⟩) n cap) ∧ is.length = n ∧ 1 ≤ n ∧ n ≤ 9 ∧ OwnI w' w.heap.size (.slice (some ⟨g, 0, none⟩) n cap) is ∧ Rd R (q + 27) w' ∧ Keep R w w' := by
  have hR := h.lt
  go_enter Tryz.func96, Tryz.ntmps96
  go_wp2_with fail
  refine (pick R q 6 _ h (by omega)).mono ?_
  rintro e u1 ⟨x, rfl, x0, x1, -, h1, k1⟩
  replace x1 := x1 (by omega)
  have K1 := hide k1
  clear k1 h
  go_wp2_with fail
  refine (pick R (q + 1) 3 u1 h1 (by omega)).mono ?_
  rintro e u2 ⟨y, rfl, y0, y1, -, h2, k2⟩
  replace K1 := hide (K1.out.trans k2)
  have H2 := hide h2
  clear h1 k2
  have bL : Below u2.heap.size u2 (u2.alloc (.cells #[.int .i64 1, .int .i64 0, .int .i64 0, .int .i64 (1 + x), .int .i64 1, .int .i64 1, .int .i64 0, .int .i64 1, .int .i64 1, .int .i64 2, .int .i64 0, .int .i64 y] 38)) := (Below.refl _ _).alloc (Nat.le_refl _) _
  have O0 : Hid (OwnI (u2.alloc (.cells #[.int .i64 1, .int .i64 0, .int .i64 0, .int .i64 (1 + x), .int .i64 1, .int .i64 1, .int .i64 0, .int .i64 1, .int .i64 1, .int .i64 2, .int .i64 0, .int .i64 y] 38)) w.heap.size (.slice (some ⟨u2.heap.size, 0, none⟩) 3 3) [⟨1, 0, 0, 1 + x⟩, ⟨1, 1, 0, 1⟩, ⟨1, 2, 0, y⟩]) := own_built (fs := [1, 0, 0, 1 + x, 1, 1, 0, 1, 1, 2, 0, y]) K1.out.size rfl (by omega)
  have K0 := hide (K1.out.trans (Keep.of_below bL))
  have H0 := hide (H2.out.below (bL.mono (by have := H2.out.lt; omega)))
  have hR0 : Hid (R < u2.heap.size) := H2.out.lt
  clear bL K1 H2
  go_wp2_with fail
  generalize u2.alloc (.cells #[.int .i64 1, .int .i64 0, .int .i64 0, .int .i64 (1 + x), .int .i64 1, .int .i64 1, .int .i64 0, .int .i64 1, .int .i64 1, .int .i64 2, .int .i64 0, .int .i64 y] 38) = u3 at O0 K0 H0 ⊢
  generalize u2.heap.size = g0 at O0 ⊢
  refine (pick R (q + 2) 4 u3 H0.out (by omega)).mono ?_
  rintro e u4 ⟨z, rfl, z0, z1, -, h4, k4⟩
  obtain ⟨X, rfl⟩ : ∃ X : Nat, z = X := ⟨z.toNat, by omega⟩
  have X3 : X ≤ 3 := by have := z1 (by omega); omega
  replace O0 := hide (OwnF.turn O0.out k4.turn (Or.inl hR))
  replace K0 := hide (K0.out.trans k4)
  have H4 := hide h4
  clear h4 k4 z0 z1 H0 hR0
  go_wp2
  go_loopw [6, 7] (fun s i wr => ∃ (k j n cap g : Nat) (is : List In4), i = .int .i64 (k : Int) ∧ s = .slice (some ⟨g, 0, none⟩) n cap ∧ Hid (k + j = X ∧ is.length = n ∧ n = j + 3) ∧ Hid (OwnI wr w.heap.size (.slice (some ⟨g, 0, none⟩) n cap) is) ∧ Hid (Rd R (q + 3 + 8 * j) wr) ∧ Hid (Keep R w wr)) (fun _ i _ => (intOf i).toNat)
  case atStart => exact ⟨X, 0, 3, 3, g0, _, rfl, rfl, ⟨Nat.add_zero X, rfl, rfl⟩, O0, hide (H4.out.mono (by omega)), K0⟩
  case round =>
    clear O0 H4 K0
    obtain ⟨k, j, n, cap, g, is, rfl, rfl, EE, OO, HH, KK⟩ := hrel
    have j3 : j ≤ 3 := by have := EE.out.1; omega
    have n6 : n ≤ 6 := by have := EE.out.2.2; omega
    by_cases h0 : k = 0
    · subst h0
      have EL := hide EE.out.2.1
      have E3 : Hid (1 ≤ n + 3 ∧ n + 3 ≤ 9) := ⟨by omega, by omega⟩
      obtain ⟨g', cap', w', T, hrun, O2, TT, hT⟩ := pushThree (ty := 107) OO.out EL.out (by omega) KK.out.size ((t : Int) + 3)
      have bP : Below wr.heap.size wr (wr.alloc (.cells #[.int .i64 4, .int .i64 0, .int .i64 0, .int .i64 1, .int .i64 7, .int .i64 2, .int .i64 2, .int .i64 2, .int .i64 12, .int .i64 2, .int .i64 0, .int .i64 ((t : Int) + 3)] 38)) := (Below.refl _ _).alloc (Nat.le_refl _) _
      have FIN : Hid (OwnI w' w.heap.size (.slice (some ⟨g', 0, none⟩) (n + 3) cap') (is ++ [⟨4, 0, 0, 1⟩, ⟨7, 2, 2, 2⟩, ⟨12, 2, 0, (t : Int) + 3⟩]) ∧ Rd R (q + 27) w' ∧ Keep R w w') := ⟨O2, (rd_turn (HH.out.below (bP.mono (by have := HH.out.lt; omega))) TT (by omega) (by have := HH.out.lt; have := bP.size; omega)).mono (by omega), keep_up (KK.out.trans (Keep.of_below bP)) TT hT⟩
      clear bP O2 TT hT OO KK HH EE
      go_wp2_with (at_builtin; refine push_list rfl _ _ rfl rfl rfl hrun ?_; refine Hid.out ?_)
      clear hrun
      refine hide ?_
      go_wp2
      go_ret
      exact ⟨g', cap', n + 3, _, rfl, by rw [List.length_append, EL.out]; rfl, E3.out.1, E3.out.2, FIN.out⟩
    · obtain ⟨m, rfl⟩ : ∃ m, k = m + 1 := ⟨k - 1, by omega⟩
      have gt : (0 : Int) < ((m + 1 : Nat) : Int) := by omega
      have EL := hide EE.out.2.1
      have m3 : m ≤ 3 := by have := EE.out.1; omega
      have E1 : Hid (m + (j + 1) = X ∧ n + 1 = (j + 1) + 3) := ⟨by have := EE.out.1; omega, by have := EE.out.2.2; omega⟩
      clear EE
      go_wp2_with fail
      refine (flat R (q + 3 + 8 * j) wr HH.out (by omega)).mono ?_
      rintro e v2 ⟨op, d, a, c, rfl, h1, k1⟩
      replace OO := hide (OwnF.turn OO.out k1.turn (Or.inl hR))
      replace KK := hide (KK.out.trans k1)
      have H1 := hide h1
      clear h1 k1 HH
      by_cases c0 : d < 2
      · by_cases c1 : op = 10
        · subst c1
          have bP : Below v2.heap.size v2 (v2.alloc (.cells #[.int .i64 10, .int .i64 d, .int .i64 a, .int .i64 c] 38)) := (Below.refl _ _).alloc (Nat.le_refl _) _
          have OP := hide (OwnF.below OO.out bP)
          have KP := hide (KK.out.trans (Keep.of_below bP))
          have HP := hide (H1.out.below (bP.mono (by have := H1.out.lt; omega)))
          have EP : Hid ((v2.alloc (.cells #[.int .i64 10, .int .i64 d, .int .i64 a, .int .i64 c] 38)).heap.size = v2.heap.size + 1) := show _ = _ by simp
          clear OO KK H1 bP
          obtain ⟨g', cap', w', T, hrun, O2, TT, hT⟩ := pushOneI (ty := 107) OP.out EL.out (by omega) KP.out.size 10 (d) a c
          have bQ : Below (v2.alloc (.cells #[.int .i64 10, .int .i64 d, .int .i64 a, .int .i64 c] 38)).heap.size (v2.alloc (.cells #[.int .i64 10, .int .i64 d, .int .i64 a, .int .i64 c] 38)) ((v2.alloc (.cells #[.int .i64 10, .int .i64 d, .int .i64 a, .int .i64 c] 38)).alloc (.cells #[.int .i64 10, .int .i64 d, .int .i64 a, .int .i64 c] 38)) := (Below.refl _ _).alloc (Nat.le_refl _) _
          have H2 : Hid (Rd R (q + 3 + 8 * (j + 1)) w') := (rd_turn (HP.out.below (bQ.mono (by have := HP.out.lt; omega))) TT (by omega) (by have := HP.out.lt; have := bQ.size; omega)).mono (by omega)
          have K2 := hide (keep_up (KP.out.trans (Keep.of_below bQ)) TT hT)
          have OO2 := hide O2
          have EE2 : Hid (m + (j + 1) = X ∧ (is ++ [(⟨10, d, a, c⟩ : In4)]).length = n + 1 ∧ n + 1 = (j + 1) + 3) := ⟨E1.out.1, by rw [List.length_append, EL.out]; rfl, E1.out.2⟩
          have ki : (((m + 1 : Nat) : Int) - 1) = (m : Int) := by omega
          rw [EP.out] at hrun
          clear bQ KP HP OP O2 TT hT EL E1 EP
          go_wp2_with (at_builtin; refine push_list rfl _ _ rfl rfl rfl hrun ?_; refine Hid.out ?_)
          clear hrun
          refine hide ?_
          go_wp2
          exact ⟨⟨m, j + 1, n + 1, cap', g', _, by first | rfl | (rw [ki]; done) | (simp; done) | (simp; omega), rfl, EE2, OO2, H2, K2⟩, by simp [intOf] <;> omega⟩
        · by_cases c2 : op = 14
          · subst c2
            have bP : Below v2.heap.size v2 (v2.alloc (.cells #[.int .i64 14, .int .i64 d, .int .i64 a, .int .i64 c] 38)) := (Below.refl _ _).alloc (Nat.le_refl _) _
            have OP := hide (OwnF.below OO.out bP)
            have KP := hide (KK.out.trans (Keep.of_below bP))
            have HP := hide (H1.out.below (bP.mono (by have := H1.out.lt; omega)))
            have EP : Hid ((v2.alloc (.cells #[.int .i64 14, .int .i64 d, .int .i64 a, .int .i64 c] 38)).heap.size = v2.heap.size + 1) := show _ = _ by simp
            clear OO KK H1 bP
            obtain ⟨g', cap', w', T, hrun, O2, TT, hT⟩ := pushOneI (ty := 107) OP.out EL.out (by omega) KP.out.size 14 (d) a c
            have bQ : Below (v2.alloc (.cells #[.int .i64 14, .int .i64 d, .int .i64 a, .int .i64 c] 38)).heap.size (v2.alloc (.cells #[.int .i64 14, .int .i64 d, .int .i64 a, .int .i64 c] 38)) ((v2.alloc (.cells #[.int .i64 14, .int .i64 d, .int .i64 a, .int .i64 c] 38)).alloc (.cells #[.int .i64 14, .int .i64 d, .int .i64 a, .int .i64 c] 38)) := (Below.refl _ _).alloc (Nat.le_refl _) _
            have H2 : Hid (Rd R (q + 3 + 8 * (j + 1)) w') := (rd_turn (HP.out.below (bQ.mono (by have := HP.out.lt; omega))) TT (by omega) (by have := HP.out.lt; have := bQ.size; omega)).mono (by omega)
            have K2 := hide (keep_up (KP.out.trans (Keep.of_below bQ)) TT hT)
            have OO2 := hide O2
            have EE2 : Hid (m + (j + 1) = X ∧ (is ++ [(⟨14, d, a, c⟩ : In4)]).length = n + 1 ∧ n + 1 = (j + 1) + 3) := ⟨E1.out.1, by rw [List.length_append, EL.out]; rfl, E1.out.2⟩
            have ki : (((m + 1 : Nat) : Int) - 1) = (m : Int) := by omega
            rw [EP.out] at hrun
            clear bQ KP HP OP O2 TT hT EL E1 EP
            go_wp2_with (at_builtin; refine push_list rfl _ _ rfl rfl rfl hrun ?_; refine Hid.out ?_)
            clear hrun
            refine hide ?_
            go_wp2
            exact ⟨⟨m, j + 1, n + 1, cap', g', _, by first | rfl | (rw [ki]; done) | (simp; done) | (simp; omega), rfl, EE2, OO2, H2, K2⟩, by simp [intOf] <;> omega⟩
          · have m1 : (op != 10) = true := bne_iff_ne.2 c1
            have m2 : (op != 14) = true := bne_iff_ne.2 c2
            have bP : Below v2.heap.size v2 (v2.alloc (.cells #[.int .i64 op, .int .i64 3, .int .i64 a, .int .i64 c] 38)) := (Below.refl _ _).alloc (Nat.le_refl _) _
            have OP := hide (OwnF.below OO.out bP)
            have KP := hide (KK.out.trans (Keep.of_below bP))
            have HP := hide (H1.out.below (bP.mono (by have := H1.out.lt; omega)))
            have EP : Hid ((v2.alloc (.cells #[.int .i64 op, .int .i64 3, .int .i64 a, .int .i64 c] 38)).heap.size = v2.heap.size + 1) := show _ = _ by simp
            clear OO KK H1 bP
            obtain ⟨g', cap', w', T, hrun, O2, TT, hT⟩ := pushOneI (ty := 107) OP.out EL.out (by omega) KP.out.size op (3) a c
            have bQ : Below (v2.alloc (.cells #[.int .i64 op, .int .i64 3, .int .i64 a, .int .i64 c] 38)).heap.size (v2.alloc (.cells #[.int .i64 op, .int .i64 3, .int .i64 a, .int .i64 c] 38)) ((v2.alloc (.cells #[.int .i64 op, .int .i64 3, .int .i64 a, .int .i64 c] 38)).alloc (.cells #[.int .i64 op, .int .i64 3, .int .i64 a, .int .i64 c] 38)) := (Below.refl _ _).alloc (Nat.le_refl _) _
            have H2 : Hid (Rd R (q + 3 + 8 * (j + 1)) w') := (rd_turn (HP.out.below (bQ.mono (by have := HP.out.lt; omega))) TT (by omega) (by have := HP.out.lt; have := bQ.size; omega)).mono (by omega)
            have K2 := hide (keep_up (KP.out.trans (Keep.of_below bQ)) TT hT)
            have OO2 := hide O2
            have EE2 : Hid (m + (j + 1) = X ∧ (is ++ [(⟨op, 3, a, c⟩ : In4)]).length = n + 1 ∧ n + 1 = (j + 1) + 3) := ⟨E1.out.1, by rw [List.length_append, EL.out]; rfl, E1.out.2⟩
            have ki : (((m + 1 : Nat) : Int) - 1) = (m : Int) := by omega
            rw [EP.out] at hrun
            clear bQ KP HP OP O2 TT hT EL E1 EP
            go_wp2_with (at_builtin; refine push_list rfl _ _ rfl rfl rfl hrun ?_; refine Hid.out ?_)
            clear hrun
            refine hide ?_
            go_wp2
            exact ⟨⟨m, j + 1, n + 1, cap', g', _, by first | rfl | (rw [ki]; done) | (simp; done) | (simp; omega), rfl, EE2, OO2, H2, K2⟩, by simp [intOf] <;> omega⟩
      · have c3 : ¬ d < 2 := c0
        have bP : Below v2.heap.size v2 (v2.alloc (.cells #[.int .i64 op, .int .i64 d, .int .i64 a, .int .i64 c] 38)) := (Below.refl _ _).alloc (Nat.le_refl _) _
        have OP := hide (OwnF.below OO.out bP)
        have KP := hide (KK.out.trans (Keep.of_below bP))
        have HP := hide (H1.out.below (bP.mono (by have := H1.out.lt; omega)))
        have EP : Hid ((v2.alloc (.cells #[.int .i64 op, .int .i64 d, .int .i64 a, .int .i64 c] 38)).heap.size = v2.heap.size + 1) := show _ = _ by simp
        clear OO KK H1 bP
        obtain ⟨g', cap', w', T, hrun, O2, TT, hT⟩ := pushOneI (ty := 107) OP.out EL.out (by omega) KP.out.size op (d) a c
        have bQ : Below (v2.alloc (.cells #[.int .i64 op, .int .i64 d, .int .i64 a, .int .i64 c] 38)).heap.size (v2.alloc (.cells #[.int .i64 op, .int .i64 d, .int .i64 a, .int .i64 c] 38)) ((v2.alloc (.cells #[.int .i64 op, .int .i64 d, .int .i64 a, .int .i64 c] 38)).alloc (.cells #[.int .i64 op, .int .i64 d, .int .i64 a, .int .i64 c] 38)) := (Below.refl _ _).alloc (Nat.le_refl _) _
        have H2 : Hid (Rd R (q + 3 + 8 * (j + 1)) w') := (rd_turn (HP.out.below (bQ.mono (by have := HP.out.lt; omega))) TT (by omega) (by have := HP.out.lt; have := bQ.size; omega)).mono (by omega)
        have K2 := hide (keep_up (KP.out.trans (Keep.of_below bQ)) TT hT)
        have OO2 := hide O2
        have EE2 : Hid (m + (j + 1) = X ∧ (is ++ [(⟨op, d, a, c⟩ : In4)]).length = n + 1 ∧ n + 1 = (j + 1) + 3) := ⟨E1.out.1, by rw [List.length_append, EL.out]; rfl, E1.out.2⟩
        have ki : (((m + 1 : Nat) : Int) - 1) = (m : Int) := by omega
        rw [EP.out] at hrun
        clear bQ KP HP OP O2 TT hT EL E1 EP
        go_wp2_with (at_builtin; refine push_list rfl _ _ rfl rfl rfl hrun ?_; refine Hid.out ?_)
        clear hrun
        refine hide ?_
        go_wp2
        exact ⟨⟨m, j + 1, n + 1, cap', g', _, by first | rfl | (rw [ki]; done) | (simp; done) | (simp; omega), rfl, EE2, OO2, H2, K2⟩, by simp [intOf] <;> omega⟩
set_option maxRecDepth 8000 in
set_option maxHeartbeats 8000000 in
theorem over (R q : Nat) (t : Nat) (w : World) (h : Rd R q w) (hq : q ≤ 600000) (ht : t ≤ 1000) :
    Calls Tryz.prog 97 #[.pointer (some ⟨R, 0, none⟩), .int .i64 (t : Int)] w fun e w' => ∃ (g cap n : Nat) (is : List In4), e = .returned (.slice (some ⟨g, 0, none⟩) n cap) ∧ is.length = n ∧ 1 ≤ n ∧ n ≤ 9 ∧ OwnI w' w.heap.size (.slice (some ⟨g, 0, none⟩) n cap) is ∧ Rd R (q + 27) w' ∧ Keep R w w' := by
  have hR := h.lt
  go_enter Tryz.func97, Tryz.ntmps97
  go_wp2_with fail
  refine (pick R q 40 _ h (by omega)).mono ?_
  rintro e u1 ⟨x, rfl, x0, x1, -, h1, k1⟩
  have K1 := hide k1
  clear k1 h
  go_wp2_with fail
  refine (pick R (q + 1) 5 u1 h1 (by omega)).mono ?_
  rintro e u2 ⟨y, rfl, y0, y1, -, h2, k2⟩
  replace y1 := y1 (by omega)
  replace K1 := hide (K1.out.trans k2)
  clear h1 k2
  have FIN : ∀ (u3 : World) (z : Int), Keep R w u3 → Rd R (q + 1 + 1 + 1) u3 → Hid (∀ mm : Int, ∃ is : List In4, is.length = 4 ∧ OwnI (u3.alloc (.cells #[.int .i64 1, .int .i64 1, .int .i64 0, .int .i64 x, .int .i64 9, .int .i64 0, .int .i64 1, .int .i64 0, .int .i64 1, .int .i64 1, .int .i64 0, .int .i64 mm, .int .i64 10, .int .i64 0, .int .i64 1, .int .i64 z] 38)) w.heap.size (.slice (some ⟨u3.heap.size, 0, none⟩) 4 4) is ∧ Rd R (q + 27) (u3.alloc (.cells #[.int .i64 1, .int .i64 1, .int .i64 0, .int .i64 x, .int .i64 9, .int .i64 0, .int .i64 1, .int .i64 0, .int .i64 1, .int .i64 1, .int .i64 0, .int .i64 mm, .int .i64 10, .int .i64 0, .int .i64 1, .int .i64 z] 38)) ∧ Keep R w (u3.alloc (.cells #[.int .i64 1, .int .i64 1, .int .i64 0, .int .i64 x, .int .i64 9, .int .i64 0, .int .i64 1, .int .i64 0, .int .i64 1, .int .i64 1, .int .i64 0, .int .i64 mm, .int .i64 10, .int .i64 0, .int .i64 1, .int .i64 z] 38))) := fun u3 z K1 H3 mm => by
    have bL : Below u3.heap.size u3 (u3.alloc (.cells #[.int .i64 1, .int .i64 1, .int .i64 0, .int .i64 x, .int .i64 9, .int .i64 0, .int .i64 1, .int .i64 0, .int .i64 1, .int .i64 1, .int .i64 0, .int .i64 mm, .int .i64 10, .int .i64 0, .int .i64 1, .int .i64 z] 38)) := (Below.refl _ _).alloc (Nat.le_refl _) _
    exact ⟨[⟨1, 1, 0, x⟩, ⟨9, 0, 1, 0⟩, ⟨1, 1, 0, mm⟩, ⟨10, 0, 1, z⟩], rfl, own_built (fs := [1, 1, 0, x, 9, 0, 1, 0, 1, 1, 0, mm, 10, 0, 1, z]) K1.size rfl (by omega), (H3.below (bL.mono (by have := H3.lt; omega))).mono (by omega), K1.trans (Keep.of_below bL)⟩
  by_cases hm : 60 < (t : Int) + 3 + y
  · go_wp2_with fail
    refine (pick R (q + 1 + 1) 2 u2 h2 (by omega)).mono ?_
    rintro e u3 ⟨z, rfl, z0, z1, -, h3, k3⟩
    have FIN := FIN _ z (K1.out.trans k3) h3
    clear h2 k3 h3 K1
    go_wp2
    go_ret
    obtain ⟨is, f1, f2⟩ := FIN.out 60
    exact ⟨u3.heap.size, 4, 4, is, rfl, f1, by omega, by omega, f2⟩
  · go_wp2_with fail
    refine (pick R (q + 1 + 1) 2 u2 h2 (by omega)).mono ?_
    rintro e u3 ⟨z, rfl, z0, z1, -, h3, k3⟩
    have FIN := FIN _ z (K1.out.trans k3) h3
    clear h2 k3 h3 K1
    go_wp2
    go_ret
    obtain ⟨is, f1, f2⟩ := FIN.out ((t : Int) + 3 + y)
    exact ⟨u3.heap.size, 4, 4, is, rfl, f1, by omega, by omega, f2⟩
end Go.Proofs.YtnhpmbhphbphaaaGreat.Draw
