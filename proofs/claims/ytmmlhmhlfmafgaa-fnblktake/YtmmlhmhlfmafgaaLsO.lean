/-
  Draws: a place and instructions, one in so many with something wrong (l21ListOr); a list that the call made, one instruction of it written over.
-/
import Derived.Test.YtmmlhmhlfmafgaaDrawN
import Derived.Test.YtmmlhmhlfmafgaaDrawJ
namespace Go.Proofs.Ytmmlhmhlfmafgaa.Draw
set_option linter.unusedVariables false
set_option linter.unusedSimpArgs false
open Go.ChangeShapes Go.WideShapes Go.ChangeAt Go.RowKit Flat
open IntS (Turn hide cell_below)
open Mch (Rec)
open InsS (In4 OwnI IRow run_pushI flatI flatI_len)
theorem own_setF {t : TypeId} {c : Nat} {w : World} {lo g n cap n' : Nat} {fs : List Int} (h : OwnF t c w lo (.slice (some ⟨g, 0, none⟩) n cap) n' fs) (i : Nat) (y : Int) : OwnF t c (w.setCell ⟨g, i, none⟩ (.int .i64 y)) lo (.slice (some ⟨g, 0, none⟩) n cap) n' (fs.set i y) := by
  obtain ⟨h1, ⟨h0, _⟩ | ⟨g', cap', cur, hv, hb, hh, h3, h4, h5, h6⟩⟩ := h
  · cases h0
  · cases hv
    refine ⟨by simpa [IntS.vals] using h1, Or.inr ⟨g, cap, cur.setIfInBounds i (.int .i64 y), rfl, hb, ?_, h3, h4, by simpa using h5, ?_⟩⟩
    · exact heap_setCell_same w g i cur _ _ hh
    · rw [Array.toList_setIfInBounds, List.take_set, h6]
      simp [IntS.vals, List.map_set]
theorem own_atF {t : TypeId} {c : Nat} {w : World} {lo g n cap n' : Nat} {fs : List Int} (h : OwnF t c w lo (.slice (some ⟨g, 0, none⟩) n cap) n' fs) (i : Nat) (hi : i < fs.length) : (∃ y, w.cell? ⟨g, i, none⟩ = some (.int .i64 y)) ∧ w.frozen? ⟨g, i, none⟩ = false := by
  obtain ⟨h1, ⟨h0, _⟩ | ⟨g', cap', cur, hv, hb, hh, h3, h4, h5, h6⟩⟩ := h
  · cases h0
  · cases hv
    have hj : i < n * c := by
      simp [IntS.vals] at h1
      omega
    refine ⟨⟨fs[i], ?_⟩, ?_⟩
    · have e : (cur.toList.take (n * c))[i]? = some (.int .i64 fs[i]) := by rw [h6]; simp [IntS.vals, hi]
      rw [List.getElem?_take, if_pos hj] at e
      unfold World.cell?
      simp only [hh]
      simpa using e
    · unfold World.frozen?
      simp [hh]
theorem flatI_set : ∀ (is : List In4) (k : Nat) (i : In4), k < is.length → flatI (is.set k i) = ((((flatI is).set (k * 4) i.op).set (k * 4 + 1) i.d).set (k * 4 + 2) i.a).set (k * 4 + 3) i.k
  | [], k, i, h => by simp at h
  | d :: r, 0, i, h => rfl
  | d :: r, k + 1, i, h => by
    have := flatI_set r k i (by simpa using h)
    rw [List.set_cons_succ, flatI, this, flatI]
    rw [show (k + 1) * 4 = k * 4 + 1 + 1 + 1 + 1 by omega]
    simp only [List.set_cons_succ]
/-- An instruction stored over one of a list that the call made. -/
theorem lay4k {w : World} {ops : Array Oper} {rest : List Oper} {o : Oper} {a : Act} {Q : Exit → Act → World → Prop} (hgd : o.guard = none) (hds : o.dst = none) (x y : Operand) (ho : o.op = .store 33 x y)
    (lo g n cap k : Nat) (is : List In4) (hO : OwnI w lo (.slice (some ⟨g, 0, none⟩) n cap) is) (hk : k < is.length) (hx : a.eval x = .pointer (some ⟨g, k * 4, none⟩)) (op d aa kk : Int) (hy : a.eval y = .agg #[.int .i64 op, .int .i64 d, .int .i64 aa, .int .i64 kk])
    (h : ∀ w' : World, Hid (OwnI w' lo (.slice (some ⟨g, 0, none⟩) n cap) (is.set k ⟨op, d, aa, kk⟩)) → Hid (Turn g w w') → wpList Try.prog ops Q rest a w') :
    wpList Try.prog ops Q (o :: rest) a w := by
  refine wpList_plain hgd fun K hK => ?_
  have hl := flatI_len is
  obtain ⟨⟨y0, z0⟩, f0⟩ := own_atF hO (k * 4) (by omega)
  obtain ⟨⟨y1, z1⟩, f1⟩ := own_atF hO (k * 4 + 1) (by omega)
  obtain ⟨⟨y2, z2⟩, f2⟩ := own_atF hO (k * 4 + 2) (by omega)
  obtain ⟨⟨y3, z3⟩, f3⟩ := own_atF hO (k * 4 + 3) (by omega)
  have key := hK _ _ (h ((((w.setCell ⟨g, k * 4, none⟩ (.int .i64 op)).setCell ⟨g, k * 4 + 1, none⟩ (.int .i64 d)).setCell ⟨g, k * 4 + 2, none⟩ (.int .i64 aa)).setCell ⟨g, k * 4 + 3, none⟩ (.int .i64 kk))
    (show OwnI _ _ _ _ by
      unfold OwnI
      rw [List.length_set, flatI_set is k _ hk]
      exact own_setF (own_setF (own_setF (own_setF hO _ op) _ d) _ aa) _ kk)
    (((((Turn.refl g w).setCell (p := ⟨g, k * 4, none⟩) rfl (.int .i64 op)).setCell (p := ⟨g, k * 4 + 1, none⟩) rfl (.int .i64 d)).setCell (p := ⟨g, k * 4 + 2, none⟩) rfl (.int .i64 aa)).setCell (p := ⟨g, k * 4 + 3, none⟩) rfl (.int .i64 kk)))
  obtain ⟨dst, op_, ty, pos, aft, gd⟩ := o
  simp only [] at hgd hds ho
  subst hgd hds ho
  clear h hK hO hl
  unfold Oper.wp
  simp only [execOp, hx, hy]
  go_simp
  exact key
theorem own_someF {t : TypeId} {c : Nat} {w : World} {lo n cap N : Nat} {q : Option Addr} {fs : List Int} (h : OwnF t c w lo (.slice q n cap) N fs) (hn : 1 ≤ N) : ∃ g, q = some ⟨g, 0, none⟩ ∧ lo ≤ g ∧ g < w.heap.size ∧ N ≤ cap := by
  obtain ⟨h1, ⟨h0, h2⟩ | ⟨g, cap', cur, hv, hb, hh, h3, h4, h5, h6⟩⟩ := h
  · omega
  · cases hv
    refine ⟨g, rfl, hb, ?_, h3⟩
    rcases Nat.lt_or_ge g w.heap.size with h' | h'
    · exact h'
    · rw [Array.getElem?_eq_none h'] at hh; cases hh
theorem own_some {w : World} {lo n cap : Nat} {q : Option Addr} {is : List In4} (h : OwnI w lo (.slice q n cap) is) (hn : 1 ≤ is.length) : ∃ g, q = some ⟨g, 0, none⟩ ∧ lo ≤ g ∧ g < w.heap.size ∧ is.length ≤ cap :=
  own_someF h hn
theorem twoInts (w : World) (a b : Int) (t : TypeId) (x : Int) (h0 : 0 ≤ x) (h1 : x < 2) : ∃ y : Int, (y = a ∨ y = b) ∧ (w.alloc (.cells #[.int .i64 a, .int .i64 b] t)).cell? ⟨w.heap.size, x.toNat, none⟩ = some (.int .i64 y) := by
  rw [World.cell?_alloc_new]
  have : x = 0 ∨ x = 1 := by omega
  rcases this with rfl | rfl
  · exact ⟨a, Or.inl rfl, rfl⟩
  · exact ⟨b, Or.inr rfl, rfl⟩
def lenL : Value → Nat
  | .slice _ n _ => n
  | _ => 0
set_option maxRecDepth 8000 in
set_option maxHeartbeats 16000000 in
theorem listOr (R q : Nat) (n : Int) (w : World) (h : Rd R q w) (hq : q ≤ 600000) (hn : 1 ≤ n) (hn2 : n ≤ 1000) :
    Calls Try.prog 19 #[.pointer (some ⟨R, 0, none⟩), .int .i64 n] w fun e w' => ∃ (pc : Int) (qs : Option Addr) (cap : Nat) (is : List In4), e = .returned (.tuple #[.int .i64 pc, .slice qs (List.length is) cap]) ∧ OwnI w' w.heap.size (.slice qs is.length cap) is ∧ is.length ≤ 9 ∧ (-1 ≤ pc ∧ pc ≤ 64) ∧ Rd R (q + 200) w' ∧ Keep R w w' := by
  have hR := h.lt
  go_enter Try.func19, Try.ntmps19
  go_wp2_with fail
  refine (listP R q w h (by omega)).mono ?_
  rintro e u1 ⟨qs, cap, is, rfl, o1, l1, h1, k1⟩
  obtain ⟨g, rfl, g1, g2, g3⟩ := own_some o1 l1.1
  have OO := hide o1
  have KK := hide k1
  have H1 := hide h1
  clear h h1 k1 o1
  obtain ⟨m, em⟩ : ∃ m, is.length = m := ⟨_, rfl⟩
  rw [em] at OO l1 g3 ⊢
  have EM := hide em
  clear em
  obtain ⟨m1, m8⟩ := l1
  go_wp2_with fail
  refine (pick R (q + 80) (64 - (m : Int) + 1) u1 H1.out (by omega)).mono ?_
  rintro e u2 ⟨pc, rfl, p0, p1, -, h1, k1⟩
  replace p1 := p1 (by omega)
  replace OO := hide (OwnF.turn OO.out k1.turn (Or.inl hR))
  replace KK := hide (KK.out.trans k1)
  have G2 := Nat.lt_of_lt_of_le g2 k1.size
  replace H1 := hide h1
  clear h1 k1 g2
  go_wp2_with fail
  refine (odd R (q + 80 + 1) n u2 H1.out (by omega) hn hn2).mono ?_
  rintro e u3 ⟨b, rfl, h1, k1⟩
  replace OO := hide (OwnF.turn OO.out k1.turn (Or.inl hR))
  replace KK := hide (KK.out.trans k1)
  replace G2 := Nat.lt_of_lt_of_le G2 k1.size
  replace H1 := hide h1
  clear h1 k1
  have FINT : ∀ (w' : World) (pc : Int) (qs : Option Addr) (M cap : Nat) (is : List In4), is.length = M → OwnI w' w.heap.size (.slice qs M cap) is → M ≤ 9 → (-1 ≤ pc ∧ pc ≤ 64) → Rd R (q + 200) w' → Keep R w w' → ∃ (pc' : Int) (qs' : Option Addr) (cap' : Nat) (is' : List In4), Ending.returned (.tuple #[.int .i64 pc, .slice qs M cap]) = .returned (.tuple #[.int .i64 pc', .slice qs' (List.length is') cap']) ∧ OwnI w' w.heap.size (.slice qs' is'.length cap') is' ∧ is'.length ≤ 9 ∧ (-1 ≤ pc' ∧ pc' ≤ 64) ∧ Rd R (q + 200) w' ∧ Keep R w w' := by
    rintro w' pc qs M cap is rfl h2 h3 h4 h5 h6
    exact ⟨pc, qs, cap, is, rfl, h2, h3, h4, h5, h6⟩
  have FIN := hide FINT
  clear FINT
  cases b with
  | false =>
    go_wp2
    exact bodyPost_ret (v := .tuple #[.int .i64 pc, .slice (some ⟨g, 0, none⟩) m cap]) (by simp [results, Try.results19, go_sem]) rfl (FIN.out _ _ _ _ _ is EM.out OO.out (by omega) (by omega) (H1.out.mono (by omega)) KK.out)
  | true =>
    go_wp2_with fail
    refine (pick R (q + 80 + 1 + 1) (m : Int) u3 H1.out (by omega)).mono ?_
    rintro e u4 ⟨kk, rfl, kk0, kk1, -, h1, k1⟩
    replace kk1 := kk1 (by omega)
    replace OO := hide (OwnF.turn OO.out k1.turn (Or.inl hR))
    replace KK := hide (KK.out.trans k1)
    replace G2 := Nat.lt_of_lt_of_le G2 k1.size
    replace H1 := hide h1
    clear h1 k1
    obtain ⟨k, rfl⟩ : ∃ k : Nat, kk = k := ⟨kk.toNat, by omega⟩
    have kn : k < m := by omega
    go_wp2_with fail
    refine (pick R (q + 80 + 1 + 1 + 1) 6 u4 H1.out (by omega)).mono ?_
    rintro e u5 ⟨c, rfl, c0, c1, -, h1, k1⟩
    replace c1 := c1 (by omega)
    replace OO := hide (OwnF.turn OO.out k1.turn (Or.inl hR))
    replace KK := hide (KK.out.trans k1)
    replace G2 := Nat.lt_of_lt_of_le G2 k1.size
    replace H1 := hide h1
    clear h1 k1
    have hc : c = 0 ∨ c = 1 ∨ c = 2 ∨ c = 3 ∨ c = 4 ∨ c = 5 := by omega
    clear c0 c1
    rcases hc with rfl | rfl | rfl | rfl | rfl | rfl
    · have b1 : Below u5.heap.size u5 (u5.alloc (.cells #[.int .i64 (-1), .int .i64 (64 - (m : Int) + 1)] 3)) := (Below.refl _ _).alloc (Nat.le_refl _) _
      have H2 := H1.out.below (b1.mono (by have := H1.out.lt; omega))
      have OO2 := hide (OwnF.below OO.out b1)
      have KK2 := hide (KK.out.trans (Keep.of_below b1))
      clear OO KK b1
      go_wp2_with fail
      refine (pick R (q + 80 + 1 + 1 + 1 + 1) 2 _ H2 (by omega)).mono ?_
      rintro e u6 ⟨x, rfl, x0, x1, -, h1, k1⟩
      replace x1 := x1 (by omega)
      obtain ⟨y, hy, hz⟩ := twoInts u5 (-1) (64 - (m : Int) + 1) 3 x x0 x1
      replace hz : u6.cell? ⟨u5.heap.size, x.toNat, none⟩ = some (.int .i64 y) := (k1.cell (p := ⟨u5.heap.size, x.toNat, none⟩) (by simp) (by have := H1.out.lt; simp; omega)).trans hz
      replace OO2 := hide (OwnF.turn OO2.out k1.turn (Or.inl hR))
      replace KK2 := hide (KK2.out.trans k1)
      have H3 := hide h1
      clear h1 k1 H1 H2
      have HY : Hid (-1 ≤ y ∧ y ≤ 64) := by rcases hy with rfl | rfl <;> (show _ ∧ _) <;> omega
      clear hy
      go_wp2
      exact bodyPost_ret (v := .tuple #[.int .i64 y, .slice (some ⟨g, 0, none⟩) m cap]) (by simp [results, Try.results19, go_sem]) rfl (FIN.out _ _ _ _ _ is EM.out OO2.out (by omega) HY.out (H3.out.mono (by omega)) KK2.out)
    · have b1 : Below u5.heap.size u5 (u5.alloc (.cells #[] 33)) := (Below.refl _ _).alloc (Nat.le_refl _) _
      have H2 := hide (H1.out.below (b1.mono (by have := H1.out.lt; omega)))
      have KK2 := hide (KK.out.trans (Keep.of_below b1))
      have O2 := hide (own_emptyI (w := u5) (lo := w.heap.size) KK.out.size)
      clear OO KK b1 H1
      go_wp2
      exact bodyPost_ret (v := .tuple #[.int .i64 pc, .slice (some ⟨u5.heap.size, 0, none⟩) 0 0]) (by simp [results, Try.results19, go_sem]) rfl (FIN.out _ _ _ _ _ [] rfl O2.out (by omega) (by omega) (H2.out.mono (by omega)) KK2.out)
    · go_wp2_with fail
      refine (insOr R (q + 80 + 1 + 1 + 1 + 1) 1 u5 H1.out (by omega) (by omega) (by omega)).mono ?_
      rintro e u6 ⟨i1, i2, i3, i4, rfl, h1, k1⟩
      replace OO := hide (OwnF.turn OO.out k1.turn (Or.inl hR))
      replace KK := hide (KK.out.trans k1)
      replace G2 := Nat.lt_of_lt_of_le G2 k1.size
      replace H1 := hide h1
      clear h1 k1
      have LK : Hid (k < is.length) := show _ by rw [EM.out]; exact kn
      go_wp2_with (refine lay4k rfl rfl _ _ rfl w.heap.size g m cap k is OO.out LK.out rfl _ _ _ _ rfl ?_; intro p1 OX TX; refine Hid.out ?_)
      have KK2 := hide (keep_up KK.out TX.out g1)
      have H2 := hide (rd_turn H1.out TX.out (by omega) H1.out.lt)
      clear OO KK TX H1
      refine hide ?_
      go_wp2
      exact bodyPost_ret (v := .tuple #[.int .i64 pc, .slice (some ⟨g, 0, none⟩) m cap]) (by simp [results, Try.results19, go_sem]) rfl (FIN.out _ _ _ _ _ _ (by rw [List.length_set]; exact EM.out) OX.out (by omega) (by omega) (H2.out.mono (by omega)) KK2.out)
    · skip
      have LK : Hid (k < is.length) := show _ by rw [EM.out]; exact kn
      go_wp2_with (refine lay4k rfl rfl _ _ rfl w.heap.size g m cap k is OO.out LK.out rfl _ _ _ _ rfl ?_; intro p1 OX TX; refine Hid.out ?_)
      have KK2 := hide (keep_up KK.out TX.out g1)
      have H2 := hide (rd_turn H1.out TX.out (by omega) H1.out.lt)
      clear OO KK TX H1
      refine hide ?_
      go_wp2
      exact bodyPost_ret (v := .tuple #[.int .i64 pc, .slice (some ⟨g, 0, none⟩) m cap]) (by simp [results, Try.results19, go_sem]) rfl (FIN.out _ _ _ _ _ _ (by rw [List.length_set]; exact EM.out) OX.out (by omega) (by omega) (H2.out.mono (by omega)) KK2.out)
    · clear g1 g3 G2 kn kk0 kk1
      go_wp2
      go_loopw [6] (fun s wr => ∃ (j c2 : Nat) (q2 : Option Addr) (L : List In4), s = .slice q2 (m + j) c2 ∧ m + j ≤ 9 ∧ Hid (L.length = m + j) ∧ Hid (OwnI wr w.heap.size (.slice q2 (m + j) c2) L) ∧ Hid (Rd R (q + 80 + 1 + 1 + 1 + 1 + 8 * j) wr) ∧ Hid (Keep R w wr)) (fun s _ => 9 - lenL s)
      case atStart => exact ⟨0, cap, _, is, rfl, by omega, EM.out, OO.out, H1.out, KK.out⟩
      case round =>
        clear OO H1 KK
        obtain ⟨j, c2, q2, L, rfl, mj, EL, OO, HH, KK⟩ := hrel
        by_cases h9 : m + j ≤ 8
        · have gt : (((m + j : Nat) : Int)) ≤ 8 := by omega
          go_wp2_with fail
          refine (flat R (q + 80 + 1 + 1 + 1 + 1 + 8 * j) wr HH.out (by omega)).mono ?_
          rintro e v2 ⟨a, b, c, f, rfl, h1, k1⟩
          replace OO := hide (OwnF.turn OO.out k1.turn (Or.inl hR))
          replace KK := hide (KK.out.trans k1)
          have H1 := hide h1
          clear h1 k1 HH
          have bP : Below v2.heap.size v2 (v2.alloc (.cells #[.int .i64 a, .int .i64 b, .int .i64 c, .int .i64 f] 33)) := (Below.refl _ _).alloc (Nat.le_refl _) _
          have RP := Rec.new v2 [.int .i64 a, .int .i64 b, .int .i64 c, .int .i64 f] 33
          have KP := KK.out.trans (Keep.of_below bP)
          have SP : w.heap.size ≤ (v2.alloc (.cells #[.int .i64 a, .int .i64 b, .int .i64 c, .int .i64 f] 33)).heap.size := KP.size
          obtain ⟨g', cap', w', T, hrun, O2, TT, hT⟩ := push4 (ty := 23) (OwnF.below (by rw [← EL.out] at OO; exact OO.out) bP) rfl (by have := EL.out; omega) SP v2.heap.size ⟨a, b, c, f⟩ RP
          have H2 : Hid (Rd R (q + 80 + 1 + 1 + 1 + 1 + 8 * (j + 1)) w') := (rd_turn (H1.out.below (bP.mono (by have := H1.out.lt; omega))) TT (by omega) (by have := H1.out.lt; have := bP.size; omega)).mono (by omega)
          have K2 := hide (keep_up KP TT hT)
          have E2 : Hid ((L ++ [(⟨a, b, c, f⟩ : In4)]).length = m + (j + 1)) := show _ = _ by rw [List.length_append, EL.out]; rfl
          have OO2 : Hid (OwnI w' w.heap.size (.slice (some ⟨g', 0, none⟩) (m + (j + 1)) cap') (L ++ [⟨a, b, c, f⟩])) := by rw [EL.out] at O2; exact O2
          rw [EL.out] at hrun
          clear bP RP KP SP O2 TT hT OO KK H1 EL
          go_wp2_with (at_builtin; refine push_list rfl _ _ rfl rfl rfl hrun ?_; refine Hid.out ?_)
          clear hrun
          refine hide ?_
          go_wp2
          exact ⟨⟨j + 1, cap', _, _, rfl, by omega, E2, OO2, H2, K2⟩, by simp [lenL] <;> omega⟩
        · have gt : ¬ (((m + j : Nat) : Int)) ≤ 8 := by omega
          have HN := hide (HH.out.mono (q' := q + 200) (by omega))
          clear HH
          go_wp2
          exact bodyPost_ret (v := .tuple #[.int .i64 pc, .slice (q2) ((m + j : Nat) : Nat) c2]) (by simp [results, Try.results19, go_sem]) rfl (FIN.out _ _ _ _ _ L EL.out OO.out mj (by omega) HN.out KK.out)
    · skip
      have LK : Hid (k < is.length) := show _ by rw [EM.out]; exact kn
      go_wp2_with (refine lay4k rfl rfl _ _ rfl w.heap.size g m cap k is OO.out LK.out rfl _ _ _ _ rfl ?_; intro p1 OX TX; refine Hid.out ?_)
      have KK2 := hide (keep_up KK.out TX.out g1)
      have H2 := hide (rd_turn H1.out TX.out (by omega) H1.out.lt)
      clear OO KK TX H1
      refine hide ?_
      go_wp2
      exact bodyPost_ret (v := .tuple #[.int .i64 pc, .slice (some ⟨g, 0, none⟩) m cap]) (by simp [results, Try.results19, go_sem]) rfl (FIN.out _ _ _ _ _ _ (by rw [List.length_set]; exact EM.out) OX.out (by omega) (by omega) (H2.out.mono (by omega)) KK2.out)
end Go.Proofs.Ytmmlhmhlfmafgaa.Draw
