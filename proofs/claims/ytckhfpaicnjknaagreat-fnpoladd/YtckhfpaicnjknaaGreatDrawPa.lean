/-
  Draws of sums: what is known of a sum that was drawn; one more part put to it.
-/
import Derived.Test.YtckhfpaicnjknaaGreatJoA
import Derived.Test.YtckhfpaicnjknaaGreatJoD
import Derived.Test.YtckhfpaicnjknaaGreatPolDD
import Derived.Test.YtckhfpaicnjknaaGreatPolQ
namespace Go.Proofs.YtckhfpaicnjknaaGreat.Draw
set_option linter.unusedVariables false
set_option linter.unusedSimpArgs false
open Go.ChangeShapes Go.WideShapes Go.ChangeAt Go.RowKit
open IntS (Turn hide cell_below Row WRow IsT)
open Pol (Rec Mono WPoly WP PRow Mine OwnM addB addP mulB mulP scaleP constP atomP flat)
theorem Keep.turn {R : Nat} {w w' : World} (h : Keep R w w') : Turn R w w' := ⟨h.os, h.tape, h.output, h.size, h.block⟩
theorem keep_of {R : Nat} {w w' : World} (h : Turn R w w') : Keep R w w' := ⟨h.os, h.tape, h.output, h.size, h.block⟩
theorem rd_turn {R q T : Nat} {w w' : World} (h : Rd R q w) (ht : Turn T w w') (hT : R < T) (hw : R < w.heap.size) : Rd R q w' := h.below (by
  rcases Nat.lt_or_ge R w.heap.size with h1 | h1
  · exact ht.below hT h1
  · omega)
/-- Only the reader turned, and what was not there. -/
theorem keep_up {R T : Nat} {w v V : World} (h : Keep R w v) (h2 : Turn T v V) (hT : w.heap.size ≤ T) : Keep R w V :=
  ⟨h2.os.trans h.os, h2.tape.trans h.tape, h2.output.trans h.output, Nat.le_trans h.size h2.size, fun k hk hne => (h2.block k (Nat.lt_of_lt_of_le hk h.size) (by omega)).trans (h.block k hk hne)⟩
theorem keep_low {R : Nat} {w v V : World} (h : Keep R w v) (hb : Below v.heap.size v V) : Keep R w V := h.trans (Keep.of_below hb)
theorem row_turn {w w' : World} {B b : Nat} {v : Value} {xs : List Int} (h : Row w b v xs) (ht : Turn B w w') (hb : xs = [] ∨ b ≠ B) : Row w' b v xs := by
  obtain ⟨a, cap, off, h1, h2, h3, hz, h4⟩ := h
  refine ⟨a, cap, off, h1, h2, h3, hz, ?_⟩
  rcases h4 with h4 | ⟨h4, h5⟩
  · exact Or.inl h4
  · rcases hb with hb | hb
    · exact Or.inl hb
    · exact Or.inr ⟨h4, fun i x hx => (ht.cell (p := ⟨b, off + i, none⟩) (World.block_lt_of_cell? w _ (h5 i x hx)) hb).trans (h5 i x hx)⟩
/-- A sum that can be read; its blocks are such as a set tells. -/
structure PS (w : World) (N : Nat → Prop) (v : Value) (ps : List Mono) : Prop where
  ex : ∃ a cap B off, v = .slice a ps.length cap ∧ ps.length ≤ cap ∧ cap ≤ maxLen ∧ (a = none → cap = 0) ∧ (ps = [] ∨ (a = some ⟨B, off, none⟩ ∧ N B ∧ ∀ (i : Nat) x, ps[i]? = some x → w.cell? ⟨B, off + i * 2, none⟩ = some (.int .i64 x.1) ∧ ∃ s b, w.cell? ⟨B, off + i * 2 + 1, none⟩ = some s ∧ Row w b s x.2 ∧ (x.2 = [] ∨ (N b ∧ b < w.heap.size))))
theorem PS.read {w : World} {N : Nat → Prop} {v : Value} {ps : List Mono} (h : PS w N v ps) : ∃ B, PRow w B v ps := by
  obtain ⟨a, cap, B, off, h1, h2, h3, hz, h4⟩ := h
  exact ⟨B, a, cap, off, h1, h2, h3, hz, h4.imp id fun ⟨q1, _, q2⟩ => ⟨q1, fun i x hx => ⟨(q2 i x hx).1, (q2 i x hx).2.imp fun s ⟨b, r1, r2, _⟩ => ⟨b, r1, r2⟩⟩⟩⟩
theorem PS.turn {w w' : World} {N : Nat → Prop} {v : Value} {ps : List Mono} {T : Nat} (h : PS w N v ps) (ht : Turn T w w') (hT : ¬ N T) : PS w' N v ps := by
  obtain ⟨a, cap, B, off, h1, h2, h3, hz, h4⟩ := h
  refine ⟨a, cap, B, off, h1, h2, h3, hz, h4.imp id fun ⟨q1, q0, q2⟩ => ⟨q1, q0, fun i x hx => ?_⟩⟩
  obtain ⟨k1, s, b, k2, k3, k4⟩ := q2 i x hx
  have nB : B ≠ T := fun e => hT (e ▸ q0)
  exact ⟨(ht.cell (p := ⟨B, off + i * 2, none⟩) (World.block_lt_of_cell? w _ k1) nB).trans k1, s, b, (ht.cell (p := ⟨B, off + i * 2 + 1, none⟩) (World.block_lt_of_cell? w _ k2) nB).trans k2, row_turn k3 ht (k4.imp id fun q e => hT (e ▸ q.1)), k4.imp id fun q => ⟨q.1, Nat.lt_of_lt_of_le q.2 ht.size⟩⟩
theorem PS.below {w w' : World} {N : Nat → Prop} {v : Value} {ps : List Mono} (h : PS w N v ps) (hb : Below w.heap.size w w') : PS w' N v ps := by
  obtain ⟨a, cap, B, off, h1, h2, h3, hz, h4⟩ := h
  refine ⟨a, cap, B, off, h1, h2, h3, hz, h4.imp id fun ⟨q1, q0, q2⟩ => ⟨q1, q0, fun i x hx => ?_⟩⟩
  obtain ⟨k1, s, b, k2, k3, k4⟩ := q2 i x hx
  exact ⟨cell_below hb k1, s, b, cell_below hb k2, k3.below hb, k4.imp id fun q => ⟨q.1, Nat.lt_of_lt_of_le q.2 hb.size⟩⟩
theorem PS.mono {w : World} {N N' : Nat → Prop} {v : Value} {ps : List Mono} (h : PS w N v ps) (hN : ∀ b, b < w.heap.size → N b → N' b) : PS w N' v ps := by
  obtain ⟨a, cap, B, off, h1, h2, h3, hz, h4⟩ := h
  refine ⟨a, cap, B, off, h1, h2, h3, hz, ?_⟩
  rcases h4 with h4 | ⟨q1, q0, q2⟩
  · exact Or.inl h4
  · by_cases e : ps = []
    · exact Or.inl e
    · obtain ⟨x, r, rfl⟩ := List.exists_cons_of_ne_nil e
      exact Or.inr ⟨q1, hN B (World.block_lt_of_cell? w _ (q2 0 x rfl).1) q0, fun i y hy => ⟨(q2 i y hy).1, (q2 i y hy).2.imp fun s ⟨b, r1, r2, r3⟩ => ⟨b, r1, r2, r3.imp id fun k => ⟨hN b k.2 k.1, k.2⟩⟩⟩⟩
theorem PS.of {w : World} {l h : Nat} {v : Value} {ps : List Mono} (hp : WPoly w l h v ps) (hh : h ≤ w.heap.size) : PS w (fun b => l ≤ b ∧ b < h) v ps := by
  obtain ⟨a, G, cap, g, s, h1, h2⟩ := hp
  refine ⟨a, cap, G, 0, h1, h2.le, h2.mx, h2.nl, h2.at_.imp id fun q => ⟨q.1, ⟨q.2.1, q.2.2.1⟩, fun i x hx => ?_⟩⟩
  obtain ⟨k1, k2, k3, k4, k5⟩ := h2.cells i x hx
  rw [Nat.zero_add]
  exact ⟨k1, s i, g i, k3, k4.row, k5.imp id fun q => ⟨⟨q.1, q.2.1⟩, by omega⟩⟩
/-- A sum that the call made, to which parts may be put. -/
structure DP (w : World) (lo : Nat) (v : Value) (ps : List Mono) : Prop where
  ex : ∃ cs, OwnM w lo v cs ∧ cs.length = ps.length ∧ ∀ (i : Nat) x, ps[i]? = some x → ∃ s b, cs[i]? = some (x.1, s) ∧ Row w b s x.2 ∧ (x.2 = [] ∨ (lo ≤ b ∧ IsT w b 3))
theorem DP.nil (w : World) (lo : Nat) : DP w lo (.slice none 0 0) [] := ⟨[], ⟨rfl, Or.inl ⟨rfl, rfl⟩⟩, rfl, fun i x hx => by simp at hx⟩
theorem DP.turn {w w' : World} {lo T : Nat} {v : Value} {ps : List Mono} (h : DP w lo v ps) (ht : Turn T w w') (hT : T < lo) : DP w' lo v ps := by
  obtain ⟨cs, h1, h2, h3⟩ := h
  refine ⟨cs, h1.turn ht (fun G n c e => ?_), h2, fun i x hx => ?_⟩
  · rw [e] at h1
    have := h1.cells.2.2.2.1
    omega
  · obtain ⟨s, b, k1, k2, k3⟩ := h3 i x hx
    exact ⟨s, b, k1, row_turn k2 ht (k3.imp id fun q => by omega), k3.imp id fun q => ⟨q.1, q.2.turn ht (by omega)⟩⟩
theorem DP.below {w w' : World} {lo : Nat} {v : Value} {ps : List Mono} (h : DP w lo v ps) (hb : Below w.heap.size w w') : DP w' lo v ps := by
  obtain ⟨cs, h1, h2, h3⟩ := h
  refine ⟨cs, h1.below hb, h2, fun i x hx => ?_⟩
  obtain ⟨s, b, k1, k2, k3⟩ := h3 i x hx
  exact ⟨s, b, k1, k2.below hb, k3.imp id fun q => ⟨q.1, q.2.below hb⟩⟩
theorem DP.mono {w : World} {lo lo' : Nat} {v : Value} {ps : List Mono} (h : DP w lo v ps) (hl : lo' ≤ lo) : DP w lo' v ps := by
  obtain ⟨cs, ⟨h0, h1⟩, h2, h3⟩ := h
  refine ⟨cs, ⟨h0, h1.imp id fun ⟨g, cap, cur, k1, k2, r⟩ => ⟨g, cap, cur, k1, Nat.le_trans hl k2, r⟩⟩, h2, fun i x hx => ?_⟩
  obtain ⟨s, b, k1, k2, k3⟩ := h3 i x hx
  exact ⟨s, b, k1, k2, k3.imp id fun q => ⟨Nat.le_trans hl q.1, q.2⟩⟩
theorem own_form {w : World} {lo : Nat} {v : Value} {cs : List (Int × Value)} (h : OwnM w lo v cs) : (v = .slice none 0 0 ∧ cs = []) ∨ ∃ G cap, v = .slice (some ⟨G, 0, none⟩) cs.length cap := by
  by_cases hn : v = .slice none 0 0
  · subst hn
    obtain ⟨hl, h0 | ⟨g, cap, cur, hv, _⟩⟩ := h
    · exact Or.inl ⟨rfl, List.length_eq_zero_iff.1 h0.2⟩
    · cases hv
  · exact Or.inr (h.form hn)
theorem DP.ps {w : World} {lo : Nat} {v : Value} {ps : List Mono} (h : DP w lo v ps) : PS w (fun b => lo ≤ b) v ps := by
  obtain ⟨cs, h1, h2, h3⟩ := h
  rcases own_form h1 with ⟨rfl, rfl⟩ | ⟨G, cap, rfl⟩
  · have e : ps = [] := List.length_eq_zero_iff.1 h2.symm
    subst e
    exact ⟨none, 0, 0, 0, rfl, Nat.le_refl _, by unfold maxLen; omega, fun _ => rfl, Or.inl rfl⟩
  · obtain ⟨_, c1, c2, c3, c4, c5, c6⟩ := h1.cells
    refine ⟨_, cap, G, 0, by rw [h2], by omega, c2, (fun e => by cases e), Or.inr ⟨rfl, c3, fun i x hx => ?_⟩⟩
    obtain ⟨s, b, k1, k2, k3⟩ := h3 i x hx
    obtain ⟨k4, k5⟩ := c5 i _ k1
    rw [Nat.zero_add]
    exact ⟨k4, s, b, k5, k2, k3.imp id fun q => ⟨q.1, q.2.lt⟩⟩
theorem DP.of {w : World} {l h : Nat} {v : Value} {ps : List Mono} (hp : WPoly w l h v ps) (hm : Mine w l v) : DP w l v ps := by
  obtain ⟨a, G, cap, g, s, h1, h2⟩ := hp
  obtain ⟨cs, h3, h4⟩ := hm
  subst h1
  rcases own_form h3 with ⟨e1, rfl⟩ | ⟨G', cap', e1⟩
  · have e3 : ps.length = 0 := by injection e1
    refine ⟨[], h3, e3.symm, fun i x hx => ?_⟩
    rw [List.length_eq_zero_iff.1 e3] at hx
    simp at hx
  · have e2 : ps.length = cs.length := by injection e1
    refine ⟨cs, h3, e2.symm, fun i x hx => ?_⟩
    have hi := (List.getElem?_eq_some_iff.1 hx).1
    obtain ⟨ea, _⟩ := h2.at_.resolve_left (fun e => by rw [e] at hx; simp at hx)
    subst ea
    have e3 : G = G' := by injection e1 with e1 _ _; injection e1 with e1; injection e1
    subst e3
    obtain ⟨_, c1, c2, c3, c4, c5, c6⟩ := h3.cells
    obtain ⟨k1, k2, k3, k4, k5⟩ := h2.cells i x hx
    have hc : cs[i]? = some cs[i] := List.getElem?_eq_getElem (by omega)
    obtain ⟨m1, m2⟩ := c5 i _ hc
    rw [k1] at m1
    rw [k3] at m2
    have e4 : x.1 = cs[i].1 := by injection m1 with m1; injection m1
    have e5 : s i = cs[i].2 := Option.some.inj m2
    refine ⟨s i, g i, by rw [hc, e4, e5], k4.row, ?_⟩
    by_cases e6 : x.2 = []
    · exact Or.inl e6
    · right
      obtain ⟨a', cp, off, n1, n2, n3, n4, n5⟩ := k4
      obtain ⟨n6, _⟩ := n5.resolve_left e6
      subst n6
      exact h4 cs[i] (List.getElem_mem _) (g i) off _ _ (e5.symm.trans n1)
/-- One more part. -/
theorem DP.push {w w' : World} {lo cap' G' : Nat} {q : Option Addr} {n c : Nat} {ps : List Mono} {cs : List (Int × Value)} {x : Int} {xs : List Int} {s : Value} {b : Nat} (ho : OwnM w lo (.slice q n c) cs) (hl : cs.length = ps.length) (hr : ∀ (i : Nat) x, ps[i]? = some x → ∃ s b, cs[i]? = some (x.1, s) ∧ Row w b s x.2 ∧ (x.2 = [] ∨ (lo ≤ b ∧ IsT w b 3)))
    (hs : Row w b s xs) (hs2 : xs = [] ∨ (lo ≤ b ∧ IsT w b 3)) (hn : OwnM w' lo (.slice (some ⟨G', 0, none⟩) (cs.length + 1) cap') (cs ++ [(x, s)])) (hg : w.grownBy w' (Value.slice q n c).ownBlock) :
    DP w' lo (.slice (some ⟨G', 0, none⟩) (cs.length + 1) cap') (ps ++ [(x, xs)]) ∧ ∃ T, Turn T w w' ∧ lo ≤ T := by
  obtain ⟨T, hT, hTl, hTi, _⟩ := Pol.ownBlock_turn ho hg
  refine ⟨⟨_, hn, by simp [hl], fun i y hy => ?_⟩, T, hT, hTl⟩
  have key : ∀ {b : Nat} {s : Value} {ys : List Int}, Row w b s ys → (ys = [] ∨ (lo ≤ b ∧ IsT w b 3)) → Row w' b s ys ∧ (ys = [] ∨ (lo ≤ b ∧ IsT w' b 3)) := fun {b s ys} r k => ⟨row_turn r hT (k.imp id fun q => hTi b q.2), k.imp id fun q => ⟨q.1, q.2.turn hT (hTi b q.2)⟩⟩
  by_cases e : i < ps.length
  · rw [List.getElem?_append_left e] at hy
    obtain ⟨s', b', k1, k2, k3⟩ := hr i y hy
    obtain ⟨k4, k5⟩ := key k2 k3
    exact ⟨s', b', by rw [List.getElem?_append_left (by omega)]; exact k1, k4, k5⟩
  · rw [List.getElem?_append_right (by omega)] at hy
    have hi : i - ps.length = 0 := by
      have := (List.getElem?_eq_some_iff.1 hy).1
      simp at this; omega
    rw [hi] at hy
    obtain rfl := Option.some.inj hy
    obtain ⟨k4, k5⟩ := key hs hs2
    exact ⟨s, b, by rw [List.getElem?_append_right (by omega), hl, hi]; rfl, k4, k5⟩
theorem own_lit {w : World} {lo : Nat} {cs : List (Int × Value)} (hlo : lo ≤ w.heap.size) (hn : cs.length ≤ 1000000) : OwnM (w.alloc (.cells (flat cs).toArray 55)) lo (.slice (some ⟨w.heap.size, 0, none⟩) cs.length cs.length) cs :=
  ⟨by rw [Pol.flat_len], Or.inr ⟨w.heap.size, cs.length, (flat cs).toArray, rfl, hlo, by show (w.heap.push _)[w.heap.size]? = _; exact Array.getElem?_push_size, Nat.le_refl _, by unfold maxLen; omega, by simp [Pol.flat_len], by rw [← Pol.flat_len]; simp⟩⟩
theorem nil_row (w : World) (B : Nat) : Row w B (.slice none 0 0) [] := ⟨none, 0, 0, rfl, Nat.le_refl _, by unfold maxLen; omega, fun _ => rfl, Or.inl rfl⟩
theorem lit_row {w : World} {xs : List Int} (hn : xs.length ≤ 1000000) : Row (w.alloc (.cells (xs.map (Value.int .i64)).toArray 3)) w.heap.size (.slice (some ⟨w.heap.size, 0, none⟩) xs.length xs.length) xs ∧ IsT (w.alloc (.cells (xs.map (Value.int .i64)).toArray 3)) w.heap.size 3 :=
  ⟨⟨some ⟨w.heap.size, 0, none⟩, xs.length, 0, rfl, Nat.le_refl _, by unfold maxLen; omega, (fun e => by cases e), Or.inr ⟨rfl, fun i x hx => by rw [World.cell?_alloc_new, Nat.zero_add]; simp [hx]⟩⟩, IsT.new w _ _⟩
/-- What a reader's turn leaves. -/
theorem DP.keep {R lo : Nat} {w w' : World} {v : Value} {ps : List Mono} (h : DP w lo v ps) (k : Keep R w w') (hR : R < lo) : DP w' lo v ps := h.turn k.turn hR
theorem PS.keep {R : Nat} {N : Nat → Prop} {w w' : World} {v : Value} {ps : List Mono} (h : PS w N v ps) (k : Keep R w w') (hR : ¬ N R) : PS w' N v ps := h.turn k.turn hR
theorem rec_keep {R Z : Nat} {cs : List Value} {w w' : World} (h : Rec Z cs w) (k : Keep R w w') (hZ : Z ≠ R) : Rec Z cs w' := h.turn k.turn hZ
theorem set_turn (Z : Nat) (w : World) (i : Nat) (v : Value) : Turn Z w (w.setCell ⟨Z, i, none⟩ v) := (Turn.refl Z w).setCell rfl v
theorem alloc_below (w : World) (o : Obj) : Below w.heap.size w (w.alloc o) := (Below.refl _ _).alloc (Nat.le_refl _) o
set_option maxRecDepth 8000 in
set_option maxHeartbeats 4000000 in
theorem specConst (n : Int) (w : World) :
    Calls Tryz.prog 49 #[.int .i64 n] w fun e w' => ∃ a c, e = .returned (.agg #[.slice a (constP n).length c]) ∧ DP w' w.heap.size (.slice a (constP n).length c) (constP n) ∧ Below w.heap.size w w' := by
  by_cases hc : 1 ≤ n ∧ n ≤ 65535
  case neg =>
    have HP : Hid (constP n = []) := if_neg hc
    have HW : Hid (Pol.inI n 1 65535 = false) := decide_eq_false hc
    have Z := hide (Rec.new w [.slice none 0 0] 25)
    have BB := hide ((Below.refl w.heap.size w).alloc (Nat.le_refl _) (.cells #[.slice none 0 0] 25))
    clear hc
    go_enter Tryz.func49, Tryz.ntmps49
    go_wp2_with fail
    refine (Pol.l1In n 1 65535 _).mono ?_
    rintro e u ⟨rfl, rfl⟩
    rw [HW.out]
    go_wp2
    generalize w.alloc (.cells #[.slice none 0 0] 25) = V at Z BB ⊢
    have z0 := Z.out.cell 0 _ rfl
    exact bodyPost_ret (v := .agg #[.slice none 0 0]) (by simp [results, Tryz.results49, go_sem, z0]) rfl ⟨none, 0, by rw [HP.out]; rfl, by rw [HP.out]; exact DP.nil _ _, BB.out⟩
  have HP : Hid (constP n = [(n, [])]) := if_pos hc
  have HW : Hid (Pol.inI n 1 65535 = true) := decide_eq_true hc
  clear hc
  go_enter Tryz.func49, Tryz.ntmps49
  go_wp2_with fail
  refine (Pol.l1In n 1 65535 _).mono ?_
  rintro e u ⟨rfl, rfl⟩
  rw [HW.out]
  go_wp2
  have Z := (Rec.new w [.slice (some ⟨w.heap.size + 1, 0, none⟩) 1 1] 25).alloc (.cells #[.int .i64 n, .slice none 0 0] 55)
  have O := own_lit (w := w.alloc (.cells #[.slice (some ⟨w.heap.size + 1, 0, none⟩) 1 1] 25)) (lo := w.heap.size) (cs := [(n, .slice none 0 0)]) (by simp) (by simp)
  rw [show (w.alloc (.cells #[.slice (some ⟨w.heap.size + 1, 0, none⟩) 1 1] 25)).heap.size = w.heap.size + 1 by simp] at O
  have BB := ((Below.refl w.heap.size w).alloc (Nat.le_refl _) (.cells #[.slice (some ⟨w.heap.size + 1, 0, none⟩) 1 1] 25)).alloc (by simp) (.cells #[.int .i64 n, .slice none 0 0] 55)
  have O2 : OwnM ((w.alloc (.cells #[.slice (some ⟨w.heap.size + 1, 0, none⟩) 1 1] 25)).alloc (.cells #[.int .i64 n, .slice none 0 0] 55)) w.heap.size (.slice (some ⟨w.heap.size + 1, 0, none⟩) 1 1) [(n, .slice none 0 0)] := O
  clear O
  generalize (w.alloc (.cells #[.slice (some ⟨w.heap.size + 1, 0, none⟩) 1 1] 25)).alloc (.cells #[.int .i64 n, .slice none 0 0] 55) = V at Z O2 BB ⊢
  have z0 := Z.cell 0 _ rfl
  exact bodyPost_ret (v := .agg #[.slice (some ⟨w.heap.size + 1, 0, none⟩) 1 1]) (by simp [results, Tryz.results49, go_sem, z0]) rfl ⟨_, 1, by rw [HP.out]; rfl, by rw [HP.out]; exact ⟨_, O2, rfl, fun i x hx => by
    match i, hx with
    | 0, hx => cases hx; exact ⟨_, 0, rfl, nil_row _ _, Or.inl rfl⟩
    | i + 1, hx => simp at hx⟩, BB⟩
theorem lit_mono (w : World) (x : Int) : DP (w.alloc (.cells #[.int .i64 x, .slice none 0 0] 55)) w.heap.size (.slice (some ⟨w.heap.size, 0, none⟩) 1 1) [(x, [])] :=
  ⟨_, own_lit (cs := [(x, .slice none 0 0)]) (Nat.le_refl _) (by simp), rfl, fun i y hy => by
    match i, hy with
    | 0, hy => cases hy; exact ⟨_, 0, rfl, nil_row _ _, Or.inl rfl⟩
    | i + 1, hy => simp at hy⟩
theorem fitP_len (L : List Mono) : (Pol.fitP L).length ≤ 12 := by
  unfold Pol.fitP
  by_cases h : Pol.fitB L = true
  · rw [if_pos h]
    unfold Pol.fitB at h
    simp only [Bool.and_eq_true, decide_eq_true_eq] at h
    exact h.1
  · rw [if_neg h]; simp
theorem addP_len (ps qs : List Mono) : (addP ps qs).length ≤ 12 := by
  unfold addP
  split
  · exact fitP_len _
  · simp
theorem wp_len {w : World} {l h : Nat} {a : Option Addr} {n c : Nat} {ps : List Mono} (hp : WPoly w l h (.slice a n c) ps) : n = ps.length := by
  obtain ⟨_, _, _, _, _, e, _⟩ := hp
  injection e
end Go.Proofs.YtckhfpaicnjknaaGreat.Draw
