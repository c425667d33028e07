/-
  Atoms in a slice that the call made, their sums in blocks of their own: what it is, and how one more is put behind.
  Whether all atoms of a sum are below a number: the program's PolUnder and the specification's.
  How two sums stand: the program's orderOfParts, slices.CompareFunc with it, its PolOrder, and the specification's PolOrder.
-/
import Derived.Test.YtagfgbkclopoeaaJ02
import Derived.Test.YtagfgbkclopoeaaJ08
import Derived.Test.YtagfgbkclopoeaaJ05
import Derived.Test.YtagfgbkclopoeaaJ06
namespace Go.Proofs.Ytagfgbkclopoeaa.Tab
set_option linter.unusedVariables false
open Go.ChangeShapes Go.WideShapes Go.ChangeAt Go.RowKit IntS Pol Push
theorem infoAtom : ∃ i, Try.prog.info? 42 = some i ∧ i.zero = some (.agg #[.int .i64 0, .int .i64 0, .slice none 0 0, .slice none 0 0]) ∧ i.size = 4 ∧ i.bytes = 64 := by
  have hinfo : (Try.prog.info? 42).map (fun i => (i.zero, i.size, i.bytes)) = some (some (.agg #[.int .i64 0, .int .i64 0, .slice none 0 0, .slice none 0 0]), 4, 64) := by kernel_rfl
  obtain ⟨i, hi, h⟩ := Option.map_eq_some_iff.1 hinfo
  simp only [Prod.mk.injEq] at h
  exact ⟨i, hi, h.1, h.2.1, h.2.2⟩
/-- The four cells of an atom. -/
structure C4 where
  kd : Int
  k : Int
  x : Value
  y : Value
def flat4 : List C4 → List Value
  | [] => []
  | c :: r => .int .i64 c.kd :: .int .i64 c.k :: c.x :: c.y :: flat4 r
theorem flat4_len : ∀ cs : List C4, (flat4 cs).length = cs.length * 4
  | [] => rfl
  | c :: r => by simp [flat4, flat4_len r]; omega
theorem flat4_app : ∀ a b : List C4, flat4 (a ++ b) = flat4 a ++ flat4 b
  | [], b => rfl
  | c :: a, b => by simp [flat4, flat4_app a b]
theorem flat4_at : ∀ (cs : List C4) (i : Nat) (c : C4), cs[i]? = some c → (flat4 cs)[i * 4]? = some (.int .i64 c.kd) ∧ (flat4 cs)[i * 4 + 1]? = some (.int .i64 c.k) ∧ (flat4 cs)[i * 4 + 2]? = some c.x ∧ (flat4 cs)[i * 4 + 3]? = some c.y
  | [], i, c, h => by simp at h
  | d :: r, 0, c, h => by
    obtain rfl := Option.some.inj h
    exact ⟨rfl, rfl, rfl, rfl⟩
  | d :: r, i + 1, c, h => by
    have := flat4_at r i c h
    rw [show (i + 1) * 4 = i * 4 + 1 + 1 + 1 + 1 by omega]
    exact this
def OwnT (w : World) (lo : Nat) (v : Value) (cs : List C4) : Prop := w.ownsRow lo 42 4 v cs.length (flat4 cs)
theorem OwnT.cells {w : World} {lo G n cap : Nat} {cs : List C4} (h : OwnT w lo (.slice (some ⟨G, 0, none⟩) n cap) cs) : n = cs.length ∧ (∀ (i : Nat) c, cs[i]? = some c → w.cell? ⟨G, i * 4, none⟩ = some (.int .i64 c.kd) ∧ w.cell? ⟨G, i * 4 + 1, none⟩ = some (.int .i64 c.k) ∧ w.cell? ⟨G, i * 4 + 2, none⟩ = some c.x ∧ w.cell? ⟨G, i * 4 + 3, none⟩ = some c.y) ∧ ∀ i, w.frozen? ⟨G, i, none⟩ = false := by
  obtain ⟨hl, h0 | ⟨g', cap', cur, hv, hb, hh, hle, hm, hc, ht⟩⟩ := h
  · exact absurd h0.1 (by simp)
  · cases hv
    have hat (j : Nat) (u : Value) (hu : (flat4 cs)[j]? = some u) : w.cell? ⟨G, j, none⟩ = some u := by
      have hj : j < cs.length * 4 := by rw [← flat4_len]; exact (List.getElem?_eq_some_iff.1 hu).1
      rw [← ht, List.getElem?_take, if_pos hj] at hu
      unfold World.cell?
      simp only [hh]
      simpa using hu
    refine ⟨rfl, fun i c hc2 => ?_, fun i => ?_⟩
    · obtain ⟨q1, q2, q3, q4⟩ := flat4_at cs i c hc2
      exact ⟨hat _ _ q1, hat _ _ q2, hat _ _ q3, hat _ _ q4⟩
    · unfold World.frozen?
      simp [hh]
/-- Atoms in a slice that the call made, from block lo on. -/
structure OTab (w : World) (lo : Nat) (q : Option Addr) (cap : Nat) (cs : List C4) (l m h : Nat → Nat) (ts : List At) : Prop where
  own : OwnT w lo (.slice q ts.length cap) cs
  len : cs.length = ts.length
  rows : ∀ (i : Nat) t, ts[i]? = some t → ∃ sx sy, cs[i]? = some ⟨t.kd, t.k, sx, sy⟩ ∧ WPoly w (l i) (m i) sx t.x ∧ WPoly w (m i) (h i) sy t.y ∧ lo ≤ l i ∧ l i ≤ m i ∧ m i ≤ h i ∧ h i ≤ w.heap.size ∧ (∀ G, q = some ⟨G, 0, none⟩ → G < l i ∨ h i ≤ G)
  inc : ∀ i j : Nat, i < j → j < ts.length → h i ≤ l j
theorem OTab.q_lt {w : World} {lo cap : Nat} {q : Option Addr} {cs : List C4} {l m h : Nat → Nat} {ts : List At} (H : OTab w lo q cap cs l m h ts) {G : Nat} (e : q = some ⟨G, 0, none⟩) : lo ≤ G ∧ G < w.heap.size := by
  subst e
  have := owns_lt H.own
  exact ⟨this.1, this.2.1⟩
theorem OTab.q_form {w : World} {lo cap : Nat} {q : Option Addr} {cs : List C4} {l m h : Nat → Nat} {ts : List At} (H : OTab w lo q cap cs l m h ts) : (q = none ∧ cap = 0 ∧ ts = []) ∨ ∃ G, q = some ⟨G, 0, none⟩ := by
  obtain ⟨_, h0 | ⟨g, cap', cur, hv, _⟩⟩ := H.own
  · injection h0.1 with e1 e2 e3
    exact Or.inl ⟨e1, e3, List.length_eq_zero_iff.1 e2⟩
  · injection hv with e1
    exact Or.inr ⟨g, e1⟩
theorem OTab.turn {w w' : World} {lo cap T : Nat} {q : Option Addr} {cs : List C4} {l m h : Nat → Nat} {ts : List At} (H : OTab w lo q cap cs l m h ts) (ht : Turn T w w') (hT : T < lo ∨ w.heap.size ≤ T) : OTab w' lo q cap cs l m h ts := by
  refine ⟨owns_turn H.own ht hT, H.len, fun i t hi => ?_, H.inc⟩
  obtain ⟨sx, sy, k1, k2, k3, k4, k5, k6, k7, k8⟩ := H.rows i t hi
  exact ⟨sx, sy, k1, k2.keep (Keep.of_turn ht) (fun b h1 h2 (h3 : b = _) => by omega), k3.keep (Keep.of_turn ht) (fun b h1 h2 (h3 : b = _) => by omega), k4, k5, k6, Nat.le_trans k7 ht.size, k8⟩
theorem OTab.below {w w' : World} {lo cap : Nat} {q : Option Addr} {cs : List C4} {l m h : Nat → Nat} {ts : List At} (H : OTab w lo q cap cs l m h ts) (hb : Below w.heap.size w w') : OTab w' lo q cap cs l m h ts := H.turn (T := w.heap.size) (Turn.of_below hb) (Or.inr (Nat.le_refl _))
theorem OTab.nil (w : World) (lo : Nat) : OTab w lo none 0 [] (fun _ => 0) (fun _ => 0) (fun _ => 0) [] := ⟨⟨rfl, Or.inl ⟨rfl, rfl⟩⟩, rfl, fun i t h => by simp at h, fun i j _ h => by simp at h⟩
/-- One more atom behind. -/
theorem OTab.next {u u' : World} {lo cap : Nat} {q : Option Addr} {cs : List C4} {l m h : Nat → Nat} {ts : List At} (H : OTab u lo q cap cs l m h ts) {t : At} {sx sy : Value} {lx mx hx : Nat} (wx : WPoly u lx mx sx t.x) (wy : WPoly u mx hx sy t.y) (h1 : lo ≤ lx) (h2 : lx ≤ mx) (h3 : mx ≤ hx) (h4 : hx ≤ u.heap.size)
    (hl : ∀ i, i < ts.length → h i ≤ lx) (hq : ∀ G, q = some ⟨G, 0, none⟩ → G < lx) {G' cap' : Nat} (ho : OwnT u' lo (.slice (some ⟨G', 0, none⟩) (ts.length + 1) cap') (cs ++ [⟨t.kd, t.k, sx, sy⟩])) (hg : (Value.slice q ts.length cap).ownBlock = some G' ∨ u.heap.size ≤ G') (gr : u.grownBy u' (Value.slice q ts.length cap).ownBlock) :
    OTab u' lo (some ⟨G', 0, none⟩) cap' (cs ++ [⟨t.kd, t.k, sx, sy⟩]) (fun i => if i < ts.length then l i else lx) (fun i => if i < ts.length then m i else mx) (fun i => if i < ts.length then h i else hx) (ts ++ [t]) := by
  have kp : ∃ T, Turn T u u' ∧ ∀ a b, (∀ G, q = some ⟨G, 0, none⟩ → G < a ∨ b ≤ G) → b ≤ u.heap.size → T < a ∨ b ≤ T := by
    rcases H.q_form with ⟨rfl, rfl, rfl⟩ | ⟨G, rfl⟩
    · refine ⟨u.heap.size, ⟨gr.os, gr.tape, gr.output, gr.size, fun k hk _ => gr.block k hk (by simp [Value.ownBlock])⟩, fun a b _ hb => Or.inr hb⟩
    · exact ⟨G, Turn.of_grown gr, fun a b hb _ => hb G rfl⟩
  obtain ⟨T, ht, hT⟩ := kp
  have gG (G : Nat) (e : q = some ⟨G, 0, none⟩) : (Value.slice q ts.length cap).ownBlock = some G := by subst e; rfl
  have gq : q = some ⟨G', 0, none⟩ ∨ u.heap.size ≤ G' := by
    rcases hg with hg | hg
    · rcases H.q_form with ⟨rfl, _, _⟩ | ⟨G, rfl⟩
      · simp [Value.ownBlock] at hg
      · simp [Value.ownBlock] at hg
        subst hg
        exact Or.inl rfl
    · exact Or.inr hg
  refine ⟨by rw [List.length_append]; exact ho, by simp [H.len], fun i z hz => ?_, fun i j hij hj => ?_⟩
  · by_cases e : i < ts.length
    · rw [List.getElem?_append_left e] at hz
      simp only [if_pos e]
      obtain ⟨px, py, k1, k2, k3, k4, k5, k6, k7, k8⟩ := H.rows i z hz
      have tt := hT (l i) (h i) k8 k7
      refine ⟨px, py, by rw [List.getElem?_append_left (by rw [H.len]; exact e)]; exact k1, k2.keep (Keep.of_turn ht) (fun b b1 b2 (b3 : b = _) => by omega), k3.keep (Keep.of_turn ht) (fun b b1 b2 (b3 : b = _) => by omega), k4, k5, k6, Nat.le_trans k7 ht.size, fun G eG => ?_⟩
      obtain rfl : G' = G := by injection eG with e1; injection e1
      rcases gq with gq | gq
      · exact k8 _ gq
      · exact Or.inr (by omega)
    · have ei : i = ts.length := by
        have := (List.getElem?_eq_some_iff.1 hz).1
        simp at this
        omega
      subst ei
      rw [List.getElem?_append_right (Nat.le_refl _), Nat.sub_self] at hz
      obtain rfl := Option.some.inj (show some t = some z from hz)
      simp only [if_neg e]
      have tt := hT lx hx (fun G eG => Or.inl (hq G eG)) h4
      refine ⟨sx, sy, by rw [List.getElem?_append_right (by rw [H.len]; omega), H.len, Nat.sub_self]; rfl, wx.keep (Keep.of_turn ht) (fun b b1 b2 (b3 : b = _) => by omega), wy.keep (Keep.of_turn ht) (fun b b1 b2 (b3 : b = _) => by omega), h1, h2, h3, Nat.le_trans h4 ht.size, fun G eG => ?_⟩
      obtain rfl : G' = G := by injection eG with e1; injection e1
      rcases gq with gq | gq
      · exact Or.inl (hq _ gq)
      · exact Or.inr (by omega)
  · simp only [List.length_append, List.length_singleton] at hj
    have hi : i < ts.length := by omega
    simp only [if_pos hi]
    by_cases e : j < ts.length
    · simp only [if_pos e]
      exact H.inc i j hij e
    · simp only [if_neg e]
      exact hl i hi
theorem OTab.whole {u : World} {lo cap : Nat} {q : Option Addr} {cs : List C4} {l m h : Nat → Nat} {ts : List At} (H : OTab u lo q cap cs l m h ts) : WTab u lo u.heap.size (.slice q ts.length cap) ts := by
  rcases H.q_form with ⟨rfl, rfl, rfl⟩ | ⟨G, rfl⟩
  · exact ⟨none, 0, 0, fun _ => 0, fun _ => 0, fun _ => 0, fun _ => .slice none 0 0, fun _ => .slice none 0 0, rfl, Nat.le_refl _, by unfold maxLen; omega, fun _ => rfl, Or.inl rfl, fun i t hi => by simp at hi, fun i j _ hj => by simp at hj⟩
  · obtain ⟨b1, b2, b3, b4⟩ := owns_lt H.own
    obtain ⟨_, hc, hs⟩ := H.own.cells
    refine ⟨some ⟨G, 0, none⟩, G, cap, l, m, h, fun i => (cs.getD i ⟨0, 0, .slice none 0 0, .slice none 0 0⟩).x, fun i => (cs.getD i ⟨0, 0, .slice none 0 0, .slice none 0 0⟩).y, rfl, b3, b4, (fun e => by cases e), Or.inr ⟨rfl, b1, b2, b2⟩, fun i t hi => ?_, H.inc⟩
    obtain ⟨sx, sy, k1, k2, k3, k4, k5, k6, k7, k8⟩ := H.rows i t hi
    obtain ⟨c1, c2, c3, c4⟩ := hc i _ k1
    simp only [List.getD_eq_getElem?_getD, k1, Option.getD_some]
    exact ⟨⟨c1, hs _, c2, hs _, c3, c4⟩, k2, k3, k4, k5, k6, k7, k8 G rfl⟩
theorem OTab.read {u : World} {lo cap : Nat} {q : Option Addr} {cs : List C4} {l m h : Nat → Nat} {ts : List At} (H : OTab u lo q cap cs l m h ts) : ∃ B, TRow u B (.slice q ts.length cap) ts := H.whole.read
/-- What is known of the sums of an atom that is ok. -/
structure FineA (t : At) : Prop where
  x : t.x.length ≤ 1000
  y : t.y.length ≤ 1000
  ax : ∀ m ∈ t.x, m.2.length ≤ 1000
  ay : ∀ m ∈ t.y, m.2.length ≤ 1000
theorem run_pushT {w : World} {ty : TypeId} {lo cap : Nat} {q : Option Addr} {n : Nat} {cs : List C4} (hown : OwnT w lo (.slice q n cap) cs) (hn : cs.length = n) (hl : n ≤ 1000000) (hlo : lo ≤ w.heap.size) (ad : Addr) (kd k : Int) (qx : Option Addr) (nx cx : Nat) (qy : Option Addr) (ny cy : Nat)
    (c0 : w.cell? (ad.add 0) = some (.int .i64 kd)) (c1 : w.cell? (ad.add 1) = some (.int .i64 k)) (c2 : w.cell? (ad.add 2) = some (.slice qx nx cx)) (c3 : w.cell? (ad.add 3) = some (.slice qy ny cy)) :
    ∃ g' cap' w', (Builtin.append_ #[32, 32] ty #[.slice q n cap, .slice (some ad) 1 1]).run Try.prog w = .ok (.slice (some ⟨g', 0, none⟩) (n + 1) cap') w' ∧ OwnT w' lo (.slice (some ⟨g', 0, none⟩) (n + 1) cap') (cs ++ [⟨kd, k, .slice qx nx cx, .slice qy ny cy⟩]) ∧ ((Value.slice q n cap).ownBlock = some g' ∨ w.heap.size ≤ g') ∧ g' < w'.heap.size ∧ w.grownBy w' (Value.slice q n cap).ownBlock := by
  subst hn
  obtain ⟨i, hi, hz, hsz, hby⟩ := infoAtom
  obtain ⟨g', cap', w', h1, h2, h3, h4, h5⟩ := run_push (P := Try.prog) (w := w) lo 32 ty 42 i _ 4 64 Try.underlying32 hi hz hsz hby rfl (by decide) _ cs.length (flat4 cs) hown ad [.int .i64 kd, .int .i64 k, .slice qx nx cx, .slice qy ny cy] rfl (fun j u hu => by
    match j, hu with
    | 0, hu => cases hu; exact c0
    | 1, hu => cases hu; exact c1
    | 2, hu => cases hu; exact c2
    | 3, hu => cases hu; exact c3
    | j + 4, hu => simp at hu) (fun u hu => by simp at hu; rcases hu with rfl | rfl | rfl | rfl <;> rfl) (by unfold maxLen; omega) (by omega) hlo
  refine ⟨g', cap', w', h1, ?_, h3, h4, h5⟩
  unfold OwnT
  rw [flat4_app, List.length_append]
  exact h2
end Go.Proofs.Ytagfgbkclopoeaa.Tab
namespace Go.Proofs.Ytagfgbkclopoeaa.Pol
open Go.ChangeShapes Go.WideShapes Go.ChangeAt Go.RowKit IntS
def rowAt (ps : List Mono) (n : Int) (i : Nat) : Bool := (List.range (ps.getD i (0, [])).2.length).all fun j => decide ((ps.getD i (0, [])).2.getD j 0 < n)
theorem under_rows (ps : List Mono) (n : Int) : underB ps n = (List.range ps.length).all (rowAt ps n) := rfl
theorem row_no {ps : List Mono} {n : Int} {k j : Nat} {c x : Int} {at_ : List Int} (h : ps[k]? = some (c, at_)) (hx : at_[j]? = some x) (hn : n ≤ x) : rowAt ps n k = false := by
  unfold rowAt
  rw [getD_part h]
  exact all_no (k := j) (List.getElem?_eq_some_iff.1 hx).1 (by rw [getD_at hx]; exact decide_eq_false (by omega))
theorem row_yes {ps : List Mono} {n : Int} {k : Nat} {c : Int} {at_ : List Int} (h : ps[k]? = some (c, at_)) (hx : ∀ (j : Nat) x, at_[j]? = some x → x < n) : rowAt ps n k = true := by
  unfold rowAt
  rw [getD_part h]
  exact all_yes fun j hj => by
    rw [getD_at (List.getElem?_eq_getElem hj)]
    exact decide_eq_true (hx j _ (List.getElem?_eq_getElem hj))
set_option maxRecDepth 4000 in
set_option maxHeartbeats 8000000 in
theorem implUnder (ps : List Mono) (q : Int) (B : Nat) (v : Value) (w : World) (h : PRow w B v ps) :
    Calls Try.prog 79 #[.agg #[v], .int .i64 q] w fun e w' => e = .returned (.bool (underB ps q)) ∧ Below w.heap.size w w' := by
  obtain ⟨a, cap, off, rfl, h2, h3, hz, h4⟩ := h
  unfold maxLen at h3
  clear hz
  have bV : Below w.heap.size w (w.alloc (.cells #[.slice a ps.length cap] 40)) := (Below.refl _ _).alloc (Nat.le_refl _) _
  have BW := hide bV
  clear bV
  have HM := hide (under_rows ps q)
  obtain ⟨RES, eRES⟩ : ∃ r, underB ps q = r := ⟨_, rfl⟩
  rw [eRES]
  replace HM := hide (eRES.symm.trans HM.out)
  clear eRES
  obtain ⟨n, en⟩ : ∃ n, ps.length = n := ⟨_, rfl⟩
  have EN := hide en
  rw [en] at h2 BW HM ⊢
  have H4 := hide h4
  clear en h4
  go_enter Try.func79, Try.ntmps79
  by_cases h0 : n = 0
  · subst h0
    have HD : Hid (RES = true) := HM.out.trans rfl
    go_wp2
    refine wp_loop_rounds 1 ?_
    rw [rounds_succ]
    go_wp2
    go_ret
    exact ⟨ret_bool HD.out.symm, BW.out⟩
  · obtain ⟨rfl, hc⟩ := H4.out.resolve_left (fun e => h0 (by rw [← EN.out, e]; rfl))
    have HC := hide hc
    clear hc H4
    go_wp2
    have ZZ : Hid ((w.alloc (.cells #[.slice (some ⟨B, off, none⟩) n cap] 40)).cell? ⟨w.heap.size, 0, none⟩ = some (.slice (some ⟨B, off, none⟩) n cap)) := show _ = _ by rw [World.cell?_alloc_new]; rfl
    have HV : Hid (∀ (i : Nat) x, ps[i]? = some x → (w.alloc (.cells #[.slice (some ⟨B, off, none⟩) n cap] 40)).cell? ⟨B, off + i * 2, none⟩ = some (.int .i64 x.1) ∧ ∃ s b, (w.alloc (.cells #[.slice (some ⟨B, off, none⟩) n cap] 40)).cell? ⟨B, off + i * 2 + 1, none⟩ = some s ∧ Row (w.alloc (.cells #[.slice (some ⟨B, off, none⟩) n cap] 40)) b s x.2) := fun i x hx => by
      obtain ⟨g1, s, b, g2, g3⟩ := HC.out i x hx
      have bb := (Below.refl w.heap.size w).alloc (Nat.le_refl _) (.cells #[.slice (some ⟨B, off, none⟩) n cap] 40)
      exact ⟨cell_below bb g1, s, b, cell_below bb g2, g3.below bb⟩
    generalize w.alloc (.cells #[.slice (some ⟨B, off, none⟩) n cap] 40) = V at BW HV ZZ ⊢
    go_loopw [12] (fun i wr => ∃ k : Nat, k ≤ n ∧ i = .int .i64 k ∧ Hid (∀ j, j < k → rowAt ps q j = true) ∧ Hid (Below V.heap.size V wr)) (fun i _ => n - (intOf i).toNat)
    case atStart => exact ⟨0, by omega, rfl, fun j hj => by omega, Below.refl _ _⟩
    case round =>
      obtain ⟨k, hk, rfl, HE, HB⟩ := hrel
      have z0 := cell_below HB.out ZZ.out
      by_cases hlt : k < n
      case neg =>
        have HD : Hid (RES = true) := HM.out.trans (all_yes fun j hj => HE.out j (by omega))
        go_wp2
        go_ret
        exact ⟨ret_bool HD.out.symm, BW.out.trans (HB.out.mono BW.out.size)⟩
      obtain ⟨x, ex⟩ : ∃ x, ps[k]? = some x := ⟨_, List.getElem?_eq_getElem (by rw [EN.out]; exact hlt)⟩
      obtain ⟨c, at_⟩ := x
      obtain ⟨g1, s, b, g2, g3⟩ := HV.out k _ ex
      have cx := cell_below HB.out g1
      have sx := cell_below HB.out g2
      replace g3 := g3.below HB.out
      have EX := hide ex
      obtain ⟨qa, ca, oa, rfl, l2, l3, _, l4⟩ := g3
      unfold maxLen at l3
      simp only [] at cx sx l2 l4
      have lk : ((k : Nat) : Int) < (n : Nat) := by omega
      have NX : Hid (rowAt ps q k = true → ∀ j, j < k + 1 → rowAt ps q j = true) := fun hr j hj => by
        by_cases ej : j = k
        · subst ej; exact hr
        · exact HE.out j (by omega)
      clear ex g1 g2
      obtain ⟨m, em⟩ : ∃ m, at_.length = m := ⟨_, rfl⟩
      have EM := hide em
      rw [em] at sx l2
      have L4 := hide l4
      clear em l4
      by_cases m0 : m = 0
      · subst m0
        have HX := hide (NX.out (row_yes EX.out (fun j y hy => by rw [List.length_eq_zero_iff.1 EM.out] at hy; simp at hy)))
        have BX := hide (HB.out.trans (((Below.refl wr.heap.size wr).alloc (Nat.le_refl _) (.cells #[.int .i64 c, .slice qa 0 ca] 88)).mono HB.out.size))
        go_wp2
        refine wp_loop_rounds 1 ?_
        rw [rounds_succ]
        go_wp2
        exact ⟨⟨k + 1, by omega, by go_num, HX, BX⟩, by simp [intOf]; omega⟩
      · obtain ⟨rfl, hc2⟩ := L4.out.resolve_left (fun e => m0 (by rw [← EM.out, e]; rfl))
        have bX := (Below.refl wr.heap.size wr).alloc (Nat.le_refl _) (.cells #[.int .i64 c, .slice (some ⟨b, oa, none⟩) m ca] 88)
        have HC2 := hide (fun (j : Nat) (y : Int) (hy : at_[j]? = some y) => cell_below bX (hc2 j y hy))
        have BX := hide (HB.out.trans (bX.mono HB.out.size))
        clear hc2 L4 bX
        go_wp2
        generalize wr.alloc (.cells #[.int .i64 c, .slice (some ⟨b, oa, none⟩) m ca] 88) = U at HC2 BX ⊢
        clear cx sx z0
        go_loopw [19] (fun i w2 => ∃ j : Nat, j ≤ m ∧ i = .int .i64 j ∧ Hid (∀ (t : Nat) y, t < j → at_[t]? = some y → y < q) ∧ w2 = U) (fun i _ => m - (intOf i).toNat)
        case atStart => exact ⟨0, by omega, rfl, fun t y ht => by omega, rfl⟩
        case round =>
          obtain ⟨j, hj, rfl, HT, rfl⟩ := hrel
          by_cases jlt : j < m
          · obtain ⟨y, ey⟩ : ∃ y, at_[j]? = some y := ⟨_, List.getElem?_eq_getElem (by rw [EM.out]; exact jlt)⟩
            have cy := HC2.out j y ey
            have EY := hide ey
            have lj : ((j : Nat) : Int) < (m : Nat) := by omega
            clear ey
            by_cases hb : q ≤ y
            · have HD : Hid (RES = false) := HM.out.trans (all_no (k := k) hlt (row_no EX.out EY.out hb))
              go_wp2
              go_ret
              exact ⟨ret_bool HD.out.symm, BW.out.trans (BX.out.mono BW.out.size)⟩
            · have HX : Hid (∀ (t : Nat) z, t < j + 1 → at_[t]? = some z → z < q) := fun t z ht hz => by
                by_cases et : t = j
                · subst et
                  rw [EY.out] at hz
                  obtain rfl := Option.some.inj hz
                  omega
                · exact HT.out t z (by omega) hz
              go_wp2
              exact ⟨⟨j + 1, by omega, by go_num, HX, trivial⟩, by simp [intOf]; omega⟩
          · have HX := hide (NX.out (row_yes EX.out (fun t y hy => HT.out t y (by have := (List.getElem?_eq_some_iff.1 hy).1; rw [EM.out] at this; omega) hy)))
            go_wp2
            exact ⟨⟨k + 1, by omega, by go_num, HX, BX⟩, by simp [intOf]; omega⟩
set_option maxRecDepth 4000 in
set_option maxHeartbeats 8000000 in
theorem specUnder (ps : List Mono) (q : Int) (B : Nat) (v : Value) (w : World) (h : PRow w B v ps) :
    Calls Try.prog 75 #[.agg #[v], .int .i64 q] w fun e w' => e = .returned (.bool (underB ps q)) ∧ Below w.heap.size w w' := by
  obtain ⟨a, cap, off, rfl, h2, h3, hz, h4⟩ := h
  unfold maxLen at h3
  clear hz
  have bV : Below w.heap.size w (w.alloc (.cells #[.slice a ps.length cap] 40)) := (Below.refl _ _).alloc (Nat.le_refl _) _
  have BW := hide bV
  clear bV
  have HM := hide (under_rows ps q)
  obtain ⟨RES, eRES⟩ : ∃ r, underB ps q = r := ⟨_, rfl⟩
  rw [eRES]
  replace HM := hide (eRES.symm.trans HM.out)
  clear eRES
  obtain ⟨n, en⟩ : ∃ n, ps.length = n := ⟨_, rfl⟩
  have EN := hide en
  rw [en] at h2 BW HM ⊢
  have H4 := hide h4
  clear en h4
  go_enter Try.func75, Try.ntmps75
  by_cases h0 : n = 0
  · subst h0
    have HD : Hid (RES = true) := HM.out.trans rfl
    go_wp2
    refine wp_loop_rounds 1 ?_
    rw [rounds_succ]
    go_wp2
    go_ret
    exact ⟨ret_bool HD.out.symm, BW.out⟩
  · obtain ⟨rfl, hc⟩ := H4.out.resolve_left (fun e => h0 (by rw [← EN.out, e]; rfl))
    have HC := hide hc
    clear hc H4
    go_wp2
    have ZZ : Hid ((w.alloc (.cells #[.slice (some ⟨B, off, none⟩) n cap] 40)).cell? ⟨w.heap.size, 0, none⟩ = some (.slice (some ⟨B, off, none⟩) n cap)) := show _ = _ by rw [World.cell?_alloc_new]; rfl
    have HV : Hid (∀ (i : Nat) x, ps[i]? = some x → (w.alloc (.cells #[.slice (some ⟨B, off, none⟩) n cap] 40)).cell? ⟨B, off + i * 2, none⟩ = some (.int .i64 x.1) ∧ ∃ s b, (w.alloc (.cells #[.slice (some ⟨B, off, none⟩) n cap] 40)).cell? ⟨B, off + i * 2 + 1, none⟩ = some s ∧ Row (w.alloc (.cells #[.slice (some ⟨B, off, none⟩) n cap] 40)) b s x.2) := fun i x hx => by
      obtain ⟨g1, s, b, g2, g3⟩ := HC.out i x hx
      have bb := (Below.refl w.heap.size w).alloc (Nat.le_refl _) (.cells #[.slice (some ⟨B, off, none⟩) n cap] 40)
      exact ⟨cell_below bb g1, s, b, cell_below bb g2, g3.below bb⟩
    generalize w.alloc (.cells #[.slice (some ⟨B, off, none⟩) n cap] 40) = V at BW HV ZZ ⊢
    go_loopw [5] (fun i wr => ∃ k : Nat, k ≤ n ∧ i = .int .i64 k ∧ Hid (∀ j, j < k → rowAt ps q j = true) ∧ Hid (Below V.heap.size V wr)) (fun i _ => n - (intOf i).toNat)
    case atStart => exact ⟨0, by omega, rfl, fun j hj => by omega, Below.refl _ _⟩
    case round =>
      obtain ⟨k, hk, rfl, HE, HB⟩ := hrel
      have z0 := cell_below HB.out ZZ.out
      by_cases hlt : k < n
      case neg =>
        have HD : Hid (RES = true) := HM.out.trans (all_yes fun j hj => HE.out j (by omega))
        go_wp2
        go_ret
        exact ⟨ret_bool HD.out.symm, BW.out.trans (HB.out.mono BW.out.size)⟩
      obtain ⟨x, ex⟩ : ∃ x, ps[k]? = some x := ⟨_, List.getElem?_eq_getElem (by rw [EN.out]; exact hlt)⟩
      obtain ⟨c, at_⟩ := x
      obtain ⟨g1, s, b, g2, g3⟩ := HV.out k _ ex
      have cx := cell_below HB.out g1
      have sx := cell_below HB.out g2
      replace g3 := g3.below HB.out
      have EX := hide ex
      obtain ⟨qa, ca, oa, rfl, l2, l3, _, l4⟩ := g3
      unfold maxLen at l3
      simp only [] at cx sx l2 l4
      have lk : ((k : Nat) : Int) < (n : Nat) := by omega
      have NX : Hid (rowAt ps q k = true → ∀ j, j < k + 1 → rowAt ps q j = true) := fun hr j hj => by
        by_cases ej : j = k
        · subst ej; exact hr
        · exact HE.out j (by omega)
      clear ex g1 g2
      obtain ⟨m, em⟩ : ∃ m, at_.length = m := ⟨_, rfl⟩
      have EM := hide em
      rw [em] at sx l2
      have L4 := hide l4
      clear em l4
      by_cases m0 : m = 0
      · subst m0
        have HX := hide (NX.out (row_yes EX.out (fun j y hy => by rw [List.length_eq_zero_iff.1 EM.out] at hy; simp at hy)))
        have BX := HB
        go_wp2
        refine wp_loop_rounds 1 ?_
        rw [rounds_succ]
        go_wp2
        exact ⟨⟨k + 1, by omega, by go_num, HX, BX⟩, by simp [intOf]; omega⟩
      · obtain ⟨rfl, hc2⟩ := L4.out.resolve_left (fun e => m0 (by rw [← EM.out, e]; rfl))
        have HC2 := hide hc2
        have BX := HB
        clear hc2 L4
        go_wp2
        go_loopw [6] (fun i w2 => ∃ j : Nat, j ≤ m ∧ i = .int .i64 j ∧ Hid (∀ (t : Nat) y, t < j → at_[t]? = some y → y < q) ∧ w2 = wr) (fun i _ => m - (intOf i).toNat)
        case atStart => exact ⟨0, by omega, rfl, fun t y ht => by omega, rfl⟩
        case round =>
          obtain ⟨j, hj, rfl, HT, rfl⟩ := hrel
          by_cases jlt : j < m
          · obtain ⟨y, ey⟩ : ∃ y, at_[j]? = some y := ⟨_, List.getElem?_eq_getElem (by rw [EM.out]; exact jlt)⟩
            have cy := HC2.out j y ey
            have EY := hide ey
            have lj : ((j : Nat) : Int) < (m : Nat) := by omega
            clear ey
            by_cases hb : q ≤ y
            · have HD : Hid (RES = false) := HM.out.trans (all_no (k := k) hlt (row_no EX.out EY.out hb))
              go_wp2
              go_ret
              exact ⟨ret_bool HD.out.symm, BW.out.trans (BX.out.mono BW.out.size)⟩
            · have HX : Hid (∀ (t : Nat) z, t < j + 1 → at_[t]? = some z → z < q) := fun t z ht hz => by
                by_cases et : t = j
                · subst et
                  rw [EY.out] at hz
                  obtain rfl := Option.some.inj hz
                  omega
                · exact HT.out t z (by omega) hz
              go_wp2
              exact ⟨⟨j + 1, by omega, by go_num, HX, trivial⟩, by simp [intOf]; omega⟩
          · have HX := hide (NX.out (row_yes EX.out (fun t y hy => HT.out t y (by have := (List.getElem?_eq_some_iff.1 hy).1; rw [EM.out] at this; omega) hy)))
            go_wp2
            exact ⟨⟨k + 1, by omega, by go_num, HX, BX⟩, by simp [intOf]; omega⟩
end Go.Proofs.Ytagfgbkclopoeaa.Pol
namespace Go.Proofs.Ytagfgbkclopoeaa.Pol
open Go.ChangeShapes Go.WideShapes Go.ChangeAt Go.RowKit IntS
def ordPart (x y : Mono) : Int := if ordA x.2 y.2 ≠ 0 then ordA x.2 y.2 else cmpI x.1 y.1
theorem part_atoms {x y : Mono} (h : ordA x.2 y.2 ≠ 0) : ordPart x y = ordA x.2 y.2 := if_pos h
theorem part_coef {x y : Mono} (h : ordA x.2 y.2 = 0) : ordPart x y = cmpI x.1 y.1 := if_neg (fun h2 => h2 h)
theorem ordM_cons (x y : Mono) (xs ys : List Mono) : ordM (x :: xs) (y :: ys) = if ordPart x y ≠ 0 then ordPart x y else ordM xs ys := by
  rw [ordM]
  unfold ordPart cmpI
  by_cases h : ordA x.2 y.2 ≠ 0
  · simp [h]
  · rw [if_neg h, if_neg h]
    by_cases h1 : x.1 < y.1
    · simp [h1]
    · by_cases h2 : y.1 < x.1
      · simp [h1, h2]
      · simp [h1, h2]
theorem ordM_ne {ps rs : List Mono} {k : Nat} {x y : Mono} (hx : ps[k]? = some x) (hy : rs[k]? = some y) (h : ordPart x y ≠ 0) : ordM (ps.drop k) (rs.drop k) = ordPart x y := by
  rw [drop_cons hx, drop_cons hy, ordM_cons, if_pos h]
theorem ordM_eq {ps rs : List Mono} {k : Nat} {x y : Mono} (hx : ps[k]? = some x) (hy : rs[k]? = some y) (h : ordPart x y = 0) : ordM (ps.drop k) (rs.drop k) = ordM (ps.drop (k + 1)) (rs.drop (k + 1)) := by
  rw [drop_cons hx, drop_cons hy, ordM_cons, if_neg (fun h2 => h2 h)]
theorem ordM_end {ps rs : List Mono} {k : Nat} (ha : ps.length ≤ k) (hb : rs.length ≤ k) : ordM (ps.drop k) (rs.drop k) = 0 := by
  rw [List.drop_eq_nil_of_le ha, List.drop_eq_nil_of_le hb]
  rfl
theorem ordP_same {a b : List Mono} (h : a.length = b.length) : ordP a b = ordM a b := by unfold ordP; rw [if_neg (by omega), if_neg (by omega)]
theorem ordP_lt {a b : List Mono} (h : a.length < b.length) : ordP a b = -1 := by unfold ordP; rw [if_pos h]
theorem ordP_gt {a b : List Mono} (h : b.length < a.length) : ordP a b = 1 := by unfold ordP; rw [if_neg (by omega), if_pos h]
set_option maxRecDepth 4000 in
set_option maxHeartbeats 8000000 in
theorem specOrder (ps rs : List Mono) (B B' : Nat) (v v' : Value) (w : World) (h : PRow w B v ps) (h' : PRow w B' v' rs) :
    Calls Try.prog 76 #[.agg #[v], .agg #[v']] w fun e w' => e = .returned (.int .i64 (ordP ps rs)) ∧ Below w.heap.size w w' := by
  have bV : Below w.heap.size w ((w.alloc (.cells #[v] 40)).alloc (.cells #[v'] 40)) := ((Below.refl _ _).alloc (Nat.le_refl _) _).alloc (by simp) _
  have Y0 : Hid (((w.alloc (.cells #[v] 40)).alloc (.cells #[v'] 40)).cell? ⟨w.heap.size, 0, none⟩ = some v) := show _ = _ by
    rw [World.cell?_alloc_lt _ _ _ (by simp), World.cell?_alloc_new]; rfl
  have Y1 : Hid (((w.alloc (.cells #[v] 40)).alloc (.cells #[v'] 40)).cell? ⟨w.heap.size + 1, 0, none⟩ = some v') := show _ = _ by
    have := Rec.new (w.alloc (.cells #[v] 40)) [v'] 40
    rw [show (w.alloc (.cells #[v] 40)).heap.size = w.heap.size + 1 by simp] at this
    exact this.cell 0 _ rfl
  have H := hide (h.below bV)
  have H' := hide (h'.below bV)
  have BW := hide bV
  obtain ⟨a, cap, off, rfl, h2, h3, _⟩ := h
  obtain ⟨a', cap', off', rfl, h2', h3', _⟩ := h'
  unfold maxLen at h3 h3'
  clear bV
  obtain ⟨R, eR⟩ : ∃ R, ordP ps rs = R := ⟨_, rfl⟩
  rw [eR]
  have ER := hide eR
  clear eR
  go_enter Try.func76, Try.ntmps76
  by_cases hl : ps.length = rs.length
  case neg =>
    have nn : ((ps.length : Int) != (rs.length : Int)) = true := by simp; omega
    by_cases e1 : ps.length < rs.length
    · have HD : Hid (R = -1) := ER.out.symm.trans (ordP_lt e1)
      have e1' : (ps.length : Int) < rs.length := by omega
      clear e1 hl
      go_wp2
      go_ret
      exact ⟨ret_int HD.out.symm, BW.out⟩
    · have HD : Hid (R = 1) := ER.out.symm.trans (ordP_gt (by omega))
      have e1' : ¬ (ps.length : Int) < rs.length := by omega
      clear e1 hl
      go_wp2
      go_ret
      exact ⟨ret_int HD.out.symm, BW.out⟩
  replace ER : Hid (ordM ps rs = R) := (ordP_same hl).symm.trans ER.out
  obtain ⟨n, hn⟩ : ∃ n, ps.length = n := ⟨_, rfl⟩
  have hn' : rs.length = n := by omega
  rw [hn] at h2 Y0 Y1 BW H H'
  rw [hn'] at h2' Y0 Y1 BW H H'
  rw [hn, hn']
  have EN := hide hn
  have EN' := hide hn'
  have nn : ((n : Int) != (n : Int)) = false := by simp
  clear hn hn' hl
  by_cases h0 : n = 0
  · subst h0
    have HD : Hid (R = 0) := show _ = _ by rw [← ER.out, List.length_eq_zero_iff.1 EN.out, List.length_eq_zero_iff.1 EN'.out]; rfl
    go_wp2
    refine wp_loop_rounds 1 ?_
    rw [rounds_succ]
    go_wp2
    go_ret
    exact ⟨ret_int HD.out.symm, BW.out⟩
  · obtain ⟨_, _, offa, ea, _, _, _, ha4⟩ := H.out
    obtain ⟨rfl, hc⟩ := ha4.resolve_left (fun e => h0 (by rw [← EN.out, e]; rfl))
    simp only [Value.slice.injEq] at ea
    obtain ⟨rfl, -, rfl⟩ := ea
    obtain ⟨_, _, offb, eb, _, _, _, hb4⟩ := H'.out
    obtain ⟨rfl, hc'⟩ := hb4.resolve_left (fun e => h0 (by rw [← EN'.out, e]; rfl))
    simp only [Value.slice.injEq] at eb
    obtain ⟨rfl, -, rfl⟩ := eb
    have HC := hide hc
    have HC' := hide hc'
    clear hc hc' ha4 hb4 H H'
    go_wp2_with fail
    generalize ((w.alloc (.cells #[.slice (some ⟨B, offa, none⟩) n cap] 40)).alloc (.cells #[.slice (some ⟨B', offb, none⟩) n cap'] 40)) = V at Y0 Y1 BW HC HC' ⊢
    have z0 := Y0.out
    have z1 := Y1.out
    go_wp2
    clear z0 z1
    go_loopw [5] (fun i wr => ∃ k : Nat, k ≤ n ∧ i = .int .i64 k ∧ Hid (ordM (ps.drop k) (rs.drop k) = R) ∧ Hid (Below V.heap.size V wr)) (fun i _ => n - (intOf i).toNat)
    case atStart => exact ⟨0, by omega, rfl, ER, Below.refl _ _⟩
    case round =>
      obtain ⟨k, hk, rfl, HE, HB⟩ := hrel
      have z0 := cell_below HB.out Y0.out
      have z1 := cell_below HB.out Y1.out
      by_cases hlt : k < n
      case neg =>
        have HD : Hid (R = 0) := HE.out.symm.trans (ordM_end (by rw [EN.out]; omega) (by rw [EN'.out]; omega))
        go_wp2
        go_ret
        exact ⟨ret_int HD.out.symm, BW.out.trans (HB.out.mono BW.out.size)⟩
      obtain ⟨x, ex⟩ : ∃ x, ps[k]? = some x := ⟨_, List.getElem?_eq_getElem (by rw [EN.out]; exact hlt)⟩
      obtain ⟨y, ey⟩ : ∃ y, rs[k]? = some y := ⟨_, List.getElem?_eq_getElem (by rw [EN'.out]; exact hlt)⟩
      obtain ⟨c, at_⟩ := x
      obtain ⟨d, bt_⟩ := y
      obtain ⟨g1, s, b, g2, g3⟩ := HC.out k _ ex
      obtain ⟨g1', s', b', g2', g3'⟩ := HC'.out k _ ey
      have DR : Below wr.heap.size wr wr.drew := (Below.refl _ _).drew
      have HB1 := hide (HB.out.trans (DR.mono HB.out.size))
      have cx := cell_below HB.out g1
      have sx := cell_below HB.out g2
      have cy := cell_below HB.out g1'
      have sy := cell_below HB.out g2'
      have RX := hide (g3.below HB1.out)
      have RY := hide (g3'.below HB1.out)
      have EX := hide ex
      have EY := hide ey
      obtain ⟨qa, ca, _, rfl, _⟩ := g3
      obtain ⟨qb, cb, _, rfl, _⟩ := g3'
      simp only [] at cx sx cy sy RX RY
      have lk : ((k : Nat) : Int) < (n : Nat) := by omega
      clear ex ey g1 g2 g1' g2' DR
      go_wp2_with fail
      refine region_tail 12 (by kernel_rfl) (by kernel_rfl) ?_
      simp only [List.take_succ_cons, List.take_zero, List.drop_succ_cons, List.drop_zero]
      repeat still_step
      refine wpStill_nil ?_
      go_wp2_with fail
      refine (l4Order at_ bt_ b b' _ _ _ RX.out RY.out).mono ?_
      rintro e u ⟨rfl, hb⟩
      have p0 := cell_below hb (cell_drew z0)
      have p1 := cell_below hb (cell_drew z1)
      have px := cell_below hb (cell_drew cx)
      have py := cell_below hb (cell_drew cy)
      have HU := hide (HB1.out.trans (hb.mono HB1.out.size))
      clear hb RX RY cx sx cy sy z0 z1 HB HB1
      by_cases e0 : ordA at_ bt_ = 0
      case neg =>
        have HD : Hid (ordA at_ bt_ = R) := (part_atoms (x := (c, at_)) (y := (d, bt_)) e0).symm.trans ((ordM_ne EX.out EY.out (by rw [part_atoms (x := (c, at_)) (y := (d, bt_)) e0]; exact e0)).symm.trans HE.out)
        rw [HD.out] at e0 ⊢
        have e1 : (R != 0) = true := by simp [e0]
        clear e0
        go_wp2
        go_ret
        exact ⟨rfl, BW.out.trans (HU.out.mono BW.out.size)⟩
      have HP := hide (part_coef (x := (c, at_)) (y := (d, bt_)) e0)
      rw [e0]
      clear e0
      have HU1 : Hid (Below V.heap.size V u.drew) := HU.out.drew
      by_cases e1 : c = d
      · have HX : Hid (ordM (ps.drop (k + 1)) (rs.drop (k + 1)) = R) := (ordM_eq EX.out EY.out (by rw [HP.out]; exact cmp_eq e1)).symm.trans HE.out
        subst e1
        have cc : (c != c) = false := by simp
        go_wp2_with fail
        refine region_tail 12 (by kernel_rfl) (by kernel_rfl) ?_
        simp only [List.take_succ_cons, List.take_zero, List.drop_succ_cons, List.drop_zero]
        repeat still_step
        refine wpStill_nil ?_
        go_wp2
        exact ⟨⟨k + 1, by omega, by go_num, HX, HU1⟩, by simp [intOf]; omega⟩
      have cc : (c != d) = true := by simpa using e1
      have HU2 : Hid (Below V.heap.size V u.drew.drew) := HU.out.drew.drew
      have r0 : u.drew.cell? ⟨w.heap.size, 0, none⟩ = some (.slice (some ⟨B, offa, none⟩) n cap) := p0
      have r1 : u.drew.cell? ⟨w.heap.size + 1, 0, none⟩ = some (.slice (some ⟨B', offb, none⟩) n cap') := p1
      have rx : u.drew.cell? ⟨B, offa + k * 2, none⟩ = some (.int .i64 c) := px
      have ry : u.drew.cell? ⟨B', offb + k * 2, none⟩ = some (.int .i64 d) := py
      go_wp2_with fail
      refine region_tail 12 (by kernel_rfl) (by kernel_rfl) ?_
      simp only [List.take_succ_cons, List.take_zero, List.drop_succ_cons, List.drop_zero]
      repeat still_step
      refine wpStill_nil ?_
      go_wp2_with fail
      clear p0 p1 px py
      generalize u.drew = ud at r0 r1 rx ry HU1 HU2 ⊢
      by_cases e2 : c < d
      · have HD : Hid (R = -1) := HE.out.symm.trans ((ordM_ne EX.out EY.out (by rw [HP.out, cmp_lt e2]; decide)).trans (HP.out.trans (cmp_lt e2)))
        refine region_tail 12 (by kernel_rfl) (by kernel_rfl) ?_
        simp only [List.take_succ_cons, List.take_zero, List.drop_succ_cons, List.drop_zero]
        repeat still_step
        refine wpStill_nil ?_
        go_wp2
        go_ret
        exact ⟨ret_int HD.out.symm, BW.out.trans (HU2.out.mono BW.out.size)⟩
      · have HD : Hid (R = 1) := HE.out.symm.trans ((ordM_ne EX.out EY.out (by rw [HP.out, cmp_gt (show d < c by omega)]; decide)).trans (HP.out.trans (cmp_gt (show d < c by omega))))
        refine region_tail 12 (by kernel_rfl) (by kernel_rfl) ?_
        simp only [List.take_succ_cons, List.take_zero, List.drop_succ_cons, List.drop_zero]
        repeat still_step
        refine wpStill_nil ?_
        go_wp2
        go_ret
        exact ⟨ret_int HD.out.symm, BW.out.trans (HU2.out.mono BW.out.size)⟩
end Go.Proofs.Ytagfgbkclopoeaa.Pol
