/-
  The laws' own toTabTab and eqTabTab; atoms that came in as plain data can be read.
  Atoms in a slice that the call made, their sums in blocks of their own: what it is, and how one more is put behind.
-/
import Derived.Test.YtnlfcocejkaieaaJ09
import Derived.Test.YtnlfcocejkaieaaJ02
namespace Go.Proofs.Ytnlfcocejkaieaa.Tab
set_option linter.unusedVariables false
open Go.ChangeShapes Go.WideShapes Go.ChangeAt Go.RowKit IntS Pol
theorem WT.keep {S : Nat → Prop} {w w' : World} {lo hi : Nat} {a : Option Addr} {G cap : Nat} {l m h : Nat → Nat} {sx sy : Nat → Value} {ts : List At} (q : WT w lo hi a G cap l m h sx sy ts) (hk : Keep S w w') (hS : ∀ b, lo ≤ b → b < hi → ¬ S b) : WT w' lo hi a G cap l m h sx sy ts := by
  refine ⟨q.le, q.mx, q.nl, q.at_.imp id (fun q => ⟨q.1, q.2.1, q.2.2.1, Nat.lt_of_lt_of_le q.2.2.2 hk.size⟩), fun i x hx => ?_, q.apart⟩
  obtain ⟨⟨k1, k2, k3, k4, k5, k6⟩, k7, k8, k9, k10, k11, k12, k13⟩ := q.cells i x hx
  have hG := q.at_.resolve_left (fun e => by rw [e] at hx; simp at hx)
  have e := hk.block G hG.2.2.2 (hS G hG.2.1 hG.2.2.1)
  exact ⟨⟨(World.cell?_of_block (w := w) (a := ⟨G, i * 4, none⟩) e).trans k1, (World.frozen?_of_block (w := w) (a := ⟨G, i * 4, none⟩) e).trans k2, (World.cell?_of_block (w := w) (a := ⟨G, i * 4 + 1, none⟩) e).trans k3, (World.frozen?_of_block (w := w) (a := ⟨G, i * 4 + 1, none⟩) e).trans k4, (World.cell?_of_block (w := w) (a := ⟨G, i * 4 + 2, none⟩) e).trans k5, (World.cell?_of_block (w := w) (a := ⟨G, i * 4 + 3, none⟩) e).trans k6⟩, k7.keep hk (fun b h1 h2 => hS b (by omega) (by omega)), k8.keep hk (fun b h1 h2 => hS b (by omega) (by omega)), k9, k10, k11, k12, k13⟩
theorem WTab.keep {S : Nat → Prop} {w w' : World} {lo hi : Nat} {v : Value} {ts : List At} (q : WTab w lo hi v ts) (hk : Keep S w w') (hS : ∀ b, lo ≤ b → b < hi → ¬ S b) : WTab w' lo hi v ts := by
  obtain ⟨a, G, cap, l, m, h, sx, sy, h1, h2⟩ := q
  exact ⟨a, G, cap, l, m, h, sx, sy, h1, h2.keep hk hS⟩
theorem WTab.below {w w' : World} {lo hi : Nat} {v : Value} {ts : List At} (h : WTab w lo hi v ts) (hb : Below w.heap.size w w') : WTab w' lo hi v ts := h.keep (Keep.of_below (S := fun _ => False) hb) (fun _ _ _ h => h)
theorem WTab.wide {w : World} {lo hi lo' hi' : Nat} {v : Value} {ts : List At} (q : WTab w lo hi v ts) (hl : lo' ≤ lo) (hh : hi ≤ hi') : WTab w lo' hi' v ts := by
  obtain ⟨a, G, cap, l, m, h, sx, sy, h1, q⟩ := q
  refine ⟨a, G, cap, l, m, h, sx, sy, h1, q.le, q.mx, q.nl, q.at_.imp id (fun q => ⟨q.1, by omega, by omega, q.2.2.2⟩), fun i x hx => ?_, q.apart⟩
  obtain ⟨k1, k7, k8, k9, k10, k11, k12, k13⟩ := q.cells i x hx
  exact ⟨k1, k7, k8, by omega, k10, k11, by omega, k13⟩
set_option maxRecDepth 8000 in
set_option maxHeartbeats 4000000 in
theorem eqTabAtomS (ts : List At) (B B' : Nat) (v v' : Value) (w : World) (h : TRow w B v ts) (h' : TRow w B' v' ts) :
    Calls Try.prog 15 #[v, v'] w fun e w' => e = .returned (.bool true) ∧ Below w.heap.size w w' := by
  obtain ⟨a, cap, off, rfl, h2, h3, hz, h4⟩ := h
  obtain ⟨a', cap', off', rfl, h2', h3', hz', h4'⟩ := h'
  unfold maxLen at h3 h3'
  clear hz hz'
  obtain ⟨n, en⟩ : ∃ n, ts.length = n := ⟨_, rfl⟩
  have EN := hide en
  rw [en] at h2 h2' ⊢
  have H4 := hide h4
  have H4' := hide h4'
  have nn : ((n : Int) != (n : Int)) = false := by simp
  clear en h4 h4'
  go_enter Try.func15, Try.ntmps15
  by_cases n0 : n = 0
  · subst n0
    go_wp2
    refine wp_loop_rounds 1 ?_
    rw [rounds_succ]
    go_wp2
    go_ret
    exact ⟨rfl, Below.refl _ _⟩
  · obtain ⟨rfl, hc⟩ := H4.out.resolve_left (fun e => n0 (by rw [← EN.out, e]; rfl))
    obtain ⟨rfl, hc'⟩ := H4'.out.resolve_left (fun e => n0 (by rw [← EN.out, e]; rfl))
    have HC := hide hc
    have HC' := hide hc'
    clear hc hc' H4 H4'
    go_wp2
    go_loopw [5] (fun i wr => ∃ k : Nat, k ≤ n ∧ i = .int .i64 k ∧ Hid (Below w.heap.size w wr)) (fun i _ => n - (intOf i).toNat)
    case atStart => exact ⟨0, by omega, rfl, Below.refl _ _⟩
    case round =>
      obtain ⟨k, hk, rfl, HB⟩ := hrel
      by_cases hlt : k < n
      · obtain ⟨t, et⟩ : ∃ t, ts[k]? = some t := ⟨_, List.getElem?_eq_getElem (by rw [EN.out]; exact hlt)⟩
        obtain ⟨c0, c1, qx, cx, bx, qy, cy, b, c2, px, c3, py⟩ := (HC.out k t et).below HB.out
        obtain ⟨c0', c1', qx', cx', bx', qy', cy', b', c2', px', c3', py'⟩ := (HC'.out k t et).below HB.out
        have HB2 : Hid (Below w.heap.size w wr.drew) := HB.out.drew
        have PX := hide (px.below (Below.refl _ _).drew)
        have PY := hide (py.below (Below.refl _ _).drew)
        have PX' := hide (px'.below (Below.refl _ _).drew)
        have PY' := hide (py'.below (Below.refl _ _).drew)
        have lk : ((k : Nat) : Int) < (n : Nat) := by omega
        clear et px py px' py'
        go_wp2_with fail
        refine region_tail 8 (by kernel_rfl) (by kernel_rfl) ?_
        simp only [List.take_succ_cons, List.take_zero, List.drop_succ_cons, List.drop_zero]
        repeat still_step
        refine wpStill_nil ?_
        go_wp2_with fail
        refine (eqTabAtom t qx qx' cx cx' qy qy' cy cy' bx bx' b b' _ PX.out PY.out PX'.out PY'.out).mono ?_
        rintro e u ⟨rfl, hb⟩
        have HB3 := hide (HB2.out.trans (hb.mono HB2.out.size))
        clear hb
        go_wp2
        exact ⟨⟨k + 1, by omega, by go_num, HB3⟩, by simp [intOf]; omega⟩
      · go_wp2
        go_ret
        exact ⟨rfl, HB.out⟩
theorem eqTabTab (ts : List At) (B B' : Nat) (v v' : Value) (w : World) (h : TRow w B v ts) (h' : TRow w B' v' ts) :
    Calls Try.prog 6 #[.agg #[v], .agg #[v']] w fun e w' => e = .returned (.bool true) ∧ Below w.heap.size w w' := by
  have bV : Below w.heap.size w ((w.alloc (.cells #[v] 24)).alloc (.cells #[v'] 24)) := ((Below.refl _ _).alloc (Nat.le_refl _) _).alloc (by simp) _
  have H := hide (h.below bV)
  have H' := hide (h'.below bV)
  have BW := hide bV
  obtain ⟨a, cap, off, rfl, _⟩ := h
  obtain ⟨a', cap', off', rfl, _⟩ := h'
  clear bV
  go_enter Try.func6, Try.ntmps6
  go_wp2_with fail
  refine (eqTabAtomS ts B B' _ _ _ H.out H'.out).mono ?_
  rintro e u ⟨rfl, hb⟩
  replace BW := hide (BW.out.trans (hb.mono BW.out.size))
  clear hb
  go_wp2
  go_ret
  exact ⟨rfl, BW.out⟩
theorem four {l : List Value} (h : l.length = 4) : ∃ a b c d, l = [a, b, c, d] := by
  match l, h with
  | [a, b, c, d], _ => exact ⟨a, b, c, d, rfl⟩
end Go.Proofs.Ytnlfcocejkaieaa.Tab
namespace Go.Proofs.Ytnlfcocejkaieaa.Tab
set_option linter.unusedVariables false
open Go.ChangeShapes Go.WideShapes Go.ChangeAt Go.RowKit IntS Pol Push
theorem infoAtom : ∃ i, Try.prog.info? 37 = some i ∧ i.zero = some (.agg #[.int .i64 0, .int .i64 0, .slice none 0 0, .slice none 0 0]) ∧ i.size = 4 ∧ i.bytes = 64 := by
  have hinfo : (Try.prog.info? 37).map (fun i => (i.zero, i.size, i.bytes)) = some (some (.agg #[.int .i64 0, .int .i64 0, .slice none 0 0, .slice none 0 0]), 4, 64) := by kernel_rfl
  obtain ⟨i, hi, h⟩ := Option.map_eq_some_iff.1 hinfo
  simp only [Prod.mk.injEq] at h
  exact ⟨i, hi, h.1, h.2.1, h.2.2⟩
/-- The four cells of an atom. -/
structure C4 where
  kd : Int
  k : Int
  x : Value
  y : Value
def flat4 : List C4 → List Value
  | [] => []
  | c :: r => .int .i64 c.kd :: .int .i64 c.k :: c.x :: c.y :: flat4 r
theorem flat4_len : ∀ cs : List C4, (flat4 cs).length = cs.length * 4
  | [] => rfl
  | c :: r => by simp [flat4, flat4_len r]; omega
theorem flat4_app : ∀ a b : List C4, flat4 (a ++ b) = flat4 a ++ flat4 b
  | [], b => rfl
  | c :: a, b => by simp [flat4, flat4_app a b]
theorem flat4_at : ∀ (cs : List C4) (i : Nat) (c : C4), cs[i]? = some c → (flat4 cs)[i * 4]? = some (.int .i64 c.kd) ∧ (flat4 cs)[i * 4 + 1]? = some (.int .i64 c.k) ∧ (flat4 cs)[i * 4 + 2]? = some c.x ∧ (flat4 cs)[i * 4 + 3]? = some c.y
  | [], i, c, h => by simp at h
  | d :: r, 0, c, h => by
    obtain rfl := Option.some.inj h
    exact ⟨rfl, rfl, rfl, rfl⟩
  | d :: r, i + 1, c, h => by
    have := flat4_at r i c h
    rw [show (i + 1) * 4 = i * 4 + 1 + 1 + 1 + 1 by omega]
    exact this
def OwnT (w : World) (lo : Nat) (v : Value) (cs : List C4) : Prop := w.ownsRow lo 37 4 v cs.length (flat4 cs)
theorem OwnT.cells {w : World} {lo G n cap : Nat} {cs : List C4} (h : OwnT w lo (.slice (some ⟨G, 0, none⟩) n cap) cs) : n = cs.length ∧ (∀ (i : Nat) c, cs[i]? = some c → w.cell? ⟨G, i * 4, none⟩ = some (.int .i64 c.kd) ∧ w.cell? ⟨G, i * 4 + 1, none⟩ = some (.int .i64 c.k) ∧ w.cell? ⟨G, i * 4 + 2, none⟩ = some c.x ∧ w.cell? ⟨G, i * 4 + 3, none⟩ = some c.y) ∧ ∀ i, w.frozen? ⟨G, i, none⟩ = false := by
  obtain ⟨hl, h0 | ⟨g', cap', cur, hv, hb, hh, hle, hm, hc, ht⟩⟩ := h
  · exact absurd h0.1 (by simp)
  · cases hv
    have hat (j : Nat) (u : Value) (hu : (flat4 cs)[j]? = some u) : w.cell? ⟨G, j, none⟩ = some u := by
      have hj : j < cs.length * 4 := by rw [← flat4_len]; exact (List.getElem?_eq_some_iff.1 hu).1
      rw [← ht, List.getElem?_take, if_pos hj] at hu
      unfold World.cell?
      simp only [hh]
      simpa using hu
    refine ⟨rfl, fun i c hc2 => ?_, fun i => ?_⟩
    · obtain ⟨q1, q2, q3, q4⟩ := flat4_at cs i c hc2
      exact ⟨hat _ _ q1, hat _ _ q2, hat _ _ q3, hat _ _ q4⟩
    · unfold World.frozen?
      simp [hh]
/-- Atoms in a slice that the call made, from block lo on. -/
structure OTab (w : World) (lo : Nat) (q : Option Addr) (cap : Nat) (cs : List C4) (l m h : Nat → Nat) (ts : List At) : Prop where
  own : OwnT w lo (.slice q ts.length cap) cs
  len : cs.length = ts.length
  rows : ∀ (i : Nat) t, ts[i]? = some t → ∃ sx sy, cs[i]? = some ⟨t.kd, t.k, sx, sy⟩ ∧ WPoly w (l i) (m i) sx t.x ∧ WPoly w (m i) (h i) sy t.y ∧ lo ≤ l i ∧ l i ≤ m i ∧ m i ≤ h i ∧ h i ≤ w.heap.size ∧ (∀ G, q = some ⟨G, 0, none⟩ → G < l i ∨ h i ≤ G)
  inc : ∀ i j : Nat, i < j → j < ts.length → h i ≤ l j
theorem OTab.q_lt {w : World} {lo cap : Nat} {q : Option Addr} {cs : List C4} {l m h : Nat → Nat} {ts : List At} (H : OTab w lo q cap cs l m h ts) {G : Nat} (e : q = some ⟨G, 0, none⟩) : lo ≤ G ∧ G < w.heap.size := by
  subst e
  have := owns_lt H.own
  exact ⟨this.1, this.2.1⟩
theorem OTab.q_form {w : World} {lo cap : Nat} {q : Option Addr} {cs : List C4} {l m h : Nat → Nat} {ts : List At} (H : OTab w lo q cap cs l m h ts) : (q = none ∧ cap = 0 ∧ ts = []) ∨ ∃ G, q = some ⟨G, 0, none⟩ := by
  obtain ⟨_, h0 | ⟨g, cap', cur, hv, _⟩⟩ := H.own
  · injection h0.1 with e1 e2 e3
    exact Or.inl ⟨e1, e3, List.length_eq_zero_iff.1 e2⟩
  · injection hv with e1
    exact Or.inr ⟨g, e1⟩
theorem OTab.turn {w w' : World} {lo cap T : Nat} {q : Option Addr} {cs : List C4} {l m h : Nat → Nat} {ts : List At} (H : OTab w lo q cap cs l m h ts) (ht : Turn T w w') (hT : T < lo ∨ w.heap.size ≤ T) : OTab w' lo q cap cs l m h ts := by
  refine ⟨owns_turn H.own ht hT, H.len, fun i t hi => ?_, H.inc⟩
  obtain ⟨sx, sy, k1, k2, k3, k4, k5, k6, k7, k8⟩ := H.rows i t hi
  exact ⟨sx, sy, k1, k2.keep (Keep.of_turn ht) (fun b h1 h2 (h3 : b = _) => by omega), k3.keep (Keep.of_turn ht) (fun b h1 h2 (h3 : b = _) => by omega), k4, k5, k6, Nat.le_trans k7 ht.size, k8⟩
theorem OTab.below {w w' : World} {lo cap : Nat} {q : Option Addr} {cs : List C4} {l m h : Nat → Nat} {ts : List At} (H : OTab w lo q cap cs l m h ts) (hb : Below w.heap.size w w') : OTab w' lo q cap cs l m h ts := H.turn (T := w.heap.size) (Turn.of_below hb) (Or.inr (Nat.le_refl _))
theorem OTab.nil (w : World) (lo : Nat) : OTab w lo none 0 [] (fun _ => 0) (fun _ => 0) (fun _ => 0) [] := ⟨⟨rfl, Or.inl ⟨rfl, rfl⟩⟩, rfl, fun i t h => by simp at h, fun i j _ h => by simp at h⟩
/-- One more atom behind. -/
theorem OTab.next {u u' : World} {lo cap : Nat} {q : Option Addr} {cs : List C4} {l m h : Nat → Nat} {ts : List At} (H : OTab u lo q cap cs l m h ts) {t : At} {sx sy : Value} {lx mx hx : Nat} (wx : WPoly u lx mx sx t.x) (wy : WPoly u mx hx sy t.y) (h1 : lo ≤ lx) (h2 : lx ≤ mx) (h3 : mx ≤ hx) (h4 : hx ≤ u.heap.size)
    (hl : ∀ i, i < ts.length → h i ≤ lx) (hq : ∀ G, q = some ⟨G, 0, none⟩ → G < lx) {G' cap' : Nat} (ho : OwnT u' lo (.slice (some ⟨G', 0, none⟩) (ts.length + 1) cap') (cs ++ [⟨t.kd, t.k, sx, sy⟩])) (hg : (Value.slice q ts.length cap).ownBlock = some G' ∨ u.heap.size ≤ G') (gr : u.grownBy u' (Value.slice q ts.length cap).ownBlock) :
    OTab u' lo (some ⟨G', 0, none⟩) cap' (cs ++ [⟨t.kd, t.k, sx, sy⟩]) (fun i => if i < ts.length then l i else lx) (fun i => if i < ts.length then m i else mx) (fun i => if i < ts.length then h i else hx) (ts ++ [t]) := by
  have kp : ∃ T, Turn T u u' ∧ ∀ a b, (∀ G, q = some ⟨G, 0, none⟩ → G < a ∨ b ≤ G) → b ≤ u.heap.size → T < a ∨ b ≤ T := by
    rcases H.q_form with ⟨rfl, rfl, rfl⟩ | ⟨G, rfl⟩
    · refine ⟨u.heap.size, ⟨gr.os, gr.tape, gr.output, gr.size, fun k hk _ => gr.block k hk (by simp [Value.ownBlock])⟩, fun a b _ hb => Or.inr hb⟩
    · exact ⟨G, Turn.of_grown gr, fun a b hb _ => hb G rfl⟩
  obtain ⟨T, ht, hT⟩ := kp
  have gG (G : Nat) (e : q = some ⟨G, 0, none⟩) : (Value.slice q ts.length cap).ownBlock = some G := by subst e; rfl
  have gq : q = some ⟨G', 0, none⟩ ∨ u.heap.size ≤ G' := by
    rcases hg with hg | hg
    · rcases H.q_form with ⟨rfl, _, _⟩ | ⟨G, rfl⟩
      · simp [Value.ownBlock] at hg
      · simp [Value.ownBlock] at hg
        subst hg
        exact Or.inl rfl
    · exact Or.inr hg
  refine ⟨by rw [List.length_append]; exact ho, by simp [H.len], fun i z hz => ?_, fun i j hij hj => ?_⟩
  · by_cases e : i < ts.length
    · rw [List.getElem?_append_left e] at hz
      simp only [if_pos e]
      obtain ⟨px, py, k1, k2, k3, k4, k5, k6, k7, k8⟩ := H.rows i z hz
      have tt := hT (l i) (h i) k8 k7
      refine ⟨px, py, by rw [List.getElem?_append_left (by rw [H.len]; exact e)]; exact k1, k2.keep (Keep.of_turn ht) (fun b b1 b2 (b3 : b = _) => by omega), k3.keep (Keep.of_turn ht) (fun b b1 b2 (b3 : b = _) => by omega), k4, k5, k6, Nat.le_trans k7 ht.size, fun G eG => ?_⟩
      obtain rfl : G' = G := by injection eG with e1; injection e1
      rcases gq with gq | gq
      · exact k8 _ gq
      · exact Or.inr (by omega)
    · have ei : i = ts.length := by
        have := (List.getElem?_eq_some_iff.1 hz).1
        simp at this
        omega
      subst ei
      rw [List.getElem?_append_right (Nat.le_refl _), Nat.sub_self] at hz
      obtain rfl := Option.some.inj (show some t = some z from hz)
      simp only [if_neg e]
      have tt := hT lx hx (fun G eG => Or.inl (hq G eG)) h4
      refine ⟨sx, sy, by rw [List.getElem?_append_right (by rw [H.len]; omega), H.len, Nat.sub_self]; rfl, wx.keep (Keep.of_turn ht) (fun b b1 b2 (b3 : b = _) => by omega), wy.keep (Keep.of_turn ht) (fun b b1 b2 (b3 : b = _) => by omega), h1, h2, h3, Nat.le_trans h4 ht.size, fun G eG => ?_⟩
      obtain rfl : G' = G := by injection eG with e1; injection e1
      rcases gq with gq | gq
      · exact Or.inl (hq _ gq)
      · exact Or.inr (by omega)
  · simp only [List.length_append, List.length_singleton] at hj
    have hi : i < ts.length := by omega
    simp only [if_pos hi]
    by_cases e : j < ts.length
    · simp only [if_pos e]
      exact H.inc i j hij e
    · simp only [if_neg e]
      exact hl i hi
theorem OTab.whole {u : World} {lo cap : Nat} {q : Option Addr} {cs : List C4} {l m h : Nat → Nat} {ts : List At} (H : OTab u lo q cap cs l m h ts) : WTab u lo u.heap.size (.slice q ts.length cap) ts := by
  rcases H.q_form with ⟨rfl, rfl, rfl⟩ | ⟨G, rfl⟩
  · exact ⟨none, 0, 0, fun _ => 0, fun _ => 0, fun _ => 0, fun _ => .slice none 0 0, fun _ => .slice none 0 0, rfl, Nat.le_refl _, by unfold maxLen; omega, fun _ => rfl, Or.inl rfl, fun i t hi => by simp at hi, fun i j _ hj => by simp at hj⟩
  · obtain ⟨b1, b2, b3, b4⟩ := owns_lt H.own
    obtain ⟨_, hc, hs⟩ := H.own.cells
    refine ⟨some ⟨G, 0, none⟩, G, cap, l, m, h, fun i => (cs.getD i ⟨0, 0, .slice none 0 0, .slice none 0 0⟩).x, fun i => (cs.getD i ⟨0, 0, .slice none 0 0, .slice none 0 0⟩).y, rfl, b3, b4, (fun e => by cases e), Or.inr ⟨rfl, b1, b2, b2⟩, fun i t hi => ?_, H.inc⟩
    obtain ⟨sx, sy, k1, k2, k3, k4, k5, k6, k7, k8⟩ := H.rows i t hi
    obtain ⟨c1, c2, c3, c4⟩ := hc i _ k1
    simp only [List.getD_eq_getElem?_getD, k1, Option.getD_some]
    exact ⟨⟨c1, hs _, c2, hs _, c3, c4⟩, k2, k3, k4, k5, k6, k7, k8 G rfl⟩
theorem OTab.read {u : World} {lo cap : Nat} {q : Option Addr} {cs : List C4} {l m h : Nat → Nat} {ts : List At} (H : OTab u lo q cap cs l m h ts) : ∃ B, TRow u B (.slice q ts.length cap) ts := H.whole.read
/-- What is known of the sums of an atom that is ok. -/
structure FineA (t : At) : Prop where
  x : t.x.length ≤ 1000
  y : t.y.length ≤ 1000
  ax : ∀ m ∈ t.x, m.2.length ≤ 1000
  ay : ∀ m ∈ t.y, m.2.length ≤ 1000
theorem run_pushT {w : World} {ty : TypeId} {lo cap : Nat} {q : Option Addr} {n : Nat} {cs : List C4} (hown : OwnT w lo (.slice q n cap) cs) (hn : cs.length = n) (hl : n ≤ 1000000) (hlo : lo ≤ w.heap.size) (ad : Addr) (kd k : Int) (qx : Option Addr) (nx cx : Nat) (qy : Option Addr) (ny cy : Nat)
    (c0 : w.cell? (ad.add 0) = some (.int .i64 kd)) (c1 : w.cell? (ad.add 1) = some (.int .i64 k)) (c2 : w.cell? (ad.add 2) = some (.slice qx nx cx)) (c3 : w.cell? (ad.add 3) = some (.slice qy ny cy)) :
    ∃ g' cap' w', (Builtin.append_ #[22, 22] ty #[.slice q n cap, .slice (some ad) 1 1]).run Try.prog w = .ok (.slice (some ⟨g', 0, none⟩) (n + 1) cap') w' ∧ OwnT w' lo (.slice (some ⟨g', 0, none⟩) (n + 1) cap') (cs ++ [⟨kd, k, .slice qx nx cx, .slice qy ny cy⟩]) ∧ ((Value.slice q n cap).ownBlock = some g' ∨ w.heap.size ≤ g') ∧ g' < w'.heap.size ∧ w.grownBy w' (Value.slice q n cap).ownBlock := by
  subst hn
  obtain ⟨i, hi, hz, hsz, hby⟩ := infoAtom
  obtain ⟨g', cap', w', h1, h2, h3, h4, h5⟩ := run_push (P := Try.prog) (w := w) lo 22 ty 37 i _ 4 64 Try.underlying22 hi hz hsz hby rfl (by decide) _ cs.length (flat4 cs) hown ad [.int .i64 kd, .int .i64 k, .slice qx nx cx, .slice qy ny cy] rfl (fun j u hu => by
    match j, hu with
    | 0, hu => cases hu; exact c0
    | 1, hu => cases hu; exact c1
    | 2, hu => cases hu; exact c2
    | 3, hu => cases hu; exact c3
    | j + 4, hu => simp at hu) (fun u hu => by simp at hu; rcases hu with rfl | rfl | rfl | rfl <;> rfl) (by unfold maxLen; omega) (by omega) hlo
  refine ⟨g', cap', w', h1, ?_, h3, h4, h5⟩
  unfold OwnT
  rw [flat4_app, List.length_append]
  exact h2
end Go.Proofs.Ytnlfcocejkaieaa.Tab
