/-
  The laws' own toTabTab and eqTabTab; atoms that came in as plain data can be read.
-/
import Derived.Test.YtagfgbkclopoeaaTabQ
namespace Go.Proofs.Ytagfgbkclopoeaa.Tab
set_option linter.unusedVariables false
open Go.ChangeShapes Go.WideShapes Go.ChangeAt Go.RowKit IntS Pol
theorem WT.keep {S : Nat → Prop} {w w' : World} {lo hi : Nat} {a : Option Addr} {G cap : Nat} {l m h : Nat → Nat} {sx sy : Nat → Value} {ts : List At} (q : WT w lo hi a G cap l m h sx sy ts) (hk : Keep S w w') (hS : ∀ b, lo ≤ b → b < hi → ¬ S b) : WT w' lo hi a G cap l m h sx sy ts := by
  refine ⟨q.le, q.mx, q.nl, q.at_.imp id (fun q => ⟨q.1, q.2.1, q.2.2.1, Nat.lt_of_lt_of_le q.2.2.2 hk.size⟩), fun i x hx => ?_, q.apart⟩
  obtain ⟨⟨k1, k2, k3, k4, k5, k6⟩, k7, k8, k9, k10, k11, k12, k13⟩ := q.cells i x hx
  have hG := q.at_.resolve_left (fun e => by rw [e] at hx; simp at hx)
  have e := hk.block G hG.2.2.2 (hS G hG.2.1 hG.2.2.1)
  exact ⟨⟨(World.cell?_of_block (w := w) (a := ⟨G, i * 4, none⟩) e).trans k1, (World.frozen?_of_block (w := w) (a := ⟨G, i * 4, none⟩) e).trans k2, (World.cell?_of_block (w := w) (a := ⟨G, i * 4 + 1, none⟩) e).trans k3, (World.frozen?_of_block (w := w) (a := ⟨G, i * 4 + 1, none⟩) e).trans k4, (World.cell?_of_block (w := w) (a := ⟨G, i * 4 + 2, none⟩) e).trans k5, (World.cell?_of_block (w := w) (a := ⟨G, i * 4 + 3, none⟩) e).trans k6⟩, k7.keep hk (fun b h1 h2 => hS b (by omega) (by omega)), k8.keep hk (fun b h1 h2 => hS b (by omega) (by omega)), k9, k10, k11, k12, k13⟩
theorem WTab.keep {S : Nat → Prop} {w w' : World} {lo hi : Nat} {v : Value} {ts : List At} (q : WTab w lo hi v ts) (hk : Keep S w w') (hS : ∀ b, lo ≤ b → b < hi → ¬ S b) : WTab w' lo hi v ts := by
  obtain ⟨a, G, cap, l, m, h, sx, sy, h1, h2⟩ := q
  exact ⟨a, G, cap, l, m, h, sx, sy, h1, h2.keep hk hS⟩
theorem WTab.below {w w' : World} {lo hi : Nat} {v : Value} {ts : List At} (h : WTab w lo hi v ts) (hb : Below w.heap.size w w') : WTab w' lo hi v ts := h.keep (Keep.of_below (S := fun _ => False) hb) (fun _ _ _ h => h)
theorem WTab.wide {w : World} {lo hi lo' hi' : Nat} {v : Value} {ts : List At} (q : WTab w lo hi v ts) (hl : lo' ≤ lo) (hh : hi ≤ hi') : WTab w lo' hi' v ts := by
  obtain ⟨a, G, cap, l, m, h, sx, sy, h1, q⟩ := q
  refine ⟨a, G, cap, l, m, h, sx, sy, h1, q.le, q.mx, q.nl, q.at_.imp id (fun q => ⟨q.1, by omega, by omega, q.2.2.2⟩), fun i x hx => ?_, q.apart⟩
  obtain ⟨k1, k7, k8, k9, k10, k11, k12, k13⟩ := q.cells i x hx
  exact ⟨k1, k7, k8, by omega, k10, k11, by omega, k13⟩
set_option maxRecDepth 8000 in
set_option maxHeartbeats 4000000 in
theorem toTabTab (ts : List At) (B : Nat) (v : Value) (w : World) (h : TRow w B v ts) (hs : SmallT ts) :
    Calls Try.prog 8 #[.agg #[v]] w fun e w' => ∃ G, e = .returned (.agg #[.slice (some ⟨G, 0, none⟩) ts.length ts.length]) ∧ WTab w' w.heap.size w'.heap.size (.slice (some ⟨G, 0, none⟩) ts.length ts.length) ts ∧ Below w.heap.size w w' := by
  have T := hide (Three.new w [v] [.slice none 0 0] [.slice none 0 0] 24 34 34)
  have H := hide h
  have HS := hide hs
  obtain ⟨a, cap, off, rfl, _⟩ := h
  clear hs
  go_enter Try.func8, Try.ntmps8
  go_wp2_with fail
  refine (toTabAtomS ts B _ _ (H.out.below T.out.bw) HS.out).mono ?_
  rintro e u ⟨G, rfl, W, hb⟩
  have T0 := T.out.o.lt
  have T1 := T.out.below hb
  have gl := hb.size
  clear T hb
  have o0 := T1.o.cell 0 _ rfl
  have f0 := T1.o.soft 0
  have y0 := T1.z.cell 0 _ rfl
  have x0 := T1.z.soft 0
  have K1 : Keep (fun k => k = w.heap.size + 1 + 1) u (u.setCell ⟨w.heap.size + 1 + 1, 0, none⟩ (.slice (some ⟨G, 0, none⟩) ts.length ts.length)) := Keep.of_turn ((Turn.refl (w.heap.size + 1 + 1) u).setCell (p := ⟨w.heap.size + 1 + 1, 0, none⟩) rfl _)
  have K2 : Keep (fun k => k = w.heap.size + 1) (u.setCell ⟨w.heap.size + 1 + 1, 0, none⟩ (.slice (some ⟨G, 0, none⟩) ts.length ts.length)) ((u.setCell ⟨w.heap.size + 1 + 1, 0, none⟩ (.slice (some ⟨G, 0, none⟩) ts.length ts.length)).setCell ⟨w.heap.size + 1, 0, none⟩ (.slice (some ⟨G, 0, none⟩) ts.length ts.length)) := Keep.of_turn ((Turn.refl (w.heap.size + 1) _).setCell (p := ⟨w.heap.size + 1, 0, none⟩) rfl _)
  have W2 := ((W.keep K1 (fun b h1 h2 (h3 : b = _) => by omega)).keep K2 (fun b h1 h2 (h3 : b = _) => by omega))
  have sz : ((u.setCell ⟨w.heap.size + 1 + 1, 0, none⟩ (.slice (some ⟨G, 0, none⟩) ts.length ts.length)).setCell ⟨w.heap.size + 1, 0, none⟩ (.slice (some ⟨G, 0, none⟩) ts.length ts.length)).heap.size = u.heap.size := by simp [World.setCell]
  have W3 := hide (W2.wide (lo' := w.heap.size) (hi' := ((u.setCell ⟨w.heap.size + 1 + 1, 0, none⟩ (.slice (some ⟨G, 0, none⟩) ts.length ts.length)).setCell ⟨w.heap.size + 1, 0, none⟩ (.slice (some ⟨G, 0, none⟩) ts.length ts.length)).heap.size) (by omega) (by omega))
  have BB := hide ((T1.bw.setCell (p := ⟨w.heap.size + 1 + 1, 0, none⟩) (by show w.heap.size ≤ w.heap.size + 1 + 1; omega) (.slice (some ⟨G, 0, none⟩) ts.length ts.length)).setCell (p := ⟨w.heap.size + 1, 0, none⟩) (by show w.heap.size ≤ w.heap.size + 1; omega) (.slice (some ⟨G, 0, none⟩) ts.length ts.length))
  have ZZ := hide ((T1.z.other ⟨w.heap.size + 1 + 1, 0, none⟩ (.slice (some ⟨G, 0, none⟩) ts.length ts.length) (by show w.heap.size + 1 + 1 ≠ w.heap.size + 1; omega)).set 0 (.slice (some ⟨G, 0, none⟩) ts.length ts.length) (by simp) (show _ = [.slice (some ⟨G, 0, none⟩) ts.length ts.length] from rfl))
  clear T1 W W2 K1 K2 H HS sz T0 gl
  go_wp2
  generalize ((u.setCell ⟨w.heap.size + 1 + 1, 0, none⟩ (.slice (some ⟨G, 0, none⟩) ts.length ts.length)).setCell ⟨w.heap.size + 1, 0, none⟩ (.slice (some ⟨G, 0, none⟩) ts.length ts.length)) = V at W3 BB ZZ ⊢
  have z0 := ZZ.out.cell 0 _ rfl
  exact bodyPost_ret (v := .agg #[.slice (some ⟨G, 0, none⟩) ts.length ts.length]) (by simp [results, Try.results8, go_sem, z0]) rfl ⟨G, rfl, W3.out, BB.out⟩
set_option maxRecDepth 8000 in
set_option maxHeartbeats 4000000 in
theorem eqTabAtomS (ts : List At) (B B' : Nat) (v v' : Value) (w : World) (h : TRow w B v ts) (h' : TRow w B' v' ts) :
    Calls Try.prog 34 #[v, v'] w fun e w' => e = .returned (.bool true) ∧ Below w.heap.size w w' := by
  obtain ⟨a, cap, off, rfl, h2, h3, hz, h4⟩ := h
  obtain ⟨a', cap', off', rfl, h2', h3', hz', h4'⟩ := h'
  unfold maxLen at h3 h3'
  clear hz hz'
  obtain ⟨n, en⟩ : ∃ n, ts.length = n := ⟨_, rfl⟩
  have EN := hide en
  rw [en] at h2 h2' ⊢
  have H4 := hide h4
  have H4' := hide h4'
  have nn : ((n : Int) != (n : Int)) = false := by simp
  clear en h4 h4'
  go_enter Try.func34, Try.ntmps34
  by_cases n0 : n = 0
  · subst n0
    go_wp2
    refine wp_loop_rounds 1 ?_
    rw [rounds_succ]
    go_wp2
    go_ret
    exact ⟨rfl, Below.refl _ _⟩
  · obtain ⟨rfl, hc⟩ := H4.out.resolve_left (fun e => n0 (by rw [← EN.out, e]; rfl))
    obtain ⟨rfl, hc'⟩ := H4'.out.resolve_left (fun e => n0 (by rw [← EN.out, e]; rfl))
    have HC := hide hc
    have HC' := hide hc'
    clear hc hc' H4 H4'
    go_wp2
    go_loopw [5] (fun i wr => ∃ k : Nat, k ≤ n ∧ i = .int .i64 k ∧ Hid (Below w.heap.size w wr)) (fun i _ => n - (intOf i).toNat)
    case atStart => exact ⟨0, by omega, rfl, Below.refl _ _⟩
    case round =>
      obtain ⟨k, hk, rfl, HB⟩ := hrel
      by_cases hlt : k < n
      · obtain ⟨t, et⟩ : ∃ t, ts[k]? = some t := ⟨_, List.getElem?_eq_getElem (by rw [EN.out]; exact hlt)⟩
        obtain ⟨c0, c1, qx, cx, bx, qy, cy, b, c2, px, c3, py⟩ := (HC.out k t et).below HB.out
        obtain ⟨c0', c1', qx', cx', bx', qy', cy', b', c2', px', c3', py'⟩ := (HC'.out k t et).below HB.out
        have HB2 : Hid (Below w.heap.size w wr.drew) := HB.out.drew
        have PX := hide (px.below (Below.refl _ _).drew)
        have PY := hide (py.below (Below.refl _ _).drew)
        have PX' := hide (px'.below (Below.refl _ _).drew)
        have PY' := hide (py'.below (Below.refl _ _).drew)
        have lk : ((k : Nat) : Int) < (n : Nat) := by omega
        clear et px py px' py'
        go_wp2_with fail
        refine region_tail 8 (by kernel_rfl) (by kernel_rfl) ?_
        simp only [List.take_succ_cons, List.take_zero, List.drop_succ_cons, List.drop_zero]
        repeat still_step
        refine wpStill_nil ?_
        go_wp2_with fail
        refine (eqTabAtom t qx qx' cx cx' qy qy' cy cy' bx bx' b b' _ PX.out PY.out PX'.out PY'.out).mono ?_
        rintro e u ⟨rfl, hb⟩
        have HB3 := hide (HB2.out.trans (hb.mono HB2.out.size))
        clear hb
        go_wp2
        exact ⟨⟨k + 1, by omega, by go_num, HB3⟩, by simp [intOf]; omega⟩
      · go_wp2
        go_ret
        exact ⟨rfl, HB.out⟩
theorem eqTabTab (ts : List At) (B B' : Nat) (v v' : Value) (w : World) (h : TRow w B v ts) (h' : TRow w B' v' ts) :
    Calls Try.prog 11 #[.agg #[v], .agg #[v']] w fun e w' => e = .returned (.bool true) ∧ Below w.heap.size w w' := by
  have bV : Below w.heap.size w ((w.alloc (.cells #[v] 34)).alloc (.cells #[v'] 34)) := ((Below.refl _ _).alloc (Nat.le_refl _) _).alloc (by simp) _
  have H := hide (h.below bV)
  have H' := hide (h'.below bV)
  have BW := hide bV
  obtain ⟨a, cap, off, rfl, _⟩ := h
  obtain ⟨a', cap', off', rfl, _⟩ := h'
  clear bV
  go_enter Try.func11, Try.ntmps11
  go_wp2_with fail
  refine (eqTabAtomS ts B B' _ _ _ H.out H'.out).mono ?_
  rintro e u ⟨rfl, hb⟩
  replace BW := hide (BW.out.trans (hb.mono BW.out.size))
  clear hb
  go_wp2
  go_ret
  exact ⟨rfl, BW.out⟩
theorem four {l : List Value} (h : l.length = 4) : ∃ a b c d, l = [a, b, c, d] := by
  match l, h with
  | [a, b, c, d], _ => exact ⟨a, b, c, d, rfl⟩
set_option maxRecDepth 8000 in
theorem poly_hold {w : World} {n : Nat} {cs : List Value} (h : Shape.Holds Try.prog w (n + 5) 27 cs) : ∃ v ps B, cs = [v] ∧ PRow w B v ps := by
  obtain ⟨hl, hf⟩ := Shape.holds_struct (n := n + 4) Try.underlying27 h
  have e1 : Try.prog.cellsOf 27 = 1 := by kernel_rfl
  have es : Try.prog.cellsOf 25 = 1 := by kernel_rfl
  rw [e1] at hl
  obtain ⟨v, ps, B, q, r⟩ := monos_hold (n := n) (hf _ (List.mem_of_getElem? (i := 0) rfl))
  match cs, hl with
  | [a], _ =>
    simp [es] at q
    subst q
    exact ⟨_, ps, B, rfl, r⟩
set_option maxRecDepth 8000 in
theorem atoms_hold {w : World} {n : Nat} {cs : List Value} (h : Shape.Holds Try.prog w (n + 7) 22 cs) : ∃ v ts B, cs = [v] ∧ TRow w B v ts := by
  rcases Shape.holds_slice (n := n + 6) Try.underlying22 h with h | ⟨x, l, c, h, hl, hm, hx⟩
  · exact ⟨_, [], 0, h, ⟨none, 0, 0, rfl, Nat.le_refl _, by unfold maxLen; omega, fun _ => rfl, Or.inl rfl⟩⟩
  · have e4 : Try.prog.cellsOf 29 = 4 := by kernel_rfl
    have e1 : Try.prog.cellsOf 3 = 1 := by kernel_rfl
    have es : Try.prog.cellsOf 27 = 1 := by kernel_rfl
    have hc (i : Nat) (hi : i < l) : ∃ t : At, w.cell? (x.add (i * 4)) = some (.int .i64 t.kd) ∧ w.cell? (x.add (i * 4 + 1)) = some (.int .i64 t.k) ∧ ∃ vx bx vy b, w.cell? (x.add (i * 4 + 2)) = some vx ∧ PRow w bx vx t.x ∧ w.cell? (x.add (i * 4 + 3)) = some vy ∧ PRow w b vy t.y := by
      obtain ⟨xs, h1, h2, h3⟩ := hx i (by omega)
      rw [e4] at h1 h2
      obtain ⟨a, b, c, d, rfl⟩ := four h1
      obtain ⟨_, hf⟩ := Shape.holds_struct (n := n + 5) Try.underlying29 h3
      obtain ⟨v0, q0, _⟩ := Shape.holds_int (n := n + 4) Try.underlying3 (hf _ (List.mem_of_getElem? (i := 0) rfl))
      obtain ⟨v1, q1, _⟩ := Shape.holds_int (n := n + 4) Try.underlying3 (hf _ (List.mem_of_getElem? (i := 1) rfl))
      obtain ⟨v2, p2, b2, q2, r2⟩ := poly_hold (n := n) (hf _ (List.mem_of_getElem? (i := 2) rfl))
      obtain ⟨v3, p3, b3, q3, r3⟩ := poly_hold (n := n) (hf _ (List.mem_of_getElem? (i := 3) rfl))
      simp [e1, es] at q0 q1 q2 q3
      subst q0 q1 q2 q3
      exact ⟨⟨v0, v1, p2, p3⟩, h2 0 (by omega), h2 1 (by omega), _, b2, _, b3, h2 2 (by omega), r2, h2 3 (by omega), r3⟩
    obtain ⟨ts, e, hts⟩ := list_of l hc
    by_cases h0 : l = 0
    · subst h0
      refine ⟨_, [], 0, h, ⟨some x, c, 0, rfl, Nat.zero_le _, hm, (fun h => by cases h), Or.inl rfl⟩⟩
    · obtain ⟨b, o, spot⟩ := x
      obtain ⟨m0, hv0, _⟩ := hc 0 (by omega)
      have hspot : spot = none := by simpa [Addr.add] using World.cell?_spot hv0
      subst hspot
      refine ⟨_, ts, b, h, ⟨some ⟨b, o, none⟩, c, o, by rw [e], by omega, hm, (fun h => by cases h), Or.inr ⟨rfl, fun i m hi => ?_⟩⟩⟩
      obtain ⟨k1, k2, vx, bx, vy, b', k3, k4, k5, k6⟩ := hts i m hi
      rw [Go.WideShapes.add_plain] at k1 k2 k3 k5
      obtain ⟨qx, cx, _, rfl, w1⟩ := k4
      obtain ⟨qy, cy, _, rfl, w2⟩ := k6
      exact ⟨k1, by rw [Nat.add_assoc]; exact k2, qx, cx, bx, qy, cy, b', by rw [Nat.add_assoc]; exact k3, ⟨qx, cx, _, rfl, w1⟩, by rw [Nat.add_assoc]; exact k5, ⟨qy, cy, _, rfl, w2⟩⟩
set_option maxRecDepth 8000 in
theorem of_holds {w : World} {c : Array Value} (h : Shape.Holds Try.prog w 9 24 c.toList) : ∃ (v : Value) (ts : List At) (B : Nat), c = #[v] ∧ TRow w B v ts := by
  obtain ⟨hl, hf⟩ := Shape.holds_struct (n := 8) Try.underlying24 h
  have e1 : Try.prog.cellsOf 24 = 1 := by kernel_rfl
  have es : Try.prog.cellsOf 22 = 1 := by kernel_rfl
  rw [e1] at hl
  obtain ⟨v, ts, B, q, r⟩ := atoms_hold (n := 1) (hf _ (List.mem_of_getElem? (i := 0) rfl))
  obtain ⟨l⟩ := c
  match l, hl with
  | [a], _ =>
    simp [es] at q
    subst q
    exact ⟨_, ts, B, rfl, r⟩
end Go.Proofs.Ytagfgbkclopoeaa.Tab
