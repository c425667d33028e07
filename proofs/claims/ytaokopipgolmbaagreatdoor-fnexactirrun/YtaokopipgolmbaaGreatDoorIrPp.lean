/-
  How the program runs a piece of code: a machine on its way through it, and the small functions beside.
  How the program runs a piece of code: where it goes on, addresses, and which operation it is.
-/
import Derived.Test.YtaokopipgolmbaaGreatDoorIrRr
import Derived.Test.YtaokopipgolmbaaGreatDoorMchL
namespace Go.Proofs.YtaokopipgolmbaaGreatDoor.Ir
set_option linter.unusedVariables false
set_option linter.unusedSimpArgs false
open Go.ChangeShapes Go.WideShapes Go.ChangeAt Go.RowKit IntS Mch
theorem own_keep {w w' : World} {base : Nat} {v : Value} {xs : List Int} (h : Own w base v xs) (hk : ∀ g n k, v = .slice (some ⟨g, 0, none⟩) n k → w'.heap[g]? = w.heap[g]?) : Own w' base v xs := by
  obtain ⟨hl, h0 | ⟨g', cap', cur, hv, hb, hh, rest⟩⟩ := h
  · exact ⟨hl, Or.inl h0⟩
  · exact ⟨hl, Or.inr ⟨g', cap', cur, hv, hb, (hk g' _ _ hv).trans hh, rest⟩⟩
theorem own_isT {w : World} {base : Nat} {v : Value} {xs : List Int} (h : Own w base v xs) {g n k : Nat} (hv : v = .slice (some ⟨g, 0, none⟩) n k) : IsT w g 3 := by
  subst hv
  exact h.isT
theorem pass_int : 58 ≠ 3 := by decide
theorem pass_mach : 58 ≠ 30 := by decide
/-- A machine on its way through a piece of code: the passage behind its pointer, the machine behind its own, the words made so far. -/
structure Psg (u : World) (lo P Z : Nat) (b : Bk) (q : Option Addr) (cap : Nat) (wv : Value) (c : List Value) (m : M) (vs : List Int) : Prop where
  p : Rec P [.int .i64 b.pc, .int .i64 b.ln, .slice q b.ops.length cap, .int .i64 b.en, .int .i64 b.x, .int .i64 b.y, .int .i64 b.k, .pointer (some ⟨Z, 0, none⟩), wv] u
  pt : IsT u P 58
  z : Rec Z c u
  zt : IsT u Z 30
  mach : CMach u lo c m
  words : Own u lo wv vs
  gn : ∀ g n k, wv = .slice (some ⟨g, 0, none⟩) n k → g ∉ mb c
  pl : lo ≤ P
  zl : lo ≤ Z
  lu : lo ≤ u.heap.size
section
variable {u u' u1 : World} {lo P Z cap : Nat} {b : Bk} {q : Option Addr} {wv : Value} {c c' : List Value} {m m' : M} {vs : List Int}
theorem Psg.below (h : Psg u lo P Z b q cap wv c m vs) (hb : Below u.heap.size u u') : Psg u' lo P Z b q cap wv c m vs :=
  ⟨h.p.below hb, h.pt.below hb, h.z.below hb, h.zt.below hb, h.mach.below hb, own_keep h.words (fun g n k e => hb.block g (own_isT h.words e).lt), h.gn, h.pl, h.zl, Nat.le_trans h.lu hb.size⟩
theorem Psg.turn (h : Psg u lo P Z b q cap wv c m vs) {f : Nat} (ht : Turn f u u') (hf : f ∈ mb c) (hc : CMach u' lo c m') : Psg u' lo P Z b q cap wv c m' vs := by
  have fi := h.mach.mb_int f hf
  have h1 : P ≠ f := h.pt.ne fi pass_int
  have h2 : Z ≠ f := h.zt.ne fi mach_int
  exact ⟨h.p.turn ht h1, h.pt.turn ht h1, h.z.turn ht h2, h.zt.turn ht h2, hc, own_keep h.words (fun g n k e => ht.block g (own_isT h.words e).lt (fun e2 => h.gn g n k e (by rw [e2]; exact hf))), h.gn, h.pl, h.zl, Nat.le_trans h.lu ht.size⟩
theorem Psg.turn_below (h : Psg u lo P Z b q cap wv c m vs) {f : Nat} (ht : Turn f u u') (hf : f ∈ mb c) : Below lo u u' := by
  obtain ⟨b1, b2, b3, b4, o1, o2, o3, k1, k2, k3, k4, hc, h1, h2, h3, h4, ⟨e1, e2, e3, e4⟩, hd, t1, t2, t3, t4⟩ := h.mach
  subst hc
  have h5 : f ∈ [b1, b2, b3, b4] := hf
  simp only [List.mem_cons, List.not_mem_nil, or_false] at h5
  exact ht.below (by omega) h.lu
/-- What the machine's lists come to, and then its own cells. -/
theorem Psg.far (h : Psg u lo P Z b q cap wv c m vs) (hi : Ints lo u u1) (ho : Onl (mb c) u u1) (hc : CMach u1 lo c' m') (hg : ∀ j, j ∈ mb c' → j ∈ mb c ∨ u.heap.size ≤ j) (ht : Turn Z u1 u') (hz : Box Z 30 c' u') : Psg u' lo P Z b q cap wv c' m' vs ∧ Below lo u u' := by
  have zt1 := h.zt.ints mach_int hi
  have pt1 := h.pt.ints pass_int hi
  have PZ : P ≠ Z := h.pt.ne h.zt pass_mach
  have zn : Z ∉ mb c' := fun e => (zt1.ne (hc.mb_int Z e) mach_int) rfl
  refine ⟨⟨(Rec.ints h.p h.pt pass_int hi).turn ht PZ, pt1.turn ht PZ, hz.r, hz.t, hc.turnI ht zn, ?_, ?_, h.pl, h.zl, Nat.le_trans h.lu (Nat.le_trans hi.size ht.size)⟩, (hi.below h.lu).trans (ht.below h.zl (Nat.le_trans h.lu hi.size))⟩
  · refine own_keep h.words (fun g n k e => ?_)
    have gl := (own_isT h.words e).lt
    have gz : g ≠ Z := fun e2 => (h.zt.ne (own_isT h.words e) mach_int) e2.symm
    exact (ht.block g (Nat.lt_of_lt_of_le gl hi.size) gz).trans (ho.block g gl (h.gn g n k e))
  · intro g n k e e2
    have gl := (own_isT h.words e).lt
    rcases hg g e2 with e3 | e3
    · exact h.gn g n k e e3
    · omega
theorem Ints.self (lo : Nat) (w : World) : Ints lo w w := Ints.of_below (Below.refl _ _)
theorem Onl.self (bs : List Nat) (w : World) : Onl bs w w := Onl.of_below (Below.refl _ _)
/-- A word that was made. -/
theorem Psg.word (h : Psg u lo P Z b q cap wv c m vs) {i : Nat} {x : Int} (hx : vs[i]? = some x) : ∃ g cp, wv = .slice (some ⟨g, 0, none⟩) vs.length cp ∧ u.cell? ⟨g, i, none⟩ = some (.int .i64 x) := by
  have hn : ¬ wv = .slice none 0 0 := fun e => by
    have hl := h.words.1
    obtain ⟨_, h0 | ⟨g', cap', cur, hv, _⟩⟩ := h.words
    · have : vs.length = 0 := h0.2
      rw [List.length_eq_zero_iff.1 this] at hx
      cases hx
    · rw [e] at hv
      cases hv
  obtain ⟨g, cp, ev, _, _, VW⟩ := h.words.form hn
  obtain ⟨cz, _⟩ := row_at (ev ▸ VW) hx
  rw [Nat.zero_add] at cz
  exact ⟨g, cp, ev, cz⟩
/-- What an operation tells: the machine, the word, the error. -/
def DoR (lo P Z : Nat) (b : Bk) (q : Option Addr) (cap : Nat) (wv : Value) (vs : List Int) (m' : M) (n : Int) (er : Value) (u : World) (e : Ending) (w' : World) : Prop :=
  e = .returned (.tuple #[.int .i64 n, er]) ∧ (∃ c', Psg w' lo P Z b q cap wv c' m' vs) ∧ Below lo u w'
end
set_option maxRecDepth 8000 in
set_option maxHeartbeats 4000000 in
theorem stand (lo P Z cap : Nat) (b : Bk) (q : Option Addr) (wv : Value) (c : List Value) (m : M) (vs : List Int) (u : World) (place done : Int) (h : Psg u lo P Z b q cap wv c m vs) (c0 : 0 ≤ m.count) (c1 : m.count ≤ 1000000) (d0 : 0 ≤ done) (d1 : done ≤ 9) :
    Calls Tryz.prog 50 #[.pointer (some ⟨P, 0, none⟩), .int .i64 place, .int .i64 done] u fun e w' => e = .returned (.tuple #[]) ∧ (∃ c', Psg w' lo P Z b q cap wv c' { m with pc := place, count := m.count + done } vs) ∧ Below lo u w' := by
  have p7 := h.p.cell 7 _ rfl
  have H := hide h
  obtain ⟨b1, o1, k1, b2, o2, k2, b3, o3, k3, b4, k4, rfl⟩ := forms h.mach
  obtain ⟨regs, pc, mem, save, lets, waits, halt, ins, outs, count⟩ := m
  simp only [mv] at *
  have z1 := h.z.cell 1 _ rfl
  have z9 := h.z.cell 9 _ rfl
  have s1 := h.z.soft 1
  have s9 := h.z.soft 9
  clear h
  go_enter Tryz.func50, Tryz.ntmps50
  go_wp2
  go_end0
  have hB : Box Z 30 _ _ := ((Box.mk H.out.z H.out.zt).set 1 (.int .i64 place) (by simp) rfl).set 9 (.int .i64 (count + done)) (by simp) rfl
  have F := H.out.far (Ints.self _ _) (Onl.self _ _) (CMach.plain (pc' := place) (save' := save) (halt' := halt) (count' := count + done) (lets' := lets) (waits' := waits) H.out.mach) (fun j hj => Or.inl hj) (((Turn.refl Z u).setCell (p := ⟨Z, 1, none⟩) rfl (.int .i64 place)).setCell (p := ⟨Z, 9, none⟩) rfl (.int .i64 (count + done))) hB
  exact ⟨rfl, ⟨_, F.1⟩, F.2⟩
end Go.Proofs.YtaokopipgolmbaaGreatDoor.Ir
namespace Go.Proofs.YtaokopipgolmbaaGreatDoor.Ir
set_option linter.unusedVariables false
set_option linter.unusedSimpArgs false
open Go.ChangeShapes Go.WideShapes Go.ChangeAt Go.RowKit IntS Mch

set_option maxRecDepth 8000 in
set_option maxHeartbeats 4000000 in
theorem asked_same (lo P Z cap : Nat) (b : Bk) (q : Option Addr) (wv : Value) (c : List Value) (m : M) (vs : List Int) (u : World) (h : Psg u lo P Z b q cap wv c m vs) (i j : Nat) (x y : Int) (ei : b.x = (i : Int)) (ej : b.y = (j : Int)) (hx : vs[i]? = some x) (hy : vs[j]? = some y) (wx : isW x) (wy : isW y) (p0 : 0 ≤ b.pc) (p1 : b.pc ≤ 64) (l0 : 0 ≤ b.ln) (l1 : b.ln ≤ 8) :
    Calls Tryz.prog 61 #[.pointer (some ⟨P, 0, none⟩), .int .i64 1] u fun e w' => e = .returned (.int .i64 (if x = y then b.k else b.pc + b.ln)) ∧ Below u.heap.size u w' := by
  obtain ⟨g, cp, rfl, cx⟩ := h.word hx
  obtain ⟨g', cp', ev, cy⟩ := h.word hy
  cases ev
  have li : i < vs.length := (List.getElem?_eq_some_iff.1 hx).1
  have lj : j < vs.length := (List.getElem?_eq_some_iff.1 hy).1
  have li' : ((i : Nat) : Int) < (vs.length : Int) := by omega
  have lj' : ((j : Nat) : Int) < (vs.length : Int) := by omega
  obtain ⟨bp, ln, ops, en, bx, by_, bk⟩ := b
  simp only [] at ei ej p0 p1 l0 l1 ⊢
  subst ei
  subst ej
  have H := hide h.p
  have p0 := h.p.cell 0 _ rfl
  have p1 := h.p.cell 1 _ rfl
  have p4 := h.p.cell 4 _ rfl
  have p5 := h.p.cell 5 _ rfl
  have p6 := h.p.cell 6 _ rfl
  have p8 := h.p.cell 8 _ rfl
  obtain ⟨N, eN⟩ : ∃ N, vs.length = N := ⟨_, rfl⟩
  rw [eN] at *
  clear h eN hx hy
  obtain ⟨r, er⟩ : ∃ r, Wrd.wrel 1 x y = r := ⟨_, rfl⟩
  have ER := hide er
  have RR : Hid (r = decide (x = y)) := show _ = _ by
    rw [← er]
    unfold Wrd.wrel Wrd.wok
    have := wx.1; have := wx.2; have := wy.1; have := wy.2
    simp [*]
  clear er wx wy
  obtain ⟨V, eV⟩ : ∃ V, (if x = y then bk else bp + ln) = V := ⟨_, rfl⟩
  have EV := hide eV
  rw [eV]
  clear eV
  go_enter Tryz.func61, Tryz.ntmps61
  go_wp2_with fail
  refine region_tail 23 (by kernel_rfl) (by kernel_rfl) ?_
  simp only [List.take_succ_cons, List.take_zero, List.drop_succ_cons, List.drop_zero]
  repeat still_step
  refine wpStill_nil ?_
  go_wp2_with fail
  refine (Wrd.implRel 1 x y _).mono ?_
  rintro e u1 ⟨rfl, rfl⟩
  rw [ER.out]
  by_cases hq : x = y
  · have e1 : r = true := by rw [RR.out]; exact decide_eq_true hq
    have e2 : Hid (bk = V) := show _ = _ by rw [← EV.out, if_pos hq]
    rw [e1]
    clear hq
    have q6 := (H.out.drew).cell 6 _ rfl
    go_wp2
    go_ret
    exact ⟨ret_int e2.out, (Below.refl _ _).drew⟩
  · have e1 : r = false := by rw [RR.out]; exact decide_eq_false hq
    have e2 : Hid (bp + ln = V) := show _ = _ by rw [← EV.out, if_neg hq]
    rw [e1]
    clear hq
    have q0 := (H.out.drew).cell 0 _ rfl
    have q1 := (H.out.drew).cell 1 _ rfl
    clear cx cy
    have BD : Below u.heap.size u u.drew := (Below.refl _ _).drew
    go_wp2_with fail
    generalize u.drew = v at q0 q1 BD ⊢
    refine region_tail 10 (by kernel_rfl) (by kernel_rfl) ?_
    simp only [List.take_succ_cons, List.take_zero, List.drop_succ_cons, List.drop_zero]
    repeat still_step
    refine wpStill_nil ?_
    go_wp2
    go_ret
    exact ⟨ret_int e2.out, BD.drew⟩

set_option maxRecDepth 8000 in
set_option maxHeartbeats 4000000 in
theorem asked_less (lo P Z cap : Nat) (b : Bk) (q : Option Addr) (wv : Value) (c : List Value) (m : M) (vs : List Int) (u : World) (h : Psg u lo P Z b q cap wv c m vs) (i j : Nat) (x y : Int) (ei : b.x = (i : Int)) (ej : b.y = (j : Int)) (hx : vs[i]? = some x) (hy : vs[j]? = some y) (wx : isW x) (wy : isW y) (p0 : 0 ≤ b.pc) (p1 : b.pc ≤ 64) (l0 : 0 ≤ b.ln) (l1 : b.ln ≤ 8) :
    Calls Tryz.prog 61 #[.pointer (some ⟨P, 0, none⟩), .int .i64 2] u fun e w' => e = .returned (.int .i64 (if x < y then b.k else b.pc + b.ln)) ∧ Below u.heap.size u w' := by
  obtain ⟨g, cp, rfl, cx⟩ := h.word hx
  obtain ⟨g', cp', ev, cy⟩ := h.word hy
  cases ev
  have li : i < vs.length := (List.getElem?_eq_some_iff.1 hx).1
  have lj : j < vs.length := (List.getElem?_eq_some_iff.1 hy).1
  have li' : ((i : Nat) : Int) < (vs.length : Int) := by omega
  have lj' : ((j : Nat) : Int) < (vs.length : Int) := by omega
  obtain ⟨bp, ln, ops, en, bx, by_, bk⟩ := b
  simp only [] at ei ej p0 p1 l0 l1 ⊢
  subst ei
  subst ej
  have H := hide h.p
  have p0 := h.p.cell 0 _ rfl
  have p1 := h.p.cell 1 _ rfl
  have p4 := h.p.cell 4 _ rfl
  have p5 := h.p.cell 5 _ rfl
  have p6 := h.p.cell 6 _ rfl
  have p8 := h.p.cell 8 _ rfl
  obtain ⟨N, eN⟩ : ∃ N, vs.length = N := ⟨_, rfl⟩
  rw [eN] at *
  clear h eN hx hy
  obtain ⟨r, er⟩ : ∃ r, Wrd.wrel 2 x y = r := ⟨_, rfl⟩
  have ER := hide er
  have RR : Hid (r = decide (x < y)) := show _ = _ by
    rw [← er]
    unfold Wrd.wrel Wrd.wok
    have := wx.1; have := wx.2; have := wy.1; have := wy.2
    simp [*]
  clear er wx wy
  obtain ⟨V, eV⟩ : ∃ V, (if x < y then bk else bp + ln) = V := ⟨_, rfl⟩
  have EV := hide eV
  rw [eV]
  clear eV
  go_enter Tryz.func61, Tryz.ntmps61
  go_wp2_with fail
  refine region_tail 23 (by kernel_rfl) (by kernel_rfl) ?_
  simp only [List.take_succ_cons, List.take_zero, List.drop_succ_cons, List.drop_zero]
  repeat still_step
  refine wpStill_nil ?_
  go_wp2_with fail
  refine (Wrd.implRel 2 x y _).mono ?_
  rintro e u1 ⟨rfl, rfl⟩
  rw [ER.out]
  by_cases hq : x < y
  · have e1 : r = true := by rw [RR.out]; exact decide_eq_true hq
    have e2 : Hid (bk = V) := show _ = _ by rw [← EV.out, if_pos hq]
    rw [e1]
    clear hq
    have q6 := (H.out.drew).cell 6 _ rfl
    go_wp2
    go_ret
    exact ⟨ret_int e2.out, (Below.refl _ _).drew⟩
  · have e1 : r = false := by rw [RR.out]; exact decide_eq_false hq
    have e2 : Hid (bp + ln = V) := show _ = _ by rw [← EV.out, if_neg hq]
    rw [e1]
    clear hq
    have q0 := (H.out.drew).cell 0 _ rfl
    have q1 := (H.out.drew).cell 1 _ rfl
    clear cx cy
    have BD : Below u.heap.size u u.drew := (Below.refl _ _).drew
    go_wp2_with fail
    generalize u.drew = v at q0 q1 BD ⊢
    refine region_tail 10 (by kernel_rfl) (by kernel_rfl) ?_
    simp only [List.take_succ_cons, List.take_zero, List.drop_succ_cons, List.drop_zero]
    repeat still_step
    refine wpStill_nil ?_
    go_wp2
    go_ret
    exact ⟨ret_int e2.out, BD.drew⟩

set_option maxRecDepth 8000 in
set_option maxHeartbeats 4000000 in
theorem address_yes (lo P Z cap : Nat) (b : Bk) (q : Option Addr) (wv : Value) (c : List Value) (m : M) (vs : List Int) (u : World) (h : Psg u lo P Z b q cap wv c m vs) (i : Nat) (x t : Int) (hx : vs[i]? = some x) (hq : x < 64) :
    Calls Tryz.prog 103 #[.pointer (some ⟨P, 0, none⟩), .int .i64 (i : Int), .int .i64 t] u fun e w' => e = .returned (.tuple #[.int .i64 x, .nilIface]) ∧ w' = u := by
  obtain ⟨g, cp, rfl, cx⟩ := h.word hx
  have li : i < vs.length := (List.getElem?_eq_some_iff.1 hx).1
  have li' : ((i : Nat) : Int) < (vs.length : Int) := by omega
  have p8 := h.p.cell 8 _ rfl
  obtain ⟨N, eN⟩ : ∃ N, vs.length = N := ⟨_, rfl⟩
  rw [eN] at *
  clear h eN hx
  go_enter Tryz.func103, Tryz.ntmps103
  go_wp2
  exact bodyPost_ret (v := .tuple #[.int .i64 x, .nilIface]) (by simp [results, Tryz.results103, go_sem]) rfl ⟨rfl, rfl⟩

set_option maxRecDepth 8000 in
set_option maxHeartbeats 4000000 in
theorem address_no (lo P Z cap : Nat) (b : Bk) (q : Option Addr) (wv : Value) (c : List Value) (m : M) (vs : List Int) (u : World) (h : Psg u lo P Z b q cap wv c m vs) (i : Nat) (x t : Int) (hx : vs[i]? = some x) (hq : 64 ≤ x) :
    Calls Tryz.prog 103 #[.pointer (some ⟨P, 0, none⟩), .int .i64 (i : Int), .int .i64 t] u fun e w' => e = .returned (.tuple #[.int .i64 0, .iface 81 (.agg #[.int .i64 t])]) ∧ w' = u := by
  obtain ⟨g, cp, rfl, cx⟩ := h.word hx
  have li : i < vs.length := (List.getElem?_eq_some_iff.1 hx).1
  have li' : ((i : Nat) : Int) < (vs.length : Int) := by omega
  have p8 := h.p.cell 8 _ rfl
  obtain ⟨N, eN⟩ : ∃ N, vs.length = N := ⟨_, rfl⟩
  rw [eN] at *
  clear h eN hx
  go_enter Tryz.func103, Tryz.ntmps103
  go_wp2
  exact bodyPost_ret (v := .tuple #[.int .i64 0, .iface 81 (.agg #[.int .i64 t])]) (by simp [results, Tryz.results103, go_sem]) rfl ⟨rfl, rfl⟩

theorem const_m (x y k t : Int) (w : World) : (method 266 109 (.agg #[.int .i64 1, .int .i64 x, .int .i64 y, .int .i64 k, .int .i64 t]) "loop.example/latimer/impl.do").run Tryz.prog w = .ok (92, .agg #[.int .i64 1, .int .i64 x, .int .i64 y, .int .i64 k, .int .i64 t]) w := by kernel_rfl
theorem of_const (x y k t : Int) (w : World) : Calls Tryz.prog 52 #[.agg #[.int .i64 1, .int .i64 x, .int .i64 y, .int .i64 k, .int .i64 t]] w fun e w' => e = .returned (.iface 109 (.agg #[.int .i64 1, .int .i64 x, .int .i64 y, .int .i64 k, .int .i64 t])) ∧ Below w.heap.size w w' := by
  go_enter Tryz.func52, Tryz.ntmps52
  go_wp2
  go_ret
  exact ⟨rfl, (Below.refl _ _).alloc (Nat.le_refl _) _⟩

theorem get_m (x y k t : Int) (w : World) : (method 266 110 (.agg #[.int .i64 2, .int .i64 x, .int .i64 y, .int .i64 k, .int .i64 t]) "loop.example/latimer/impl.do").run Tryz.prog w = .ok (93, .agg #[.int .i64 2, .int .i64 x, .int .i64 y, .int .i64 k, .int .i64 t]) w := by kernel_rfl
theorem of_get (x y k t : Int) (w : World) : Calls Tryz.prog 52 #[.agg #[.int .i64 2, .int .i64 x, .int .i64 y, .int .i64 k, .int .i64 t]] w fun e w' => e = .returned (.iface 110 (.agg #[.int .i64 2, .int .i64 x, .int .i64 y, .int .i64 k, .int .i64 t])) ∧ Below w.heap.size w w' := by
  go_enter Tryz.func52, Tryz.ntmps52
  go_wp2
  go_ret
  exact ⟨rfl, (Below.refl _ _).alloc (Nat.le_refl _) _⟩

theorem do_m (x y k t : Int) (w : World) : (method 266 111 (.agg #[.int .i64 3, .int .i64 x, .int .i64 y, .int .i64 k, .int .i64 t]) "loop.example/latimer/impl.do").run Tryz.prog w = .ok (94, .agg #[.int .i64 3, .int .i64 x, .int .i64 y, .int .i64 k, .int .i64 t]) w := by kernel_rfl
theorem of_do (x y k t : Int) (w : World) : Calls Tryz.prog 52 #[.agg #[.int .i64 3, .int .i64 x, .int .i64 y, .int .i64 k, .int .i64 t]] w fun e w' => e = .returned (.iface 111 (.agg #[.int .i64 3, .int .i64 x, .int .i64 y, .int .i64 k, .int .i64 t])) ∧ Below w.heap.size w w' := by
  go_enter Tryz.func52, Tryz.ntmps52
  go_wp2
  go_ret
  exact ⟨rfl, (Below.refl _ _).alloc (Nat.le_refl _) _⟩

theorem load_m (x y k t : Int) (w : World) : (method 266 112 (.agg #[.int .i64 4, .int .i64 x, .int .i64 y, .int .i64 k, .int .i64 t]) "loop.example/latimer/impl.do").run Tryz.prog w = .ok (102, .agg #[.int .i64 4, .int .i64 x, .int .i64 y, .int .i64 k, .int .i64 t]) w := by kernel_rfl
theorem of_load (x y k t : Int) (w : World) : Calls Tryz.prog 52 #[.agg #[.int .i64 4, .int .i64 x, .int .i64 y, .int .i64 k, .int .i64 t]] w fun e w' => e = .returned (.iface 112 (.agg #[.int .i64 4, .int .i64 x, .int .i64 y, .int .i64 k, .int .i64 t])) ∧ Below w.heap.size w w' := by
  go_enter Tryz.func52, Tryz.ntmps52
  go_wp2
  go_ret
  exact ⟨rfl, (Below.refl _ _).alloc (Nat.le_refl _) _⟩

theorem store_m (x y k t : Int) (w : World) : (method 266 113 (.agg #[.int .i64 5, .int .i64 x, .int .i64 y, .int .i64 k, .int .i64 t]) "loop.example/latimer/impl.do").run Tryz.prog w = .ok (104, .agg #[.int .i64 5, .int .i64 x, .int .i64 y, .int .i64 k, .int .i64 t]) w := by kernel_rfl
theorem of_store (x y k t : Int) (w : World) : Calls Tryz.prog 52 #[.agg #[.int .i64 5, .int .i64 x, .int .i64 y, .int .i64 k, .int .i64 t]] w fun e w' => e = .returned (.iface 113 (.agg #[.int .i64 5, .int .i64 x, .int .i64 y, .int .i64 k, .int .i64 t])) ∧ Below w.heap.size w w' := by
  go_enter Tryz.func52, Tryz.ntmps52
  go_wp2
  go_ret
  exact ⟨rfl, (Below.refl _ _).alloc (Nat.le_refl _) _⟩

theorem in_m (x y k t : Int) (w : World) : (method 266 114 (.agg #[.int .i64 6, .int .i64 x, .int .i64 y, .int .i64 k, .int .i64 t]) "loop.example/latimer/impl.do").run Tryz.prog w = .ok (105, .agg #[.int .i64 6, .int .i64 x, .int .i64 y, .int .i64 k, .int .i64 t]) w := by kernel_rfl
theorem of_in (x y k t : Int) (w : World) : Calls Tryz.prog 52 #[.agg #[.int .i64 6, .int .i64 x, .int .i64 y, .int .i64 k, .int .i64 t]] w fun e w' => e = .returned (.iface 114 (.agg #[.int .i64 6, .int .i64 x, .int .i64 y, .int .i64 k, .int .i64 t])) ∧ Below w.heap.size w w' := by
  go_enter Tryz.func52, Tryz.ntmps52
  go_wp2
  go_ret
  exact ⟨rfl, (Below.refl _ _).alloc (Nat.le_refl _) _⟩

theorem out_m (x y k t : Int) (w : World) : (method 266 115 (.agg #[.int .i64 7, .int .i64 x, .int .i64 y, .int .i64 k, .int .i64 t]) "loop.example/latimer/impl.do").run Tryz.prog w = .ok (107, .agg #[.int .i64 7, .int .i64 x, .int .i64 y, .int .i64 k, .int .i64 t]) w := by kernel_rfl
theorem of_out (x y k t : Int) (w : World) : Calls Tryz.prog 52 #[.agg #[.int .i64 7, .int .i64 x, .int .i64 y, .int .i64 k, .int .i64 t]] w fun e w' => e = .returned (.iface 115 (.agg #[.int .i64 7, .int .i64 x, .int .i64 y, .int .i64 k, .int .i64 t])) ∧ Below w.heap.size w w' := by
  go_enter Tryz.func52, Tryz.ntmps52
  go_wp2
  go_ret
  exact ⟨rfl, (Below.refl _ _).alloc (Nat.le_refl _) _⟩

theorem set_m (x y k t : Int) (w : World) : (method 266 116 (.agg #[.int .i64 8, .int .i64 x, .int .i64 y, .int .i64 k, .int .i64 t]) "loop.example/latimer/impl.do").run Tryz.prog w = .ok (108, .agg #[.int .i64 8, .int .i64 x, .int .i64 y, .int .i64 k, .int .i64 t]) w := by kernel_rfl
theorem of_set (x y k t : Int) (w : World) : Calls Tryz.prog 52 #[.agg #[.int .i64 8, .int .i64 x, .int .i64 y, .int .i64 k, .int .i64 t]] w fun e w' => e = .returned (.iface 116 (.agg #[.int .i64 8, .int .i64 x, .int .i64 y, .int .i64 k, .int .i64 t])) ∧ Below w.heap.size w w' := by
  go_enter Tryz.func52, Tryz.ntmps52
  go_wp2
  go_ret
  exact ⟨rfl, (Below.refl _ _).alloc (Nat.le_refl _) _⟩

end Go.Proofs.YtaokopipgolmbaaGreatDoor.Ir
