/-
  A step of a machine that is ok is ok; runs.
-/
import Derived.Test.YtnhpmbhphbphaaaGreatMchV
import Derived.Test.YtnhpmbhphbphaaaGreatMchM3
import Derived.Test.YtnhpmbhphbphaaaGreatMchK
namespace Go.Proofs.YtnhpmbhphbphaaaGreat.Mch
open Go.ChangeShapes Go.WideShapes Go.ChangeAt Go.RowKit IntS
theorem CMach.low {w : World} {lo lo' : Nat} {c : List Value} {m : M} (h : CMach w lo c m) (hl : lo' ≤ lo) : CMach w lo' c m := by
  obtain ⟨b1, b2, b3, b4, o1, o2, o3, k1, k2, k3, k4, hc, h1, h2, h3, h4, ⟨e1, e2, e3, e4⟩, r⟩ := h
  exact ⟨b1, b2, b3, b4, o1, o2, o3, k1, k2, k3, k4, hc, h1, h2, h3, h4.mono hl, ⟨by omega, by omega, by omega, by omega⟩, r⟩
theorem Keep.of_turn {B : Nat} {w w' : World} (h : Turn B w w') : Keep (fun k => k = B) w w' := ⟨h.os, h.tape, h.output, h.size, fun k hk hn => h.block k hk hn⟩
theorem OkM.back {m : M} (h : OkM m) : okM m = true := by
  unfold okM
  rw [h.wr, h.wm, h.wi, h.wo, Wrd.wok_t h.p.1 h.p.2, Wrd.wok_t h.s.1 h.s.2, decide_eq_true h.regs, decide_eq_true h.mem]
  have e1 : Ins.inB m.halt 0 4 = true := by unfold Ins.inB; simp [h.h.1, h.h.2]
  have e2 : Ins.inB m.count 0 1000000 = true := by unfold Ins.inB; simp [h.c.1, h.c.2]
  rw [e1, e2]
  rfl
theorem words_of {xs : List Int} (h : ∀ x ∈ xs, 0 ≤ x ∧ x < 65536) : wordsB xs = true := by
  unfold wordsB
  rw [List.all_eq_true]
  exact fun x hx => Wrd.wok_t (h x hx).1 (h x hx).2
theorem words_mem {xs : List Int} (h : wordsB xs = true) (x : Int) (hx : x ∈ xs) : 0 ≤ x ∧ x < 65536 := by
  unfold wordsB at h
  rw [List.all_eq_true] at h
  have := h x hx
  unfold Wrd.wok at this
  exact of_decide_eq_true this
theorem words_set {xs : List Int} (h : wordsB xs = true) (d : Nat) (n : Int) (hn : 0 ≤ n ∧ n < 65536) : wordsB (xs.set d n) = true :=
  words_of fun x hx => (List.mem_or_eq_of_mem_set hx).elim (words_mem h x) (fun e => e ▸ hn)
theorem words_getD {xs : List Int} (h : wordsB xs = true) (d : Nat) : 0 ≤ xs.getD d 0 ∧ xs.getD d 0 < 65536 := by
  rw [List.getD_eq_getElem?_getD]
  cases hx : xs[d]? with
  | none => simp
  | some x => exact words_mem h x (List.mem_of_getElem? hx)
theorem words_push {xs : List Int} (h : wordsB xs = true) (n : Int) (hn : 0 ≤ n ∧ n < 65536) : wordsB (xs ++ [n]) = true :=
  words_of fun x hx => by
    rcases List.mem_append.1 hx with hx | hx
    · exact words_mem h x hx
    · rw [List.mem_singleton.1 hx]; exact hn
/-- What a step leaves of a machine that is ok. -/
structure Led (m m' : M) : Prop where
  ok : OkM m'
  outs : m'.outs.length ≤ m.outs.length + 1
  ins : m'.ins.length ≤ m.ins.length
theorem led_next {m : M} (h : OkM m) (hc : m.count < 1000000) (pc : Int) : Led m (nextM m pc) :=
  ⟨⟨h.regs, h.mem, h.wr, h.wm, h.wi, h.wo, by show 0 ≤ pc % 65536 ∧ pc % 65536 < 65536; omega, h.s, h.h, by show 0 ≤ m.count + 1 ∧ m.count + 1 ≤ 1000000; have := h.c; omega⟩, Nat.le_succ _, Nat.le_refl _⟩
theorem led_set {m : M} (h : OkM m) (hc : m.count < 1000000) (d : Nat) (n : Int) (hn : 0 ≤ n ∧ n < 65536) : Led m (setM m d n) := by
  have h2 : OkM { m with regs := m.regs.set d n } := ⟨by rw [List.length_set]; exact h.regs, h.mem, words_set h.wr d n hn, h.wm, h.wi, h.wo, h.p, h.s, h.h, h.c⟩
  obtain ⟨o, a, b⟩ := led_next h2 hc (m.pc + 1)
  exact ⟨o, a, b⟩
theorem OkM.halted {m : M} (h : OkM m) (k : Int) (hk : 0 ≤ k ∧ k ≤ 4) : OkM (haltM m k) := ⟨h.regs, h.mem, h.wr, h.wm, h.wi, h.wo, h.p, h.s, hk, h.c⟩
theorem led_stop {m : M} (h : OkM m) (hc : m.count < 1000000) (k : Int) : Led m (stopM m k) := by
  have h1 : OkM { m with lets := true } := ⟨h.regs, h.mem, h.wr, h.wm, h.wi, h.wo, h.p, h.s, h.h, h.c⟩
  have h2 : OkM { m with lets := false } := ⟨h.regs, h.mem, h.wr, h.wm, h.wi, h.wo, h.p, h.s, h.h, h.c⟩
  unfold stopM
  split
  · obtain ⟨o, a, b⟩ := led_next h1 hc m.save
    exact ⟨o, a, b⟩
  · split
    · obtain ⟨o, a, b⟩ := led_next h1 hc (m.pc + 1)
      exact ⟨o, a, b⟩
    · split
      · obtain ⟨o, a, b⟩ := led_next h2 hc (m.pc + 1)
        exact ⟨o, a, b⟩
      · obtain ⟨o, a, b⟩ := led_next (h.halted 1 (by omega)) hc (m.pc + 1)
        exact ⟨o, a, b⟩
theorem led_reach {m : M} (h : OkM m) (hc : m.count < 1000000) (op : Int) (d a : Nat) (k : Int) : Led m (reachM m op d a k) := by
  unfold reachM
  split
  · exact ⟨h.halted 3 (by omega), Nat.le_succ _, Nat.le_refl _⟩
  · split
    · exact led_set h hc d _ (words_getD h.wm _)
    · have h2 : OkM { m with mem := m.mem.set ((m.regs.getD a 0 + k) % 65536).toNat (m.regs.getD d 0) } := ⟨h.regs, by rw [List.length_set]; exact h.mem, h.wr, words_set h.wm _ _ (words_getD h.wr _), h.wi, h.wo, h.p, h.s, h.h, h.c⟩
      obtain ⟨o, a, b⟩ := led_next h2 hc (m.pc + 1)
      exact ⟨o, a, b⟩
theorem led_out {m : M} (h : OkM m) (hc : m.count < 1000000) (d : Nat) : Led m (outM m d) := by
  have h2 : OkM { m with outs := m.outs ++ [m.regs.getD d 0] } := ⟨h.regs, h.mem, h.wr, h.wm, h.wi, words_push h.wo _ (words_getD h.wr _), h.p, h.s, h.h, h.c⟩
  obtain ⟨o, a, b⟩ := led_next h2 hc (m.pc + 1)
  exact ⟨o, by show (m.outs ++ [m.regs.getD d 0]).length ≤ _; simp, b⟩
theorem led_in {m : M} (h : OkM m) (hc : m.count < 1000000) (d : Nat) : Led m (inM m d) := by
  unfold inM
  split
  · exact led_set h hc d 0 (by omega)
  · rename_i n r hi
    have hw := h.wi
    rw [hi] at hw
    have h2 : OkM { m with ins := r } := ⟨h.regs, h.mem, h.wr, h.wm, words_of fun x hx => words_mem hw x (List.mem_cons_of_mem _ hx), h.wo, h.p, h.s, h.h, h.c⟩
    obtain ⟨o, a, b⟩ := led_set h2 hc d n (words_mem hw n (List.mem_cons_self ..))
    exact ⟨o, a, Nat.le_trans b (by rw [hi]; simp)⟩
theorem led_do {m : M} (h : OkM m) (hc : m.count < 1000000) (op : Int) (d a : Nat) (k : Int) (hk : 0 ≤ k ∧ k < 65536) : Led m (doM m op d a k) := by
  unfold doM
  split
  · exact led_stop h hc k
  split
  · exact led_set h hc d k hk
  split
  · exact led_set h hc d _ (words_getD h.wr _)
  split
  · exact led_set h hc d _ (shift_bd (words_getD h.wr _).1 (words_getD h.wr _).2 _)
  split
  · exact led_reach h hc op d a k
  split
  · exact led_next h hc _
  split
  · exact led_next h hc _
  split
  · exact led_next h hc _
  split
  · exact led_out h hc d
  split
  · exact led_in h hc d
  · exact led_set h hc d _ (Wrd.wdo_bd _ _ _)
theorem OkM.sample {m : M} (h : OkM m) (irq : Bool) : OkM (sampleM m irq) ∧ (sampleM m irq).outs = m.outs ∧ (sampleM m irq).ins = m.ins ∧ (sampleM m irq).count = m.count ∧ (sampleM m irq).halt = m.halt ∧ (sampleM m irq).regs = m.regs ∧ (sampleM m irq).mem = m.mem := by
  unfold sampleM
  split
  · exact ⟨⟨h.regs, h.mem, h.wr, h.wm, h.wi, h.wo, by simp, h.p, h.h, h.c⟩, rfl, rfl, rfl, rfl, rfl, rfl⟩
  · exact ⟨⟨h.regs, h.mem, h.wr, h.wm, h.wi, h.wo, h.p, h.s, h.h, h.c⟩, rfl, rfl, rfl, rfl, rfl, rfl⟩
theorem led_step {m : M} (ok : okM m = true) (irq : Bool) : Led m (stepM m irq) := by
  have h := okM_of ok
  unfold stepM
  rw [if_neg (by rw [ok]; decide)]
  split
  · exact ⟨h, Nat.le_succ _, Nat.le_refl _⟩
  rename_i hs
  have hc : m.count < 1000000 := by have := h.c; omega
  obtain ⟨s, so, si, sc, _, _, _⟩ := h.sample irq
  split
  · exact ⟨s.halted 4 (by omega), by rw [show (haltM (sampleM m irq) 4).outs = (sampleM m irq).outs from rfl, so]; omega, by rw [show (haltM (sampleM m irq) 4).ins = (sampleM m irq).ins from rfl, si]; omega⟩
  split
  · obtain ⟨o, a, b⟩ := led_do s (by rw [sc]; exact hc) ((sampleM m irq).mem.getD (sampleM m irq).pc.toNat 0 / 4096) ((sampleM m irq).mem.getD (sampleM m irq).pc.toNat 0 / 1024 % 4).toNat ((sampleM m irq).mem.getD (sampleM m irq).pc.toNat 0 / 256 % 4).toNat ((sampleM m irq).mem.getD (sampleM m irq).pc.toNat 0 % 256) (by omega)
    rw [so] at a
    rw [si] at b
    exact ⟨o, a, b⟩
  · exact ⟨s.halted 2 (by omega), by rw [show (haltM (sampleM m irq) 2).outs = (sampleM m irq).outs from rfl, so]; omega, by rw [show (haltM (sampleM m irq) 2).ins = (sampleM m irq).ins from rfl, si]; omega⟩
theorem small_wide {m : M} (h : Small m) : Wide m := ⟨Nat.le_trans h.1 (by omega), Nat.le_trans h.2.1 (by omega), Nat.le_trans h.2.2.1 (by omega), Nat.le_trans h.2.2.2 (by omega)⟩
theorem empty_wide : Wide emptyM := by unfold Wide emptyM; simp
theorem step_wide {m : M} (h : Small m) (irq : Bool) : Wide (stepM m irq) := by
  cases ok : okM m with
  | false => rw [step_no ok]; exact empty_wide
  | true =>
    obtain ⟨o, a, b⟩ := led_step ok irq
    obtain ⟨_, _, h3, h4⟩ := h
    exact ⟨by rw [o.regs]; omega, by rw [o.mem]; omega, by omega, by omega⟩
/-- Whether a number is one of some. -/
def hasB (irqs : List Int) (n : Int) : Bool := decide (n ∈ irqs)
/-- So many steps. -/
def runM (irqs : List Int) : Nat → M → M
  | 0, m => m
  | n + 1, m => if m.halt = 0 ∧ m.count < 1000000 then runM irqs n (stepM m (hasB irqs m.count)) else m
def runOf (m : M) (irqs : List Int) (n : Int) : M := if okM m = true ∧ n ≤ 400 then runM irqs n.toNat m else emptyM
theorem led_run (irqs : List Int) : ∀ (n : Nat) (m : M), okM m = true → OkM (runM irqs n m) ∧ (runM irqs n m).outs.length ≤ m.outs.length + n ∧ (runM irqs n m).ins.length ≤ m.ins.length
  | 0, m, ok => ⟨okM_of ok, Nat.le_refl _, Nat.le_refl _⟩
  | n + 1, m, ok => by
    unfold runM
    split
    · obtain ⟨o, a, b⟩ := led_step ok (hasB irqs m.count)
      obtain ⟨o2, a2, b2⟩ := led_run irqs n _ o.back
      exact ⟨o2, by omega, by omega⟩
    · exact ⟨okM_of ok, by omega, Nat.le_refl _⟩
theorem run_wide {m : M} (h : Small m) (irqs : List Int) (n : Int) : Wide (runOf m irqs n) := by
  unfold runOf
  split
  · rename_i hc
    obtain ⟨o, a, b⟩ := led_run irqs n.toNat m hc.1
    obtain ⟨_, _, h3, h4⟩ := h
    exact ⟨by rw [o.regs]; omega, by rw [o.mem]; omega, by omega, by omega⟩
  · exact empty_wide
theorem drew_below (u : World) : Below u.heap.size u u.drew := (Below.refl _ _).drew
end Go.Proofs.YtnhpmbhphbphaaaGreat.Mch
namespace Go.Proofs.YtnhpmbhphbphaaaGreat.Mch
open Go.ChangeShapes Go.WideShapes Go.ChangeAt Go.RowKit IntS
theorem has_yes {xs : List Int} {k : Nat} {n : Int} (h : xs[k]? = some n) : hasB xs n = true := decide_eq_true (List.mem_of_getElem? h)
theorem has_no {xs : List Int} {n : Int} (h : ∀ (k : Nat) x, xs[k]? = some x → x ≠ n) : hasB xs n = false := by
  refine decide_eq_false fun hm => ?_
  obtain ⟨k, hk⟩ := List.getElem?_of_mem hm
  exact h k n hk rfl
set_option maxHeartbeats 2000000 in
theorem l3Has (xs : List Int) (q : Int) (B : Nat) (v : Value) (w : World) (h : Row w B v xs) :
    Calls Tryz.prog 49 #[v, .int .i64 q] w fun e w' => e = .returned (.bool (hasB xs q)) ∧ w' = w := by
  obtain ⟨a, cap, off, rfl, h2, h3, hz, h4⟩ := h
  unfold maxLen at h3
  clear hz
  obtain ⟨n, en⟩ : ∃ n, xs.length = n := ⟨_, rfl⟩
  rw [en] at h2 ⊢
  have EN := hide en
  have H4 := hide h4
  clear en h4
  by_cases h0 : n = 0
  · subst h0
    have e0 : xs = [] := List.length_eq_zero_iff.1 EN.out
    have HD : Hid (hasB xs q = false) := show _ = false by rw [e0]; rfl
    clear e0 H4 EN
    go_enter Tryz.func49, Tryz.ntmps49
    go_wp2
    refine wp_loop_rounds 1 ?_
    rw [rounds_succ]
    go_wp2
    go_ret
    exact ⟨ret_bool HD.out.symm, rfl⟩
  · obtain ⟨rfl, hc⟩ := H4.out.resolve_left (fun e => h0 (by rw [← EN.out, e]; rfl))
    have HC := hide hc
    clear hc H4
    go_enter Tryz.func49, Tryz.ntmps49
    go_wp2
    go_loopw [5] (fun i wr => ∃ k : Nat, k ≤ n ∧ i = .int .i64 k ∧ Hid (∀ (j : Nat) x, j < k → xs[j]? = some x → x ≠ q) ∧ wr = w) (fun i _ => n - (intOf i).toNat)
    case atStart => exact ⟨0, by omega, rfl, fun j x hj => by omega, rfl⟩
    case round =>
      obtain ⟨k, hk, rfl, HE, rfl⟩ := hrel
      by_cases hlt : k < n
      · obtain ⟨x, ex⟩ : ∃ x, xs[k]? = some x := ⟨_, List.getElem?_eq_getElem (by rw [EN.out]; exact hlt)⟩
        have cx := HC.out k x ex
        have EX := hide ex
        clear ex
        by_cases hb : x = q
        · have HD := hide (has_yes (hb ▸ EX.out : xs[k]? = some q))
          have hb' : (x == q) = true := by simp [hb]
          clear hb
          go_wp2
          go_ret
          exact ⟨ret_bool HD.out.symm, rfl⟩
        · have HX : Hid (∀ (j : Nat) y, j < k + 1 → xs[j]? = some y → y ≠ q) := fun j y hj hy => by
            by_cases ej : j = k
            · subst ej
              rw [EX.out] at hy
              obtain rfl := Option.some.inj hy
              exact hb
            · exact HE.out j y (by omega) hy
          have hb' : (x == q) = false := by simp [hb]
          clear hb
          go_wp2
          exact ⟨⟨k + 1, by omega, by go_num, HX, trivial⟩, by simp [intOf]; omega⟩
      · have HD : Hid (hasB xs q = false) := has_no fun j x hx => HE.out j x (by have := (List.getElem?_eq_some_iff.1 hx).1; rw [EN.out] at this; omega) hx
        go_wp2
        go_ret
        exact ⟨ret_bool HD.out.symm, rfl⟩
set_option maxHeartbeats 2000000 in
theorem index (xs : List Int) (q : Int) (B : Nat) (v : Value) (w : World) (h : Row w B v xs) :
    Calls Tryz.prog 80 #[v, .int .i64 q] w fun e w' => ∃ r : Int, e = .returned (.int .i64 r) ∧ decide (0 ≤ r) = hasB xs q ∧ w' = w := by
  obtain ⟨a, cap, off, rfl, h2, h3, hz, h4⟩ := h
  unfold maxLen at h3
  clear hz
  obtain ⟨n, en⟩ : ∃ n, xs.length = n := ⟨_, rfl⟩
  rw [en] at h2 ⊢
  have EN := hide en
  have H4 := hide h4
  clear en h4
  by_cases h0 : n = 0
  · subst h0
    have e0 : xs = [] := List.length_eq_zero_iff.1 EN.out
    have HD : Hid (hasB xs q = false) := show _ = false by rw [e0]; rfl
    clear e0 H4 EN
    go_enter Tryz.func80, Tryz.ntmps80
    go_wp2
    refine wp_loop_rounds 1 ?_
    rw [rounds_succ]
    go_wp2
    go_ret
    exact ⟨-1, rfl, by rw [HD.out]; decide, rfl⟩
  · obtain ⟨rfl, hc⟩ := H4.out.resolve_left (fun e => h0 (by rw [← EN.out, e]; rfl))
    have HC := hide hc
    clear hc H4
    go_enter Tryz.func80, Tryz.ntmps80
    go_wp2
    go_loopw [8] (fun i wr => ∃ k : Nat, k ≤ n ∧ i = .int .i64 k ∧ Hid (∀ (j : Nat) x, j < k → xs[j]? = some x → x ≠ q) ∧ wr = w) (fun i _ => n - (intOf i).toNat)
    case atStart => exact ⟨0, by omega, rfl, fun j x hj => by omega, rfl⟩
    case round =>
      obtain ⟨k, hk, rfl, HE, rfl⟩ := hrel
      by_cases hlt : k < n
      · obtain ⟨x, ex⟩ : ∃ x, xs[k]? = some x := ⟨_, List.getElem?_eq_getElem (by rw [EN.out]; exact hlt)⟩
        have cx := HC.out k x ex
        have EX := hide ex
        clear ex
        by_cases hb : x = q
        · have HD := hide (has_yes (hb ▸ EX.out : xs[k]? = some q))
          have hb' : (q == x) = true := by simp [hb]
          clear hb
          go_wp2
          go_ret
          exact ⟨k, rfl, by rw [HD.out]; exact decide_eq_true (by omega), rfl⟩
        · have HX : Hid (∀ (j : Nat) y, j < k + 1 → xs[j]? = some y → y ≠ q) := fun j y hj hy => by
            by_cases ej : j = k
            · subst ej
              rw [EX.out] at hy
              obtain rfl := Option.some.inj hy
              exact hb
            · exact HE.out j y (by omega) hy
          have hb' : (q == x) = false := by simp; exact fun e => hb e.symm
          clear hb
          go_wp2
          exact ⟨⟨k + 1, by omega, by go_num, HX, trivial⟩, by simp [intOf]; omega⟩
      · have HD : Hid (hasB xs q = false) := has_no fun j x hx => HE.out j x (by have := (List.getElem?_eq_some_iff.1 hx).1; rw [EN.out] at this; omega) hx
        go_wp2
        go_ret
        exact ⟨-1, rfl, by rw [HD.out]; decide, rfl⟩
theorem contains (xs : List Int) (q : Int) (B : Nat) (v : Value) (w : World) (h : Row w B v xs) :
    Calls Tryz.prog 48 #[v, .int .i64 q] w fun e w' => e = .returned (.bool (hasB xs q)) ∧ w' = w := by
  have H := hide h
  clear h
  go_enter Tryz.func48, Tryz.ntmps48
  go_wp2_with fail
  refine (index xs q B _ _ H.out).mono ?_
  rintro e u ⟨r, rfl, hr, rfl⟩
  have HR := hide hr
  clear hr
  go_wp2
  go_ret
  exact ⟨ret_bool HR.out, rfl⟩
end Go.Proofs.YtnhpmbhphbphaaaGreat.Mch
