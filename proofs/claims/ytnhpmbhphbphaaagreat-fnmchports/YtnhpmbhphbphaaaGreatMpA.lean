/-
  What a step and a run do to a machine, by the model of both: what is turned, what goes out and comes in, counts; mathematics alone.
-/
import Derived.Test.YtnhpmbhphbphaaaGreatMchLL
namespace Go.Proofs.YtnhpmbhphbphaaaGreat.Mch
set_option linter.unusedVariables false
set_option linter.unusedSimpArgs false
/-- What an instruction that was done leaves. -/
structure Did (s x : M) : Prop where
  count : x.count = s.count + 1
  halt : x.halt = s.halt ∨ x.halt = 1
  one : (x.mem = s.mem ∧ (x.regs = s.regs ∨ ∃ d n, x.regs = s.regs.set d n)) ∨ (x.regs = s.regs ∧ ∃ d n, x.mem = s.mem.set d n)
  outs : x.outs = s.outs ∨ ∃ y, x.outs = s.outs ++ [y]
  ins : x.ins = s.ins ∨ ∃ y, s.ins = y :: x.ins
theorem did_next (s : M) (pc : Int) : Did s (nextM s pc) := ⟨rfl, Or.inl rfl, Or.inl ⟨rfl, Or.inl rfl⟩, Or.inl rfl, Or.inl rfl⟩
theorem did_set (s : M) (d : Nat) (n : Int) : Did s (setM s d n) := ⟨rfl, Or.inl rfl, Or.inl ⟨rfl, Or.inr ⟨d, n, rfl⟩⟩, Or.inl rfl, Or.inl rfl⟩
theorem did_stop (s : M) (k : Int) : Did s (stopM s k) := by
  unfold stopM
  split
  · exact ⟨rfl, Or.inl rfl, Or.inl ⟨rfl, Or.inl rfl⟩, Or.inl rfl, Or.inl rfl⟩
  split
  · exact ⟨rfl, Or.inl rfl, Or.inl ⟨rfl, Or.inl rfl⟩, Or.inl rfl, Or.inl rfl⟩
  split
  · exact ⟨rfl, Or.inl rfl, Or.inl ⟨rfl, Or.inl rfl⟩, Or.inl rfl, Or.inl rfl⟩
  · exact ⟨rfl, Or.inr rfl, Or.inl ⟨rfl, Or.inl rfl⟩, Or.inl rfl, Or.inl rfl⟩
theorem did_reach (s : M) (op : Int) (d a : Nat) (k : Int) : Did s (reachM s op d a k) ∨ reachM s op d a k = haltM s 3 := by
  unfold reachM
  split
  · exact Or.inr rfl
  split
  · exact Or.inl (did_set s d _)
  · exact Or.inl ⟨rfl, Or.inl rfl, Or.inr ⟨rfl, _, _, rfl⟩, Or.inl rfl, Or.inl rfl⟩
theorem did_out (s : M) (d : Nat) : Did s (outM s d) := ⟨rfl, Or.inl rfl, Or.inl ⟨rfl, Or.inl rfl⟩, Or.inr ⟨_, rfl⟩, Or.inl rfl⟩
theorem did_in (s : M) (d : Nat) : Did s (inM s d) := by
  unfold inM
  split
  · exact did_set s d 0
  · rename_i n r e
    exact ⟨rfl, Or.inl rfl, Or.inl ⟨rfl, Or.inr ⟨d, n, rfl⟩⟩, Or.inl rfl, Or.inr ⟨n, e⟩⟩
theorem did_do (s : M) (op : Int) (d a : Nat) (k : Int) : Did s (doM s op d a k) ∨ doM s op d a k = haltM s 3 := by
  unfold doM
  repeat' split
  all_goals first
    | exact did_reach ..
    | exact Or.inl (did_stop ..)
    | exact Or.inl (did_set ..)
    | exact Or.inl (did_next ..)
    | exact Or.inl (did_out ..)
    | exact Or.inl (did_in ..)
/-- Of a machine that is ok and goes on: what a step is. -/
theorem step_go {m : M} (ok : okM m = true) (hh : m.halt = 0) (hc : m.count ≠ 1000000) (irq : Bool) :
    (64 ≤ (sampleM m irq).pc ∧ stepM m irq = haltM (sampleM m irq) 4) ∨ (¬ 64 ≤ (sampleM m irq).pc ∧ stepM m irq = haltM (sampleM m irq) 2) ∨ Did (sampleM m irq) (stepM m irq) ∨ stepM m irq = haltM (sampleM m irq) 3 := by
  unfold stepM
  rw [if_neg (by rw [ok]; decide), if_neg (by rintro (h | h) <;> contradiction)]
  split
  · rename_i h
    exact Or.inl ⟨h, rfl⟩
  · rename_i h
    split
    · exact Or.inr (Or.inr (did_do ..))
    · exact Or.inr (Or.inl ⟨h, rfl⟩)
theorem step_stays {m : M} (ok : okM m = true) (h : m.halt ≠ 0 ∨ m.count = 1000000) (irq : Bool) : stepM m irq = m := by
  unfold stepM
  rw [if_neg (by rw [ok]; decide), if_pos h]
theorem sample_same (m : M) (irq : Bool) : (sampleM m irq).regs = m.regs ∧ (sampleM m irq).mem = m.mem ∧ (sampleM m irq).outs = m.outs ∧ (sampleM m irq).ins = m.ins ∧ (sampleM m irq).count = m.count ∧ (sampleM m irq).halt = m.halt := by
  unfold sampleM
  split <;> exact ⟨rfl, rfl, rfl, rfl, rfl, rfl⟩
/-- P15. -/
theorem step_kind {m : M} (ok : okM m = true) (hh : m.halt = 0) (hc : m.count ≠ 1000000) (irq : Bool) :
    ((stepM m irq).count = m.count + 1 ∧ ((stepM m irq).halt = 0 ∨ (stepM m irq).halt = 1)) ∨ ((stepM m irq).count = m.count ∧ 2 ≤ (stepM m irq).halt ∧ (stepM m irq).regs = m.regs ∧ (stepM m irq).mem = m.mem ∧ (stepM m irq).outs = m.outs) := by
  obtain ⟨s1, s2, s3, s4, s5, s6⟩ := sample_same m irq
  rcases step_go ok hh hc irq with ⟨_, h⟩ | ⟨_, h⟩ | h | h
  · rw [h]
    exact Or.inr ⟨s5, by show (2 : Int) ≤ 4; omega, s1, s2, s3⟩
  · rw [h]
    exact Or.inr ⟨s5, by show (2 : Int) ≤ 2; omega, s1, s2, s3⟩
  · exact Or.inl ⟨by rw [h.count, s5], by rw [← hh, ← s6]; exact h.halt⟩
  · rw [h]
    exact Or.inr ⟨s5, by show (2 : Int) ≤ 3; omega, s1, s2, s3⟩
/-- P16, P60. -/
theorem step_did {m : M} (ok : okM m = true) (irq : Bool) :
    ((stepM m irq).outs = m.outs ∨ ∃ y, (stepM m irq).outs = m.outs ++ [y]) ∧ ((stepM m irq).ins = m.ins ∨ ∃ y, m.ins = y :: (stepM m irq).ins) ∧
    (((stepM m irq).mem = m.mem ∧ ((stepM m irq).regs = m.regs ∨ ∃ d n, (stepM m irq).regs = m.regs.set d n)) ∨ ((stepM m irq).regs = m.regs ∧ ∃ d n, (stepM m irq).mem = m.mem.set d n)) := by
  by_cases h : m.halt ≠ 0 ∨ m.count = 1000000
  · rw [step_stays ok h]
    exact ⟨Or.inl rfl, Or.inl rfl, Or.inl ⟨rfl, Or.inl rfl⟩⟩
  · obtain ⟨s1, s2, s3, s4, s5, s6⟩ := sample_same m irq
    have hh : m.halt = 0 := Classical.byContradiction fun e => h (Or.inl e)
    rcases step_go ok hh (fun e => h (Or.inr e)) irq with ⟨_, h⟩ | ⟨_, h⟩ | h | h
    · rw [h]
      exact ⟨Or.inl s3, Or.inl s4, Or.inl ⟨s2, Or.inl s1⟩⟩
    · rw [h]
      exact ⟨Or.inl s3, Or.inl s4, Or.inl ⟨s2, Or.inl s1⟩⟩
    · have o := h.outs
      have i := h.ins
      have u := h.one
      rw [s3] at o
      rw [s4] at i
      rw [s1, s2] at u
      exact ⟨o, i, u⟩
    · rw [h]
      exact ⟨Or.inl s3, Or.inl s4, Or.inl ⟨s2, Or.inl s1⟩⟩
/-- P17. -/
theorem sample_ok {m : M} (ok : okM m = true) (irq : Bool) : okM (sampleM m irq) = true := ((okM_of ok).sample irq).1.back
theorem sample_quiet (m : M) (irq : Bool) : ((sampleM m irq).waits && (sampleM m irq).lets) = false := by
  unfold sampleM
  cases hb : ((m.waits || irq) && m.lets) with
  | true => rw [if_pos rfl]; rfl
  | false => rw [if_neg (by decide)]; exact hb
theorem sample_none {m : M} (h : (m.waits && m.lets) = false) : sampleM m false = m := by
  unfold sampleM
  rw [Bool.or_false, h, if_neg (by decide)]
def goM (s : M) : M := if 64 ≤ s.pc then haltM s 4
  else if Ins.takeB (s.mem.getD s.pc.toNat 0) then
    doM s (s.mem.getD s.pc.toNat 0 / 4096) (s.mem.getD s.pc.toNat 0 / 1024 % 4).toNat (s.mem.getD s.pc.toNat 0 / 256 % 4).toNat (s.mem.getD s.pc.toNat 0 % 256)
  else haltM s 2
theorem step_goM {m : M} (ok : okM m = true) (hh : m.halt = 0) (hc : m.count ≠ 1000000) (irq : Bool) : stepM m irq = goM (sampleM m irq) := by
  unfold stepM
  rw [if_neg (by rw [ok]; decide), if_neg (by rintro (h | h) <;> contradiction)]
  rfl
theorem step_irq {m : M} (ok : okM m = true) (hh : m.halt = 0) (hc : m.count ≠ 1000000) (irq : Bool) : stepM m irq = stepM (sampleM m irq) false := by
  obtain ⟨s1, s2, s3, s4, s5, s6⟩ := sample_same m irq
  rw [step_goM ok hh hc, step_goM (sample_ok ok irq) (by rw [s6]; exact hh) (by rw [s5]; exact hc), sample_none (sample_quiet m irq)]
/-- Runs. -/
theorem run_ok (irqs : List Int) (n : Nat) {m : M} (ok : okM m = true) : okM (runM irqs n m) = true := (led_run irqs n m ok).1.back
theorem run_add (irqs : List Int) : ∀ (a b : Nat) (m : M), runM irqs (a + b) m = runM irqs b (runM irqs a m)
  | 0, b, m => by rw [Nat.zero_add]; rfl
  | a + 1, b, m => by
    by_cases h : m.halt = 0 ∧ m.count < 1000000
    · rw [show a + 1 + b = (a + b) + 1 by omega, runM, if_pos h, runM, if_pos h]
      exact run_add irqs a b _
    · rw [run_stop h, run_stop h, run_stop h]
theorem step_count {m : M} (ok : okM m = true) (irq : Bool) : (stepM m irq).count = m.count ∨ (stepM m irq).count = m.count + 1 := by
  by_cases h : m.halt ≠ 0 ∨ m.count = 1000000
  · rw [step_stays ok h]; exact Or.inl rfl
  · have hh : m.halt = 0 := Classical.byContradiction fun e => h (Or.inl e)
    rcases step_kind ok hh (fun e => h (Or.inr e)) irq with k | k
    · exact Or.inr k.1
    · exact Or.inl k.1
theorem run_count (irqs : List Int) : ∀ (n : Nat) (m : M), okM m = true → (runM irqs n m).count ≤ m.count + n
  | 0, m, _ => by show m.count ≤ m.count + 0; omega
  | n + 1, m, ok => by
    by_cases h : m.halt = 0 ∧ m.count < 1000000
    · rw [runM, if_pos h]
      have := run_count irqs n _ (led_step ok (hasB irqs m.count)).ok.back
      have := step_count ok (hasB irqs m.count)
      omega
    · rw [run_stop h]; omega
theorem run_end (irqs : List Int) : ∀ (n : Nat) (m : M), okM m = true → (runM irqs n m).halt ≠ 0 ∨ (runM irqs n m).count = m.count + n ∨ (runM irqs n m).count = 1000000
  | 0, m, _ => Or.inr (Or.inl (by show m.count = m.count + 0; omega))
  | n + 1, m, ok => by
    by_cases h : m.halt = 0 ∧ m.count < 1000000
    · rw [runM, if_pos h]
      have ok2 := (led_step ok (hasB irqs m.count)).ok.back
      rcases step_kind ok h.1 (by omega) (hasB irqs m.count) with k | k
      · rcases run_end irqs n _ ok2 with r | r | r
        · exact Or.inl r
        · exact Or.inr (Or.inl (by rw [r, k.1]; omega))
        · exact Or.inr (Or.inr r)
      · have hs : ¬ ((stepM m (hasB irqs m.count)).halt = 0 ∧ (stepM m (hasB irqs m.count)).count < 1000000) := fun e => by have := k.2.1; omega
        rw [run_stop hs]
        exact Or.inl (by have := k.2.1; omega)
    · rw [run_stop h]
      have := (okM_of ok).c
      by_cases h0 : m.halt = 0
      · exact Or.inr (Or.inr (by have : ¬ m.count < 1000000 := fun e => h ⟨h0, e⟩; omega))
      · exact Or.inl h0
/-- P20. -/
theorem run_place (irqs : List Int) : ∀ (n : Nat) (m : M), okM m = true → m.halt = 0 → (runM irqs n m).halt = 4 → 64 ≤ (runM irqs n m).pc
  | 0, m, _, h0, h4 => by
    rw [show runM irqs 0 m = m from rfl, h0] at h4
    exact absurd h4 (by decide)
  | n + 1, m, ok, h0, h4 => by
    by_cases h : m.halt = 0 ∧ m.count < 1000000
    · rw [runM, if_pos h] at h4 ⊢
      have ok2 := (led_step ok (hasB irqs m.count)).ok.back
      by_cases g : (stepM m (hasB irqs m.count)).halt = 0
      · exact run_place irqs n _ ok2 g h4
      · rw [run_stop (fun e => g e.1)] at h4 ⊢
        obtain ⟨s1, s2, s3, s4, s5, s6⟩ := sample_same m (hasB irqs m.count)
        rcases step_go ok h.1 (by omega) (hasB irqs m.count) with ⟨k, e⟩ | ⟨k, e⟩ | e | e
        · rw [e]; exact k
        · rw [e] at h4; exact absurd (show (2 : Int) = 4 from h4) (by decide)
        · rcases e.halt with x | x
          · rw [x, s6, h0] at h4; exact absurd h4 (by decide)
          · rw [x] at h4; exact absurd h4 (by decide)
        · rw [e] at h4; exact absurd (show (3 : Int) = 4 from h4) (by decide)
    · rw [run_stop h, h0] at h4
      exact absurd h4 (by decide)
/-- P80. -/
theorem run_late (irqs more : List Int) : ∀ (n : Nat) (m : M), okM m = true → (∀ c, m.count ≤ c → c < m.count + n → hasB irqs c = hasB more c) → runM irqs n m = runM more n m
  | 0, m, _, _ => rfl
  | n + 1, m, ok, hx => by
    by_cases h : m.halt = 0 ∧ m.count < 1000000
    · rw [runM, if_pos h, runM, if_pos h, ← hx m.count (by omega) (by omega)]
      have ok2 := (led_step ok (hasB irqs m.count)).ok.back
      rcases step_kind ok h.1 (by omega) (hasB irqs m.count) with k | k
      · exact run_late irqs more n _ ok2 fun c h1 h2 => hx c (by omega) (by omega)
      · have hs : ¬ ((stepM m (hasB irqs m.count)).halt = 0 ∧ (stepM m (hasB irqs m.count)).count < 1000000) := fun e => by have := k.2.1; omega
        rw [run_stop hs, run_stop hs]
    · rw [run_stop h, run_stop h]
theorem has_more {irqs : List Int} {a b c : Int} (h1 : c ≠ a) (h2 : c ≠ b) : hasB irqs c = hasB (irqs ++ [a, b]) c := by
  unfold hasB
  simp [h1, h2]
end Go.Proofs.YtnhpmbhphbphaaaGreat.Mch
