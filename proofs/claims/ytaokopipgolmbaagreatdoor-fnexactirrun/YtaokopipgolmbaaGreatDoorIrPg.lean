/-
  How the program runs a piece of code: it goes through its operations.
-/
import Derived.Test.YtaokopipgolmbaaGreatDoorIrPq
import Derived.Test.YtaokopipgolmbaaGreatDoorIrRh
namespace Go.Proofs.YtaokopipgolmbaaGreatDoor.Ir
set_option linter.unusedVariables false
set_option linter.unusedSimpArgs false
open Go.ChangeShapes Go.WideShapes Go.ChangeAt Go.RowKit IntS Mch
theorem low_cell {lo : Nat} {u w' : World} (hb : Below lo u w') {p : Addr} (hp : p.block < lo) : w'.cell? p = u.cell? p := World.cell?_of_block (w := u) (hb.block p.block hp)
/-- How a passage through the operations ends. -/
def ThR (lo P Z : Nat) (b : Bk) (q : Option Addr) (cap : Nat) (m0 : M) (u : World) (e : Ending) (w' : World) : Prop :=
  Below lo u w' ∧ (
   (∃ wv c m vs, e = .returned .nilIface ∧ Psg w' lo P Z b q cap wv c m vs ∧ runM b b.ops m0 [] = { m with pc := goM b vs, count := m.count + b.ln } ∧ Inv m vs ∧ vs.length = b.ops.length ∧ m.count = m0.count) ∨
   (∃ (t : Int) (wv : Value) (c : List Value) (m : M) (vs : List Int), e = .returned (.iface 81 (.agg #[.int .i64 t])) ∧ Psg w' lo P Z b q cap wv c m vs ∧ runM b b.ops m0 [] = leaveM m b.pc t 3 ∧ (0 ≤ t ∧ t ≤ 7) ∧ m.count = m0.count) ∨
   (∃ (t : Int) (wv : Value) (c : List Value) (m : M) (vs : List Int), e = .returned (.iface 82 (.agg #[.int .i64 t])) ∧ Psg w' lo P Z b q cap wv c m vs ∧ runM b b.ops m0 [] = leaveM m b.pc (t + 1) 0 ∧ (0 ≤ t ∧ t ≤ 7) ∧ m.count = m0.count ∧ m.halt = m0.halt))

set_option maxRecDepth 8000 in
set_option maxHeartbeats 16000000 in
theorem through (lo P Z cap B : Nat) (b : Bk) (q : Option Addr) (c : List Value) (m : M) (u : World) (h : Psg u lo P Z b q cap (.slice none 0 0) c m []) (hr : ORow u B (.slice q b.ops.length cap) b.ops) (hB : b.ops = [] ∨ B < lo) (hok : okB b = true) (hi : Inv m []) (hout : m.outs.length ≤ 2000000) :
    Calls Tryz.prog 30 #[.pointer (some ⟨P, 0, none⟩)] u (ThR lo P Z b q cap m u) := by
  obtain ⟨R, eR⟩ : ∃ R, runM b b.ops m [] = R := ⟨_, rfl⟩
  obtain ⟨p0, p64, l1, l8, o48, OPS, _⟩ := head_ok hok
  have E1 : Hid (∀ wv c' m' vs w', Psg w' lo P Z b q cap wv c' m' vs → R = { m' with pc := goM b vs, count := m'.count + b.ln } → Inv m' vs → vs.length = b.ops.length → m'.count = m.count → Below lo u w' → ThR lo P Z b q cap m u (.returned .nilIface) w') := fun wv c' m' vs w' a1 a2 a3 a4 a5 a6 => ⟨a6, Or.inl ⟨wv, c', m', vs, rfl, a1, eR.trans a2, a3, a4, a5⟩⟩
  have E2 : Hid (∀ (t : Int) wv c' m' vs w', Psg w' lo P Z b q cap wv c' m' vs → R = leaveM m' b.pc t 3 → (0 ≤ t ∧ t ≤ 7) → m'.count = m.count → Below lo u w' → ThR lo P Z b q cap m u (.returned (.iface 81 (.agg #[.int .i64 t]))) w') := fun t wv c' m' vs w' a1 a2 a3 a4 a6 => ⟨a6, Or.inr (Or.inl ⟨t, wv, c', m', vs, rfl, a1, eR.trans a2, a3, a4⟩)⟩
  have E3 : Hid (∀ (t : Int) wv c' m' vs w', Psg w' lo P Z b q cap wv c' m' vs → R = leaveM m' b.pc (t + 1) 0 → (0 ≤ t ∧ t ≤ 7) → m'.count = m.count ∧ m'.halt = m.halt → Below lo u w' → ThR lo P Z b q cap m u (.returned (.iface 82 (.agg #[.int .i64 t]))) w') := fun t wv c' m' vs w' a1 a2 a3 a4 a6 => ⟨a6, Or.inr (Or.inr ⟨t, wv, c', m', vs, rfl, a1, eR.trans a2, a3, a4⟩)⟩
  have H := hide h
  have IV := hide hi
  have RL := hide eR.symm
  have OU := hide hout
  have OP := hide OPS
  have p2 := h.p.cell 2 _ rfl
  obtain ⟨bp, ln, ops, en, bx, by_, bk⟩ := b
  simp only [] at *
  obtain ⟨a', cap', off, e, hn, hm, _, h4⟩ := hr
  obtain ⟨rfl, -, rfl⟩ : q = a' ∧ True ∧ cap = cap' := by cases e; exact ⟨rfl, trivial, rfl⟩
  clear e
  unfold maxLen at hm
  have H4 := hide h4
  obtain ⟨n, en'⟩ : ∃ n, ops.length = n := ⟨_, rfl⟩
  have EN := hide en'
  rw [en'] at hn p2 o48
  have BL := hide hB
  clear h hi hout OPS h4 en' eR hok hB
  go_enter Tryz.func30, Tryz.ntmps30
  go_wp2
  go_loopw [13] (fun i wr => ∃ (k cp : Nat) (qw : Option Addr) (vs : List Int) (c : List Value) (m' : M), k ≤ n ∧ i = .int .i64 k ∧ Hid (vs.length = k) ∧ Hid (Psg wr lo P Z ⟨bp, ln, ops, en, bx, by_, bk⟩ q cap (.slice qw vs.length cp) c m' vs) ∧ Hid (R = runM ⟨bp, ln, ops, en, bx, by_, bk⟩ (ops.drop k) m' vs) ∧ Hid (Inv m' vs ∧ m'.outs.length ≤ 2000000 + k ∧ m'.count = m.count ∧ m'.halt = m.halt) ∧ Hid (Below lo u wr)) (fun i _ => n - (intOf i).toNat)
  case atStart => exact ⟨0, 0, none, [], c, m, by omega, rfl, rfl, H, RL, ⟨IV.out, by have := OU.out; simpa using this, rfl, rfl⟩, Below.refl _ _⟩
  case round =>
    clear H IV RL OU p2
    obtain ⟨k, cp, qw, vs, c, m', hk, rfl, VL, PS, RL, IV, BW⟩ := hrel
    by_cases hlt : k < n
    case neg =>
      obtain rfl : k = n := by omega
      have RD := RL.out
      rw [List.drop_of_length_le (by rw [EN.out]; exact Nat.le_refl _)] at RD
      have FI := hide (E1.out _ _ _ _ _ PS.out RD IV.out.1 (by rw [VL.out, EN.out]) IV.out.2.2.1 BW.out)
      clear RD
      go_wp2
      go_ret
      exact FI.out
    obtain ⟨o, et⟩ : ∃ o, ops[k]? = some o := ⟨_, List.getElem?_eq_getElem (by rw [EN.out]; exact hlt)⟩
    have OF0 := op_facts (ops_at OP.out et) (by rw [List.length_take, EN.out]; omega) l8 l1
    rw [show (ops.take k).length = vs.length by rw [List.length_take, EN.out, VL.out]; omega] at OF0
    obtain ⟨rfl, hc⟩ := H4.out.resolve_left (fun e => by rw [e] at et; simp at et)
    have BL2 := BL.out.resolve_left (fun e => by rw [e] at et; simp at et)
    have q0 := (low_cell BW.out (p := ⟨B, _, none⟩) BL2).trans (hc k o et).1
    have q1 := (low_cell BW.out (p := ⟨B, _, none⟩) BL2).trans (hc k o et).2.1
    have q2 := (low_cell BW.out (p := ⟨B, _, none⟩) BL2).trans (hc k o et).2.2.1
    have q3 := (low_cell BW.out (p := ⟨B, _, none⟩) BL2).trans (hc k o et).2.2.2.1
    have q4 := (low_cell BW.out (p := ⟨B, _, none⟩) BL2).trans (hc k o et).2.2.2.2
    have RS : Hid (R = runM ⟨bp, ln, ops, en, bx, by_, bk⟩ (o :: ops.drop (k + 1)) m' vs) := show _ = _ by
      rw [RL.out, List.drop_eq_getElem_cons (by rw [EN.out]; exact hlt), (List.getElem?_eq_some_iff.1 et).2]
    have IN := hide (step_inv (b := ⟨bp, ln, ops, en, bx, by_, bk⟩) IV.out.1 OF0)
    have FIT : Hid (Fit6 ⟨bp, ln, ops, en, bx, by_, bk⟩ m' vs o) := ⟨OF0, IV.out.1, by have := IV.out.2.1; omega, p0, p64, by show (0 : Int) ≤ ln; omega, l8⟩
    have lk : ((k : Nat) : Int) < (n : Int) := by omega
    obtain ⟨kd, x_, y_, k_, t_⟩ := o
    have kds : kd = 1 ∨ kd = 2 ∨ kd = 3 ∨ kd = 4 ∨ kd = 5 ∨ kd = 6 ∨ kd = 7 ∨ kd = 8 := by have := OF0.kd; simp only [] at this; omega
    simp only [] at q0 q1 q2 q3 q4
    clear et hc OF0 RL BL2
    have LLO := hide PS.out.lu
    rcases kds with rfl | rfl | rfl | rfl | rfl | rfl | rfl | rfl

    · have bo := alloc_below wr (.cells #[.int .i64 1, .int .i64 x_, .int .i64 y_, .int .i64 k_, .int .i64 t_] 49)
      have RO := hide (Rec.new wr [.int .i64 1, .int .i64 x_, .int .i64 y_, .int .i64 k_, .int .i64 t_] 49)
      have PS1 := hide (PS.out.below bo)
      have BW1 := hide (BW.out.trans (bo.mono LLO.out))
      have mm := const_m x_ y_ k_ t_
      clear bo PS BW
      go_wp2_with fail
      refine (of_const x_ y_ k_ t_ _).mono ?_
      rintro e u1 ⟨rfl, hb1⟩
      replace BW1 := hide (BW1.out.trans (hb1.mono PS1.out.lu))
      replace PS1 := hide (PS1.out.below hb1)
      clear hb1 RO q0 q1 q2 q3 q4
      go_wp2_with fail
      refine (step_const _ _ _ _ _ _ _ _ _ _ _ PS1.out x_ y_ k_ t_ FIT.out).mono ?_
      rintro e u2 (⟨m1, n1, hs, rfl, ⟨c2, PS2⟩, hb2⟩ | ⟨t, hs, ht, rfl, ⟨c2, PS2⟩, hb2⟩ | ⟨t, m1, hs, ht, hcn, rfl, ⟨c2, PS2⟩, hb2⟩)
      · have bo := alloc_below u2 (.cells #[.int .i64 n1] 3)
        have CN : (u2.alloc (.cells #[.int .i64 n1] 3)).cell? ((⟨u2.heap.size, 0, none⟩ : Addr).add 0) = some (.int .i64 n1) := by
          rw [Go.WideShapes.add_plain]
          exact World.cell?_alloc_new u2 #[.int .i64 n1] 3 0
        obtain ⟨g9, c9, u9, hrun, ho9, hor9, hlt9, gr⟩ := run_pushI (ty := 25) (PS2.below bo).words (by rw [VL.out]; omega) (Nat.le_trans PS2.lu bo.size) ⟨u2.heap.size, 0, none⟩ n1 CN
        obtain ⟨PS9, B9, R9⟩ := Psg.push PS2 ho9 hor9 gr
        have p8 := PS2.p.cell 8 _ rfl
        have v8 := R9.cell 8 _ rfl
        have s8 := R9.soft 8
        have RS2 : Hid (R = runM ⟨bp, ln, ops, en, bx, by_, bk⟩ (ops.drop (k + 1)) m1 (vs ++ [n1])) := show _ = _ by
          rw [RS.out]
          simp only [runM]
          rw [hs]
          rfl
        have IN2 := IN.out
        rw [hs] at IN2
        have IV2 : Hid (Inv m1 (vs ++ [n1]) ∧ m1.outs.length ≤ 2000000 + (k + 1) ∧ m1.count = m.count ∧ m1.halt = m.halt) := ⟨IN2.1, by have h8 := IN2.2.1; have h9 := IV.out.2.1; simp only [] at h8; omega, (IN2.2.2 rfl).trans IV.out.2.2.1, (step_halt hs).trans IV.out.2.2.2⟩
        have VL9 : Hid ((vs ++ [n1]).length = k + 1) := show _ = _ by rw [List.length_append, VL.out]; rfl
        have LE : (vs ++ [n1]).length = vs.length + 1 := by rw [List.length_append]; rfl
        rw [← LE] at PS9 B9
        have PS3 := hide PS9
        have BW3 := hide ((BW1.out.trans hb2).trans B9)
        rw [LE] at PS3 BW3
        clear PS9 B9 R9 bo CN ho9 hor9 hlt9 gr IN2 hs hb2 PS1 BW1 FIT IN RS IV PS2 LE
        go_wp2_with (at_builtin; refine Flat.push_list rfl _ _ rfl rfl rfl hrun ?_)
        exact ⟨⟨k + 1, c9, some ⟨g9, 0, none⟩, vs ++ [n1], c2, m1, by omega, by go_num, VL9, by rw [List.length_append]; exact PS3, RS2, IV2, BW3⟩, by simp [intOf]; omega⟩
      · have RD : R = leaveM m' bp t 3 := by
          rw [RS.out]
          simp only [runM]
          rw [hs]
          rfl
        have FI := hide (E2.out t _ _ _ _ _ PS2 RD ht IV.out.2.2.1 (BW1.out.trans hb2))
        clear RD PS2 hs hb2 PS1 BW1 FIT IN RS IV mm
        go_wp2
        go_ret
        exact FI.out
      · have RD : R = leaveM m1 bp (t + 1) 0 := by
          rw [RS.out]
          simp only [runM]
          rw [hs]
          rfl
        have FI := hide (E3.out t _ _ _ _ _ PS2 RD ht ⟨hcn.1.trans IV.out.2.2.1, hcn.2.trans IV.out.2.2.2⟩ (BW1.out.trans hb2))
        clear RD PS2 hs hb2 PS1 BW1 FIT IN RS IV mm
        go_wp2
        go_ret
        exact FI.out
    · have bo := alloc_below wr (.cells #[.int .i64 2, .int .i64 x_, .int .i64 y_, .int .i64 k_, .int .i64 t_] 49)
      have RO := hide (Rec.new wr [.int .i64 2, .int .i64 x_, .int .i64 y_, .int .i64 k_, .int .i64 t_] 49)
      have PS1 := hide (PS.out.below bo)
      have BW1 := hide (BW.out.trans (bo.mono LLO.out))
      have mm := get_m x_ y_ k_ t_
      clear bo PS BW
      go_wp2_with fail
      refine (of_get x_ y_ k_ t_ _).mono ?_
      rintro e u1 ⟨rfl, hb1⟩
      replace BW1 := hide (BW1.out.trans (hb1.mono PS1.out.lu))
      replace PS1 := hide (PS1.out.below hb1)
      clear hb1 RO q0 q1 q2 q3 q4
      go_wp2_with fail
      refine (step_get _ _ _ _ _ _ _ _ _ _ _ PS1.out x_ y_ k_ t_ FIT.out).mono ?_
      rintro e u2 (⟨m1, n1, hs, rfl, ⟨c2, PS2⟩, hb2⟩ | ⟨t, hs, ht, rfl, ⟨c2, PS2⟩, hb2⟩ | ⟨t, m1, hs, ht, hcn, rfl, ⟨c2, PS2⟩, hb2⟩)
      · have bo := alloc_below u2 (.cells #[.int .i64 n1] 3)
        have CN : (u2.alloc (.cells #[.int .i64 n1] 3)).cell? ((⟨u2.heap.size, 0, none⟩ : Addr).add 0) = some (.int .i64 n1) := by
          rw [Go.WideShapes.add_plain]
          exact World.cell?_alloc_new u2 #[.int .i64 n1] 3 0
        obtain ⟨g9, c9, u9, hrun, ho9, hor9, hlt9, gr⟩ := run_pushI (ty := 25) (PS2.below bo).words (by rw [VL.out]; omega) (Nat.le_trans PS2.lu bo.size) ⟨u2.heap.size, 0, none⟩ n1 CN
        obtain ⟨PS9, B9, R9⟩ := Psg.push PS2 ho9 hor9 gr
        have p8 := PS2.p.cell 8 _ rfl
        have v8 := R9.cell 8 _ rfl
        have s8 := R9.soft 8
        have RS2 : Hid (R = runM ⟨bp, ln, ops, en, bx, by_, bk⟩ (ops.drop (k + 1)) m1 (vs ++ [n1])) := show _ = _ by
          rw [RS.out]
          simp only [runM]
          rw [hs]
          rfl
        have IN2 := IN.out
        rw [hs] at IN2
        have IV2 : Hid (Inv m1 (vs ++ [n1]) ∧ m1.outs.length ≤ 2000000 + (k + 1) ∧ m1.count = m.count ∧ m1.halt = m.halt) := ⟨IN2.1, by have h8 := IN2.2.1; have h9 := IV.out.2.1; simp only [] at h8; omega, (IN2.2.2 rfl).trans IV.out.2.2.1, (step_halt hs).trans IV.out.2.2.2⟩
        have VL9 : Hid ((vs ++ [n1]).length = k + 1) := show _ = _ by rw [List.length_append, VL.out]; rfl
        have LE : (vs ++ [n1]).length = vs.length + 1 := by rw [List.length_append]; rfl
        rw [← LE] at PS9 B9
        have PS3 := hide PS9
        have BW3 := hide ((BW1.out.trans hb2).trans B9)
        rw [LE] at PS3 BW3
        clear PS9 B9 R9 bo CN ho9 hor9 hlt9 gr IN2 hs hb2 PS1 BW1 FIT IN RS IV PS2 LE
        go_wp2_with (at_builtin; refine Flat.push_list rfl _ _ rfl rfl rfl hrun ?_)
        exact ⟨⟨k + 1, c9, some ⟨g9, 0, none⟩, vs ++ [n1], c2, m1, by omega, by go_num, VL9, by rw [List.length_append]; exact PS3, RS2, IV2, BW3⟩, by simp [intOf]; omega⟩
      · have RD : R = leaveM m' bp t 3 := by
          rw [RS.out]
          simp only [runM]
          rw [hs]
          rfl
        have FI := hide (E2.out t _ _ _ _ _ PS2 RD ht IV.out.2.2.1 (BW1.out.trans hb2))
        clear RD PS2 hs hb2 PS1 BW1 FIT IN RS IV mm
        go_wp2
        go_ret
        exact FI.out
      · have RD : R = leaveM m1 bp (t + 1) 0 := by
          rw [RS.out]
          simp only [runM]
          rw [hs]
          rfl
        have FI := hide (E3.out t _ _ _ _ _ PS2 RD ht ⟨hcn.1.trans IV.out.2.2.1, hcn.2.trans IV.out.2.2.2⟩ (BW1.out.trans hb2))
        clear RD PS2 hs hb2 PS1 BW1 FIT IN RS IV mm
        go_wp2
        go_ret
        exact FI.out
    · have bo := alloc_below wr (.cells #[.int .i64 3, .int .i64 x_, .int .i64 y_, .int .i64 k_, .int .i64 t_] 49)
      have RO := hide (Rec.new wr [.int .i64 3, .int .i64 x_, .int .i64 y_, .int .i64 k_, .int .i64 t_] 49)
      have PS1 := hide (PS.out.below bo)
      have BW1 := hide (BW.out.trans (bo.mono LLO.out))
      have mm := do_m x_ y_ k_ t_
      clear bo PS BW
      go_wp2_with fail
      refine (of_do x_ y_ k_ t_ _).mono ?_
      rintro e u1 ⟨rfl, hb1⟩
      replace BW1 := hide (BW1.out.trans (hb1.mono PS1.out.lu))
      replace PS1 := hide (PS1.out.below hb1)
      clear hb1 RO q0 q1 q2 q3 q4
      go_wp2_with fail
      refine (step_do _ _ _ _ _ _ _ _ _ _ _ PS1.out x_ y_ k_ t_ FIT.out).mono ?_
      rintro e u2 (⟨m1, n1, hs, rfl, ⟨c2, PS2⟩, hb2⟩ | ⟨t, hs, ht, rfl, ⟨c2, PS2⟩, hb2⟩ | ⟨t, m1, hs, ht, hcn, rfl, ⟨c2, PS2⟩, hb2⟩)
      · have bo := alloc_below u2 (.cells #[.int .i64 n1] 3)
        have CN : (u2.alloc (.cells #[.int .i64 n1] 3)).cell? ((⟨u2.heap.size, 0, none⟩ : Addr).add 0) = some (.int .i64 n1) := by
          rw [Go.WideShapes.add_plain]
          exact World.cell?_alloc_new u2 #[.int .i64 n1] 3 0
        obtain ⟨g9, c9, u9, hrun, ho9, hor9, hlt9, gr⟩ := run_pushI (ty := 25) (PS2.below bo).words (by rw [VL.out]; omega) (Nat.le_trans PS2.lu bo.size) ⟨u2.heap.size, 0, none⟩ n1 CN
        obtain ⟨PS9, B9, R9⟩ := Psg.push PS2 ho9 hor9 gr
        have p8 := PS2.p.cell 8 _ rfl
        have v8 := R9.cell 8 _ rfl
        have s8 := R9.soft 8
        have RS2 : Hid (R = runM ⟨bp, ln, ops, en, bx, by_, bk⟩ (ops.drop (k + 1)) m1 (vs ++ [n1])) := show _ = _ by
          rw [RS.out]
          simp only [runM]
          rw [hs]
          rfl
        have IN2 := IN.out
        rw [hs] at IN2
        have IV2 : Hid (Inv m1 (vs ++ [n1]) ∧ m1.outs.length ≤ 2000000 + (k + 1) ∧ m1.count = m.count ∧ m1.halt = m.halt) := ⟨IN2.1, by have h8 := IN2.2.1; have h9 := IV.out.2.1; simp only [] at h8; omega, (IN2.2.2 rfl).trans IV.out.2.2.1, (step_halt hs).trans IV.out.2.2.2⟩
        have VL9 : Hid ((vs ++ [n1]).length = k + 1) := show _ = _ by rw [List.length_append, VL.out]; rfl
        have LE : (vs ++ [n1]).length = vs.length + 1 := by rw [List.length_append]; rfl
        rw [← LE] at PS9 B9
        have PS3 := hide PS9
        have BW3 := hide ((BW1.out.trans hb2).trans B9)
        rw [LE] at PS3 BW3
        clear PS9 B9 R9 bo CN ho9 hor9 hlt9 gr IN2 hs hb2 PS1 BW1 FIT IN RS IV PS2 LE
        go_wp2_with (at_builtin; refine Flat.push_list rfl _ _ rfl rfl rfl hrun ?_)
        exact ⟨⟨k + 1, c9, some ⟨g9, 0, none⟩, vs ++ [n1], c2, m1, by omega, by go_num, VL9, by rw [List.length_append]; exact PS3, RS2, IV2, BW3⟩, by simp [intOf]; omega⟩
      · have RD : R = leaveM m' bp t 3 := by
          rw [RS.out]
          simp only [runM]
          rw [hs]
          rfl
        have FI := hide (E2.out t _ _ _ _ _ PS2 RD ht IV.out.2.2.1 (BW1.out.trans hb2))
        clear RD PS2 hs hb2 PS1 BW1 FIT IN RS IV mm
        go_wp2
        go_ret
        exact FI.out
      · have RD : R = leaveM m1 bp (t + 1) 0 := by
          rw [RS.out]
          simp only [runM]
          rw [hs]
          rfl
        have FI := hide (E3.out t _ _ _ _ _ PS2 RD ht ⟨hcn.1.trans IV.out.2.2.1, hcn.2.trans IV.out.2.2.2⟩ (BW1.out.trans hb2))
        clear RD PS2 hs hb2 PS1 BW1 FIT IN RS IV mm
        go_wp2
        go_ret
        exact FI.out
    · have bo := alloc_below wr (.cells #[.int .i64 4, .int .i64 x_, .int .i64 y_, .int .i64 k_, .int .i64 t_] 49)
      have RO := hide (Rec.new wr [.int .i64 4, .int .i64 x_, .int .i64 y_, .int .i64 k_, .int .i64 t_] 49)
      have PS1 := hide (PS.out.below bo)
      have BW1 := hide (BW.out.trans (bo.mono LLO.out))
      have mm := load_m x_ y_ k_ t_
      clear bo PS BW
      go_wp2_with fail
      refine (of_load x_ y_ k_ t_ _).mono ?_
      rintro e u1 ⟨rfl, hb1⟩
      replace BW1 := hide (BW1.out.trans (hb1.mono PS1.out.lu))
      replace PS1 := hide (PS1.out.below hb1)
      clear hb1 RO q0 q1 q2 q3 q4
      go_wp2_with fail
      refine (step_load _ _ _ _ _ _ _ _ _ _ _ PS1.out x_ y_ k_ t_ FIT.out).mono ?_
      rintro e u2 (⟨m1, n1, hs, rfl, ⟨c2, PS2⟩, hb2⟩ | ⟨t, hs, ht, rfl, ⟨c2, PS2⟩, hb2⟩ | ⟨t, m1, hs, ht, hcn, rfl, ⟨c2, PS2⟩, hb2⟩)
      · have bo := alloc_below u2 (.cells #[.int .i64 n1] 3)
        have CN : (u2.alloc (.cells #[.int .i64 n1] 3)).cell? ((⟨u2.heap.size, 0, none⟩ : Addr).add 0) = some (.int .i64 n1) := by
          rw [Go.WideShapes.add_plain]
          exact World.cell?_alloc_new u2 #[.int .i64 n1] 3 0
        obtain ⟨g9, c9, u9, hrun, ho9, hor9, hlt9, gr⟩ := run_pushI (ty := 25) (PS2.below bo).words (by rw [VL.out]; omega) (Nat.le_trans PS2.lu bo.size) ⟨u2.heap.size, 0, none⟩ n1 CN
        obtain ⟨PS9, B9, R9⟩ := Psg.push PS2 ho9 hor9 gr
        have p8 := PS2.p.cell 8 _ rfl
        have v8 := R9.cell 8 _ rfl
        have s8 := R9.soft 8
        have RS2 : Hid (R = runM ⟨bp, ln, ops, en, bx, by_, bk⟩ (ops.drop (k + 1)) m1 (vs ++ [n1])) := show _ = _ by
          rw [RS.out]
          simp only [runM]
          rw [hs]
          rfl
        have IN2 := IN.out
        rw [hs] at IN2
        have IV2 : Hid (Inv m1 (vs ++ [n1]) ∧ m1.outs.length ≤ 2000000 + (k + 1) ∧ m1.count = m.count ∧ m1.halt = m.halt) := ⟨IN2.1, by have h8 := IN2.2.1; have h9 := IV.out.2.1; simp only [] at h8; omega, (IN2.2.2 rfl).trans IV.out.2.2.1, (step_halt hs).trans IV.out.2.2.2⟩
        have VL9 : Hid ((vs ++ [n1]).length = k + 1) := show _ = _ by rw [List.length_append, VL.out]; rfl
        have LE : (vs ++ [n1]).length = vs.length + 1 := by rw [List.length_append]; rfl
        rw [← LE] at PS9 B9
        have PS3 := hide PS9
        have BW3 := hide ((BW1.out.trans hb2).trans B9)
        rw [LE] at PS3 BW3
        clear PS9 B9 R9 bo CN ho9 hor9 hlt9 gr IN2 hs hb2 PS1 BW1 FIT IN RS IV PS2 LE
        go_wp2_with (at_builtin; refine Flat.push_list rfl _ _ rfl rfl rfl hrun ?_)
        exact ⟨⟨k + 1, c9, some ⟨g9, 0, none⟩, vs ++ [n1], c2, m1, by omega, by go_num, VL9, by rw [List.length_append]; exact PS3, RS2, IV2, BW3⟩, by simp [intOf]; omega⟩
      · have RD : R = leaveM m' bp t 3 := by
          rw [RS.out]
          simp only [runM]
          rw [hs]
          rfl
        have FI := hide (E2.out t _ _ _ _ _ PS2 RD ht IV.out.2.2.1 (BW1.out.trans hb2))
        clear RD PS2 hs hb2 PS1 BW1 FIT IN RS IV mm
        go_wp2
        go_ret
        exact FI.out
      · have RD : R = leaveM m1 bp (t + 1) 0 := by
          rw [RS.out]
          simp only [runM]
          rw [hs]
          rfl
        have FI := hide (E3.out t _ _ _ _ _ PS2 RD ht ⟨hcn.1.trans IV.out.2.2.1, hcn.2.trans IV.out.2.2.2⟩ (BW1.out.trans hb2))
        clear RD PS2 hs hb2 PS1 BW1 FIT IN RS IV mm
        go_wp2
        go_ret
        exact FI.out
    · have bo := alloc_below wr (.cells #[.int .i64 5, .int .i64 x_, .int .i64 y_, .int .i64 k_, .int .i64 t_] 49)
      have RO := hide (Rec.new wr [.int .i64 5, .int .i64 x_, .int .i64 y_, .int .i64 k_, .int .i64 t_] 49)
      have PS1 := hide (PS.out.below bo)
      have BW1 := hide (BW.out.trans (bo.mono LLO.out))
      have mm := store_m x_ y_ k_ t_
      clear bo PS BW
      go_wp2_with fail
      refine (of_store x_ y_ k_ t_ _).mono ?_
      rintro e u1 ⟨rfl, hb1⟩
      replace BW1 := hide (BW1.out.trans (hb1.mono PS1.out.lu))
      replace PS1 := hide (PS1.out.below hb1)
      clear hb1 RO q0 q1 q2 q3 q4
      go_wp2_with fail
      refine (step_store _ _ _ _ _ _ _ _ _ _ _ PS1.out x_ y_ k_ t_ FIT.out).mono ?_
      rintro e u2 (⟨m1, n1, hs, rfl, ⟨c2, PS2⟩, hb2⟩ | ⟨t, hs, ht, rfl, ⟨c2, PS2⟩, hb2⟩ | ⟨t, m1, hs, ht, hcn, rfl, ⟨c2, PS2⟩, hb2⟩)
      · have bo := alloc_below u2 (.cells #[.int .i64 n1] 3)
        have CN : (u2.alloc (.cells #[.int .i64 n1] 3)).cell? ((⟨u2.heap.size, 0, none⟩ : Addr).add 0) = some (.int .i64 n1) := by
          rw [Go.WideShapes.add_plain]
          exact World.cell?_alloc_new u2 #[.int .i64 n1] 3 0
        obtain ⟨g9, c9, u9, hrun, ho9, hor9, hlt9, gr⟩ := run_pushI (ty := 25) (PS2.below bo).words (by rw [VL.out]; omega) (Nat.le_trans PS2.lu bo.size) ⟨u2.heap.size, 0, none⟩ n1 CN
        obtain ⟨PS9, B9, R9⟩ := Psg.push PS2 ho9 hor9 gr
        have p8 := PS2.p.cell 8 _ rfl
        have v8 := R9.cell 8 _ rfl
        have s8 := R9.soft 8
        have RS2 : Hid (R = runM ⟨bp, ln, ops, en, bx, by_, bk⟩ (ops.drop (k + 1)) m1 (vs ++ [n1])) := show _ = _ by
          rw [RS.out]
          simp only [runM]
          rw [hs]
          rfl
        have IN2 := IN.out
        rw [hs] at IN2
        have IV2 : Hid (Inv m1 (vs ++ [n1]) ∧ m1.outs.length ≤ 2000000 + (k + 1) ∧ m1.count = m.count ∧ m1.halt = m.halt) := ⟨IN2.1, by have h8 := IN2.2.1; have h9 := IV.out.2.1; simp only [] at h8; omega, (IN2.2.2 rfl).trans IV.out.2.2.1, (step_halt hs).trans IV.out.2.2.2⟩
        have VL9 : Hid ((vs ++ [n1]).length = k + 1) := show _ = _ by rw [List.length_append, VL.out]; rfl
        have LE : (vs ++ [n1]).length = vs.length + 1 := by rw [List.length_append]; rfl
        rw [← LE] at PS9 B9
        have PS3 := hide PS9
        have BW3 := hide ((BW1.out.trans hb2).trans B9)
        rw [LE] at PS3 BW3
        clear PS9 B9 R9 bo CN ho9 hor9 hlt9 gr IN2 hs hb2 PS1 BW1 FIT IN RS IV PS2 LE
        go_wp2_with (at_builtin; refine Flat.push_list rfl _ _ rfl rfl rfl hrun ?_)
        exact ⟨⟨k + 1, c9, some ⟨g9, 0, none⟩, vs ++ [n1], c2, m1, by omega, by go_num, VL9, by rw [List.length_append]; exact PS3, RS2, IV2, BW3⟩, by simp [intOf]; omega⟩
      · have RD : R = leaveM m' bp t 3 := by
          rw [RS.out]
          simp only [runM]
          rw [hs]
          rfl
        have FI := hide (E2.out t _ _ _ _ _ PS2 RD ht IV.out.2.2.1 (BW1.out.trans hb2))
        clear RD PS2 hs hb2 PS1 BW1 FIT IN RS IV mm
        go_wp2
        go_ret
        exact FI.out
      · have RD : R = leaveM m1 bp (t + 1) 0 := by
          rw [RS.out]
          simp only [runM]
          rw [hs]
          rfl
        have FI := hide (E3.out t _ _ _ _ _ PS2 RD ht ⟨hcn.1.trans IV.out.2.2.1, hcn.2.trans IV.out.2.2.2⟩ (BW1.out.trans hb2))
        clear RD PS2 hs hb2 PS1 BW1 FIT IN RS IV mm
        go_wp2
        go_ret
        exact FI.out
    · have bo := alloc_below wr (.cells #[.int .i64 6, .int .i64 x_, .int .i64 y_, .int .i64 k_, .int .i64 t_] 49)
      have RO := hide (Rec.new wr [.int .i64 6, .int .i64 x_, .int .i64 y_, .int .i64 k_, .int .i64 t_] 49)
      have PS1 := hide (PS.out.below bo)
      have BW1 := hide (BW.out.trans (bo.mono LLO.out))
      have mm := in_m x_ y_ k_ t_
      clear bo PS BW
      go_wp2_with fail
      refine (of_in x_ y_ k_ t_ _).mono ?_
      rintro e u1 ⟨rfl, hb1⟩
      replace BW1 := hide (BW1.out.trans (hb1.mono PS1.out.lu))
      replace PS1 := hide (PS1.out.below hb1)
      clear hb1 RO q0 q1 q2 q3 q4
      go_wp2_with fail
      refine (step_in _ _ _ _ _ _ _ _ _ _ _ PS1.out x_ y_ k_ t_ FIT.out).mono ?_
      rintro e u2 (⟨m1, n1, hs, rfl, ⟨c2, PS2⟩, hb2⟩ | ⟨t, hs, ht, rfl, ⟨c2, PS2⟩, hb2⟩ | ⟨t, m1, hs, ht, hcn, rfl, ⟨c2, PS2⟩, hb2⟩)
      · have bo := alloc_below u2 (.cells #[.int .i64 n1] 3)
        have CN : (u2.alloc (.cells #[.int .i64 n1] 3)).cell? ((⟨u2.heap.size, 0, none⟩ : Addr).add 0) = some (.int .i64 n1) := by
          rw [Go.WideShapes.add_plain]
          exact World.cell?_alloc_new u2 #[.int .i64 n1] 3 0
        obtain ⟨g9, c9, u9, hrun, ho9, hor9, hlt9, gr⟩ := run_pushI (ty := 25) (PS2.below bo).words (by rw [VL.out]; omega) (Nat.le_trans PS2.lu bo.size) ⟨u2.heap.size, 0, none⟩ n1 CN
        obtain ⟨PS9, B9, R9⟩ := Psg.push PS2 ho9 hor9 gr
        have p8 := PS2.p.cell 8 _ rfl
        have v8 := R9.cell 8 _ rfl
        have s8 := R9.soft 8
        have RS2 : Hid (R = runM ⟨bp, ln, ops, en, bx, by_, bk⟩ (ops.drop (k + 1)) m1 (vs ++ [n1])) := show _ = _ by
          rw [RS.out]
          simp only [runM]
          rw [hs]
          rfl
        have IN2 := IN.out
        rw [hs] at IN2
        have IV2 : Hid (Inv m1 (vs ++ [n1]) ∧ m1.outs.length ≤ 2000000 + (k + 1) ∧ m1.count = m.count ∧ m1.halt = m.halt) := ⟨IN2.1, by have h8 := IN2.2.1; have h9 := IV.out.2.1; simp only [] at h8; omega, (IN2.2.2 rfl).trans IV.out.2.2.1, (step_halt hs).trans IV.out.2.2.2⟩
        have VL9 : Hid ((vs ++ [n1]).length = k + 1) := show _ = _ by rw [List.length_append, VL.out]; rfl
        have LE : (vs ++ [n1]).length = vs.length + 1 := by rw [List.length_append]; rfl
        rw [← LE] at PS9 B9
        have PS3 := hide PS9
        have BW3 := hide ((BW1.out.trans hb2).trans B9)
        rw [LE] at PS3 BW3
        clear PS9 B9 R9 bo CN ho9 hor9 hlt9 gr IN2 hs hb2 PS1 BW1 FIT IN RS IV PS2 LE
        go_wp2_with (at_builtin; refine Flat.push_list rfl _ _ rfl rfl rfl hrun ?_)
        exact ⟨⟨k + 1, c9, some ⟨g9, 0, none⟩, vs ++ [n1], c2, m1, by omega, by go_num, VL9, by rw [List.length_append]; exact PS3, RS2, IV2, BW3⟩, by simp [intOf]; omega⟩
      · have RD : R = leaveM m' bp t 3 := by
          rw [RS.out]
          simp only [runM]
          rw [hs]
          rfl
        have FI := hide (E2.out t _ _ _ _ _ PS2 RD ht IV.out.2.2.1 (BW1.out.trans hb2))
        clear RD PS2 hs hb2 PS1 BW1 FIT IN RS IV mm
        go_wp2
        go_ret
        exact FI.out
      · have RD : R = leaveM m1 bp (t + 1) 0 := by
          rw [RS.out]
          simp only [runM]
          rw [hs]
          rfl
        have FI := hide (E3.out t _ _ _ _ _ PS2 RD ht ⟨hcn.1.trans IV.out.2.2.1, hcn.2.trans IV.out.2.2.2⟩ (BW1.out.trans hb2))
        clear RD PS2 hs hb2 PS1 BW1 FIT IN RS IV mm
        go_wp2
        go_ret
        exact FI.out
    · have bo := alloc_below wr (.cells #[.int .i64 7, .int .i64 x_, .int .i64 y_, .int .i64 k_, .int .i64 t_] 49)
      have RO := hide (Rec.new wr [.int .i64 7, .int .i64 x_, .int .i64 y_, .int .i64 k_, .int .i64 t_] 49)
      have PS1 := hide (PS.out.below bo)
      have BW1 := hide (BW.out.trans (bo.mono LLO.out))
      have mm := out_m x_ y_ k_ t_
      clear bo PS BW
      go_wp2_with fail
      refine (of_out x_ y_ k_ t_ _).mono ?_
      rintro e u1 ⟨rfl, hb1⟩
      replace BW1 := hide (BW1.out.trans (hb1.mono PS1.out.lu))
      replace PS1 := hide (PS1.out.below hb1)
      clear hb1 RO q0 q1 q2 q3 q4
      go_wp2_with fail
      refine (step_out _ _ _ _ _ _ _ _ _ _ _ PS1.out x_ y_ k_ t_ FIT.out).mono ?_
      rintro e u2 (⟨m1, n1, hs, rfl, ⟨c2, PS2⟩, hb2⟩ | ⟨t, hs, ht, rfl, ⟨c2, PS2⟩, hb2⟩ | ⟨t, m1, hs, ht, hcn, rfl, ⟨c2, PS2⟩, hb2⟩)
      · have bo := alloc_below u2 (.cells #[.int .i64 n1] 3)
        have CN : (u2.alloc (.cells #[.int .i64 n1] 3)).cell? ((⟨u2.heap.size, 0, none⟩ : Addr).add 0) = some (.int .i64 n1) := by
          rw [Go.WideShapes.add_plain]
          exact World.cell?_alloc_new u2 #[.int .i64 n1] 3 0
        obtain ⟨g9, c9, u9, hrun, ho9, hor9, hlt9, gr⟩ := run_pushI (ty := 25) (PS2.below bo).words (by rw [VL.out]; omega) (Nat.le_trans PS2.lu bo.size) ⟨u2.heap.size, 0, none⟩ n1 CN
        obtain ⟨PS9, B9, R9⟩ := Psg.push PS2 ho9 hor9 gr
        have p8 := PS2.p.cell 8 _ rfl
        have v8 := R9.cell 8 _ rfl
        have s8 := R9.soft 8
        have RS2 : Hid (R = runM ⟨bp, ln, ops, en, bx, by_, bk⟩ (ops.drop (k + 1)) m1 (vs ++ [n1])) := show _ = _ by
          rw [RS.out]
          simp only [runM]
          rw [hs]
          rfl
        have IN2 := IN.out
        rw [hs] at IN2
        have IV2 : Hid (Inv m1 (vs ++ [n1]) ∧ m1.outs.length ≤ 2000000 + (k + 1) ∧ m1.count = m.count ∧ m1.halt = m.halt) := ⟨IN2.1, by have h8 := IN2.2.1; have h9 := IV.out.2.1; simp only [] at h8; omega, (IN2.2.2 rfl).trans IV.out.2.2.1, (step_halt hs).trans IV.out.2.2.2⟩
        have VL9 : Hid ((vs ++ [n1]).length = k + 1) := show _ = _ by rw [List.length_append, VL.out]; rfl
        have LE : (vs ++ [n1]).length = vs.length + 1 := by rw [List.length_append]; rfl
        rw [← LE] at PS9 B9
        have PS3 := hide PS9
        have BW3 := hide ((BW1.out.trans hb2).trans B9)
        rw [LE] at PS3 BW3
        clear PS9 B9 R9 bo CN ho9 hor9 hlt9 gr IN2 hs hb2 PS1 BW1 FIT IN RS IV PS2 LE
        go_wp2_with (at_builtin; refine Flat.push_list rfl _ _ rfl rfl rfl hrun ?_)
        exact ⟨⟨k + 1, c9, some ⟨g9, 0, none⟩, vs ++ [n1], c2, m1, by omega, by go_num, VL9, by rw [List.length_append]; exact PS3, RS2, IV2, BW3⟩, by simp [intOf]; omega⟩
      · have RD : R = leaveM m' bp t 3 := by
          rw [RS.out]
          simp only [runM]
          rw [hs]
          rfl
        have FI := hide (E2.out t _ _ _ _ _ PS2 RD ht IV.out.2.2.1 (BW1.out.trans hb2))
        clear RD PS2 hs hb2 PS1 BW1 FIT IN RS IV mm
        go_wp2
        go_ret
        exact FI.out
      · have RD : R = leaveM m1 bp (t + 1) 0 := by
          rw [RS.out]
          simp only [runM]
          rw [hs]
          rfl
        have FI := hide (E3.out t _ _ _ _ _ PS2 RD ht ⟨hcn.1.trans IV.out.2.2.1, hcn.2.trans IV.out.2.2.2⟩ (BW1.out.trans hb2))
        clear RD PS2 hs hb2 PS1 BW1 FIT IN RS IV mm
        go_wp2
        go_ret
        exact FI.out
    · have bo := alloc_below wr (.cells #[.int .i64 8, .int .i64 x_, .int .i64 y_, .int .i64 k_, .int .i64 t_] 49)
      have RO := hide (Rec.new wr [.int .i64 8, .int .i64 x_, .int .i64 y_, .int .i64 k_, .int .i64 t_] 49)
      have PS1 := hide (PS.out.below bo)
      have BW1 := hide (BW.out.trans (bo.mono LLO.out))
      have mm := set_m x_ y_ k_ t_
      clear bo PS BW
      go_wp2_with fail
      refine (of_set x_ y_ k_ t_ _).mono ?_
      rintro e u1 ⟨rfl, hb1⟩
      replace BW1 := hide (BW1.out.trans (hb1.mono PS1.out.lu))
      replace PS1 := hide (PS1.out.below hb1)
      clear hb1 RO q0 q1 q2 q3 q4
      go_wp2_with fail
      refine (step_set _ _ _ _ _ _ _ _ _ _ _ PS1.out x_ y_ k_ t_ FIT.out).mono ?_
      rintro e u2 (⟨m1, n1, hs, rfl, ⟨c2, PS2⟩, hb2⟩ | ⟨t, hs, ht, rfl, ⟨c2, PS2⟩, hb2⟩ | ⟨t, m1, hs, ht, hcn, rfl, ⟨c2, PS2⟩, hb2⟩)
      · have bo := alloc_below u2 (.cells #[.int .i64 n1] 3)
        have CN : (u2.alloc (.cells #[.int .i64 n1] 3)).cell? ((⟨u2.heap.size, 0, none⟩ : Addr).add 0) = some (.int .i64 n1) := by
          rw [Go.WideShapes.add_plain]
          exact World.cell?_alloc_new u2 #[.int .i64 n1] 3 0
        obtain ⟨g9, c9, u9, hrun, ho9, hor9, hlt9, gr⟩ := run_pushI (ty := 25) (PS2.below bo).words (by rw [VL.out]; omega) (Nat.le_trans PS2.lu bo.size) ⟨u2.heap.size, 0, none⟩ n1 CN
        obtain ⟨PS9, B9, R9⟩ := Psg.push PS2 ho9 hor9 gr
        have p8 := PS2.p.cell 8 _ rfl
        have v8 := R9.cell 8 _ rfl
        have s8 := R9.soft 8
        have RS2 : Hid (R = runM ⟨bp, ln, ops, en, bx, by_, bk⟩ (ops.drop (k + 1)) m1 (vs ++ [n1])) := show _ = _ by
          rw [RS.out]
          simp only [runM]
          rw [hs]
          rfl
        have IN2 := IN.out
        rw [hs] at IN2
        have IV2 : Hid (Inv m1 (vs ++ [n1]) ∧ m1.outs.length ≤ 2000000 + (k + 1) ∧ m1.count = m.count ∧ m1.halt = m.halt) := ⟨IN2.1, by have h8 := IN2.2.1; have h9 := IV.out.2.1; simp only [] at h8; omega, (IN2.2.2 rfl).trans IV.out.2.2.1, (step_halt hs).trans IV.out.2.2.2⟩
        have VL9 : Hid ((vs ++ [n1]).length = k + 1) := show _ = _ by rw [List.length_append, VL.out]; rfl
        have LE : (vs ++ [n1]).length = vs.length + 1 := by rw [List.length_append]; rfl
        rw [← LE] at PS9 B9
        have PS3 := hide PS9
        have BW3 := hide ((BW1.out.trans hb2).trans B9)
        rw [LE] at PS3 BW3
        clear PS9 B9 R9 bo CN ho9 hor9 hlt9 gr IN2 hs hb2 PS1 BW1 FIT IN RS IV PS2 LE
        go_wp2_with (at_builtin; refine Flat.push_list rfl _ _ rfl rfl rfl hrun ?_)
        exact ⟨⟨k + 1, c9, some ⟨g9, 0, none⟩, vs ++ [n1], c2, m1, by omega, by go_num, VL9, by rw [List.length_append]; exact PS3, RS2, IV2, BW3⟩, by simp [intOf]; omega⟩
      · have RD : R = leaveM m' bp t 3 := by
          rw [RS.out]
          simp only [runM]
          rw [hs]
          rfl
        have FI := hide (E2.out t _ _ _ _ _ PS2 RD ht IV.out.2.2.1 (BW1.out.trans hb2))
        clear RD PS2 hs hb2 PS1 BW1 FIT IN RS IV mm
        go_wp2
        go_ret
        exact FI.out
      · have RD : R = leaveM m1 bp (t + 1) 0 := by
          rw [RS.out]
          simp only [runM]
          rw [hs]
          rfl
        have FI := hide (E3.out t _ _ _ _ _ PS2 RD ht ⟨hcn.1.trans IV.out.2.2.1, hcn.2.trans IV.out.2.2.2⟩ (BW1.out.trans hb2))
        clear RD PS2 hs hb2 PS1 BW1 FIT IN RS IV mm
        go_wp2
        go_ret
        exact FI.out
end Go.Proofs.YtaokopipgolmbaaGreatDoor.Ir
