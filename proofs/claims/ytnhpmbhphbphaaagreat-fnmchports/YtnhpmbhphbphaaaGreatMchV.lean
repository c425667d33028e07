/-
  The specification's l3Do whole, and MchStep.
-/
import Derived.Test.YtnhpmbhphbphaaaGreatMchU
import Derived.Test.YtnhpmbhphbphaaaGreatMchO
import Derived.Test.YtnhpmbhphbphaaaGreatJnM
namespace Go.Proofs.YtnhpmbhphbphaaaGreat.Mch
open Go.ChangeShapes Go.WideShapes Go.ChangeAt Go.RowKit IntS
theorem ok_parts {op d a k : Int} (h : Ins.okB op d a k = true) : (0 ≤ op ∧ op ≤ 15) ∧ (0 ≤ d ∧ d ≤ 3) ∧ (0 ≤ a ∧ a ≤ 3) ∧ (0 ≤ k ∧ k ≤ 255) ∧ Ins.formB op d a k = true := by
  unfold Ins.okB at h
  simp only [Bool.and_eq_true] at h
  exact ⟨Ins.inB_t h.1.1.1.1, Ins.inB_t h.1.1.1.2, Ins.inB_t h.1.1.2, Ins.inB_t h.1.2, h.2⟩
theorem form_stop {d a k : Int} (h : Ins.formB 0 d a k = true) : k ≤ 3 := by
  unfold Ins.formB at h
  rw [if_pos rfl] at h
  exact (of_decide_eq_true h).2.2
theorem form_reck {op d a k : Int} (h0 : 3 ≤ op) (h1 : op ≤ 7) (h : Ins.formB op d a k = true) : k < 4 := by
  unfold Ins.formB at h
  rw [if_neg (by omega), if_neg (by omega), if_neg (by omega), if_pos ⟨h0, h1⟩] at h
  exact of_decide_eq_true h
theorem form_shift {d a k : Int} (h : Ins.formB 8 d a k = true) : k < 16 := by
  unfold Ins.formB at h
  rw [if_neg (by omega), if_neg (by omega), if_neg (by omega), if_neg (by omega), if_pos rfl] at h
  exact of_decide_eq_true h
theorem l3Do (m : M) (op d a k : Int) (lo : Nat) (c : List Value) (w : World) (h : CMach w lo c m) (hlo : lo ≤ w.heap.size) (hf : Fit m) (hl9 : m.outs.length ≤ 1000000000) (hok : Ins.okB op d a k = true) :
    Calls Tryz.prog 39 #[.agg c.toArray, .agg #[.int .i64 op, .int .i64 d, .int .i64 a, .int .i64 k]] w fun e w' => ∃ c', e = .returned (.agg c'.toArray) ∧ CMach w' lo c' (doM m op d.toNat a.toNat k) ∧ Ints lo w w' := by
  obtain ⟨⟨op0, op1⟩, ⟨d0, d1⟩, ⟨a0, a1⟩, ⟨k0, k1⟩, hform⟩ := ok_parts hok
  clear hok
  obtain ⟨d, rfl⟩ : ∃ n : Nat, d = n := ⟨d.toNat, (Int.toNat_of_nonneg d0).symm⟩
  obtain ⟨a, rfl⟩ : ∃ n : Nat, a = n := ⟨a.toNat, (Int.toNat_of_nonneg a0).symm⟩
  rw [Int.toNat_natCast, Int.toNat_natCast]
  have hd : d < 4 := by omega
  have ha : a < 4 := by omega
  obtain rfl | rfl | rfl | rfl | rfl | rfl | rfl | rfl | rfl | rfl | rfl | rfl | rfl | rfl | rfl | rfl : op = 0 ∨ op = 1 ∨ op = 2 ∨ op = 3 ∨ op = 4 ∨ op = 5 ∨ op = 6 ∨ op = 7 ∨ op = 8 ∨ op = 9 ∨ op = 10 ∨ op = 11 ∨ op = 12 ∨ op = 13 ∨ op = 14 ∨ op = 15 := by omega
  · have k3 := form_stop hform
    obtain rfl | rfl | rfl | rfl : k = 0 ∨ k = 1 ∨ k = 2 ∨ k = 3 := by omega
    · exact l3Do_00 m d a lo c w h hf hd ha
    · exact l3Do_01 m d a lo c w h hf hd ha
    · exact l3Do_02 m d a lo c w h hf hd ha
    · exact l3Do_03 m d a lo c w h hf hd ha
  · exact l3Do_1 m d a k lo c w h hf hd ha
  · exact l3Do_2 m d a k lo c w h hf hd ha
  · have k3 := form_reck (by decide) (by decide) hform
    obtain ⟨k, rfl⟩ : ∃ n : Nat, k = n := ⟨k.toNat, (Int.toNat_of_nonneg k0).symm⟩
    exact l3Do_3 m d a k lo c w h hf hd ha (by omega)
  · have k3 := form_reck (by decide) (by decide) hform
    obtain ⟨k, rfl⟩ : ∃ n : Nat, k = n := ⟨k.toNat, (Int.toNat_of_nonneg k0).symm⟩
    exact l3Do_4 m d a k lo c w h hf hd ha (by omega)
  · have k3 := form_reck (by decide) (by decide) hform
    obtain ⟨k, rfl⟩ : ∃ n : Nat, k = n := ⟨k.toNat, (Int.toNat_of_nonneg k0).symm⟩
    exact l3Do_5 m d a k lo c w h hf hd ha (by omega)
  · have k3 := form_reck (by decide) (by decide) hform
    obtain ⟨k, rfl⟩ : ∃ n : Nat, k = n := ⟨k.toNat, (Int.toNat_of_nonneg k0).symm⟩
    exact l3Do_6 m d a k lo c w h hf hd ha (by omega)
  · have k3 := form_reck (by decide) (by decide) hform
    obtain ⟨k, rfl⟩ : ∃ n : Nat, k = n := ⟨k.toNat, (Int.toNat_of_nonneg k0).symm⟩
    exact l3Do_7 m d a k lo c w h hf hd ha (by omega)
  · have k3 := form_shift hform
    obtain ⟨k, rfl⟩ : ∃ n : Nat, k = n := ⟨k.toNat, (Int.toNat_of_nonneg k0).symm⟩
    exact l3Do_8 m d a k lo c w h hf hd ha (by omega)
  · by_cases hn : 64 ≤ (m.regs.getD a 0 + k) % 65536
    · exact l3Do_9no m d a k lo c w h hf hd ha k0 k1 hn
    · exact l3Do_9yes m d a k lo c w h hf hd ha k0 k1 hn
  · by_cases hn : 64 ≤ (m.regs.getD a 0 + k) % 65536
    · exact l3Do_10no m d a k lo c w h hf hd ha k0 k1 hn
    · exact l3Do_10yes m d a k lo c w h hf hd ha k0 k1 hn
  · by_cases hq : m.regs.getD d 0 = m.regs.getD a 0
    · exact l3Do_11t m d a k lo c w h hf hd ha hq
    · exact l3Do_11f m d a k lo c w h hf hd ha hq
  · by_cases hq : m.regs.getD d 0 < m.regs.getD a 0
    · exact l3Do_12t m d a k lo c w h hf hd ha hq
    · exact l3Do_12f m d a k lo c w h hf hd ha hq
  · exact l3Do_13 m d a k lo c w h hf hd ha
  · exact l3Do_14 m d a k lo c w h hf hd ha hlo hl9
  · exact l3Do_15 m d a k lo c w h hf hd ha
/-- A step of a machine. -/
def stepM (m : M) (irq : Bool) : M :=
  if okM m = false then emptyM
  else if m.halt ≠ 0 ∨ m.count = 1000000 then m
  else if 64 ≤ (sampleM m irq).pc then haltM (sampleM m irq) 4
  else if Ins.takeB ((sampleM m irq).mem.getD (sampleM m irq).pc.toNat 0) then
    doM (sampleM m irq) ((sampleM m irq).mem.getD (sampleM m irq).pc.toNat 0 / 4096) ((sampleM m irq).mem.getD (sampleM m irq).pc.toNat 0 / 1024 % 4).toNat ((sampleM m irq).mem.getD (sampleM m irq).pc.toNat 0 / 256 % 4).toNat ((sampleM m irq).mem.getD (sampleM m irq).pc.toNat 0 % 256)
  else haltM (sampleM m irq) 2
theorem words_at {xs : List Int} (h : wordsB xs = true) (i : Nat) (x : Int) (hx : xs[i]? = some x) : 0 ≤ x ∧ x < 65536 := by
  unfold wordsB at h
  rw [List.all_eq_true] at h
  have := h x (List.mem_of_getElem? hx)
  unfold Wrd.wok at this
  exact of_decide_eq_true this
structure OkM (m : M) : Prop where
  regs : m.regs.length = 4
  mem : m.mem.length = 64
  wr : wordsB m.regs = true
  wm : wordsB m.mem = true
  wi : wordsB m.ins = true
  wo : wordsB m.outs = true
  p : 0 ≤ m.pc ∧ m.pc < 65536
  s : 0 ≤ m.save ∧ m.save < 65536
  h : 0 ≤ m.halt ∧ m.halt ≤ 4
  c : 0 ≤ m.count ∧ m.count ≤ 1000000
theorem okM_of {m : M} (h : okM m = true) : OkM m := by
  unfold okM at h
  simp only [Bool.and_eq_true, decide_eq_true_eq] at h
  obtain ⟨⟨⟨⟨⟨⟨⟨⟨⟨h1, h2⟩, h3⟩, h4⟩, h5⟩, h6⟩, h7⟩, h8⟩, h9⟩, h10⟩ := h
  exact ⟨h1, h4, h2, h5, h8, h9, of_decide_eq_true h3, of_decide_eq_true h6, Ins.inB_t h7, Ins.inB_t h10⟩
theorem OkM.fit {m : M} (h : OkM m) : Fit m := ⟨h.regs, h.mem, words_at h.wr, words_at h.wm, h.p.1, h.p.2, h.c.1, h.c.2⟩
theorem sample_form (regs mem ins outs : List Int) (pc save halt count : Int) (lets waits irq : Bool) (p : 0 ≤ pc ∧ pc < 65536) : ∃ pc2 save2 lets2 waits2, sampleM ⟨regs, pc, mem, save, lets, waits, halt, ins, outs, count⟩ irq = ⟨regs, pc2, mem, save2, lets2, waits2, halt, ins, outs, count⟩ ∧ (0 ≤ pc2 ∧ pc2 < 65536) ∧
    ∀ (q1 q2 q3 q4 : Option Addr) (n1 n2 n3 n4 j1 j2 j3 j4 : Nat), sampleC q1 q2 q3 q4 n1 n2 n3 n4 j1 j2 j3 j4 pc save halt count lets waits irq = #[.slice q1 n1 j1, .int .i64 pc2, .slice q2 n2 j2, .int .i64 save2, .bool lets2, .bool waits2, .int .i64 halt, .slice q3 n3 j3, .slice q4 n4 j4, .int .i64 count] := by
  unfold sampleM sampleC
  simp only []
  by_cases hb : ((waits || irq) && lets) = true
  · rw [if_pos hb]
    exact ⟨48, pc, false, false, rfl, by omega, fun _ _ _ _ _ _ _ _ _ _ _ _ => by rw [if_pos hb]⟩
  · rw [if_neg hb]
    exact ⟨pc, save, lets, waits || irq, rfl, p, fun _ _ _ _ _ _ _ _ _ _ _ _ => by rw [if_neg hb]⟩
theorem WMach.low {w : World} {lo lo' : Nat} {c : List Value} {m : M} (h : WMach w lo c m) (hl : lo' ≤ lo) : WMach w lo' c m := by
  obtain ⟨r, e, i, o, b1, b2, b3, b4, hc, h1, h2, h3, h4, l1, l2, l3, l4, d⟩ := h
  exact ⟨r, e, i, o, b1, b2, b3, b4, hc, h1, h2, h3, h4, by omega, by omega, by omega, by omega, d⟩
theorem step_no {m : M} {irq : Bool} (h : okM m = false) : stepM m irq = emptyM := by unfold stepM; rw [if_pos h]
theorem step_still {m : M} {irq : Bool} (h : okM m = true) (h2 : m.halt ≠ 0 ∨ m.count = 1000000) : stepM m irq = m := by unfold stepM; rw [if_neg (by rw [h]; decide), if_pos h2]
theorem step_place {m x : M} {irq : Bool} (h : okM m = true) (h1 : m.halt = 0) (h2 : m.count ≠ 1000000) (hx : sampleM m irq = x) (hp : 64 ≤ x.pc) : stepM m irq = haltM x 4 := by
  unfold stepM
  rw [if_neg (by rw [h]; decide), if_neg (fun e => e.elim (fun e => e h1) h2), hx, if_pos hp]
theorem step_word {m x : M} {irq : Bool} (h : okM m = true) (h1 : m.halt = 0) (h2 : m.count ≠ 1000000) (hx : sampleM m irq = x) (hp : ¬ 64 ≤ x.pc) {t : Nat} (ht : x.pc = t) {v : Int} (hv : x.mem[t]? = some v) (hb : Ins.takeB v = false) : stepM m irq = haltM x 2 := by
  unfold stepM
  rw [if_neg (by rw [h]; decide), if_neg (fun e => e.elim (fun e => e h1) h2), hx, if_neg hp, ht, Int.toNat_natCast, getD_of hv, hb, if_neg (by decide)]
theorem step_do {m x : M} {irq : Bool} (h : okM m = true) (h1 : m.halt = 0) (h2 : m.count ≠ 1000000) (hx : sampleM m irq = x) (hp : ¬ 64 ≤ x.pc) {t : Nat} (ht : x.pc = t) {v : Int} (hv : x.mem[t]? = some v) (hb : Ins.takeB v = true) : stepM m irq = doM x (v / 4096) (v / 1024 % 4).toNat (v / 256 % 4).toNat (v % 256) := by
  unfold stepM
  rw [if_neg (by rw [h]; decide), if_neg (fun e => e.elim (fun e => e h1) h2), hx, if_neg hp, ht, Int.toNat_natCast, getD_of hv, hb, if_pos rfl]
theorem take_ok {v : Int} (h : Ins.takeB v = true) : Ins.okB (v / 4096) (v / 1024 % 4) (v / 256 % 4) (v % 256) = true := by
  unfold Ins.takeB at h
  simp only [Bool.and_eq_true] at h
  exact h.2
/-- A machine whose lists the call made, to whose registers and words let out more may be put; or none. -/
def AMach (w : World) (lo : Nat) (c : List Value) (m : M) : Prop := CMach w lo c m ∨ (c = mv emptyM (.slice none 0 0) (.slice none 0 0) (.slice none 0 0) (.slice none 0 0) ∧ m = emptyM)
theorem empty_am (w : World) (lo : Nat) : AMach w lo [.slice none 0 0, .int .i64 0, .slice none 0 0, .int .i64 0, .bool false, .bool false, .int .i64 0, .slice none 0 0, .slice none 0 0, .int .i64 0] emptyM := Or.inr ⟨rfl, rfl⟩
theorem AMach.write {w : World} {lo : Nat} {c : List Value} {m : M} (h : AMach w lo c m) : WMach w lo c m := by
  rcases h with h | ⟨rfl, rfl⟩
  · exact h.write
  · exact empty_mach w lo
theorem CMach.lowA {w : World} {lo lo' : Nat} {c : List Value} {m : M} (h : CMach w lo c m) (hl : lo' ≤ lo) : CMach w lo' c m := by
  obtain ⟨b1, b2, b3, b4, o1, o2, o3, k1, k2, k3, k4, hc, h1, h2, h3, h4, ⟨e1, e2, e3, e4⟩, r⟩ := h
  exact ⟨b1, b2, b3, b4, o1, o2, o3, k1, k2, k3, k4, hc, h1, h2, h3, h4.mono hl, ⟨by omega, by omega, by omega, by omega⟩, r⟩
theorem AMach.low {w : World} {lo lo' : Nat} {c : List Value} {m : M} (h : AMach w lo c m) (hl : lo' ≤ lo) : AMach w lo' c m := h.imp (fun h => h.lowA hl) id
theorem CMach.away {w w' : World} {lo Z : Nat} {c : List Value} {m : M} (h : CMach w lo c m) (ht : Turn Z w w') (hZ : Z < lo) : CMach w' lo c m := by
  obtain ⟨b1, b2, b3, b4, o1, o2, o3, k1, k2, k3, k4, hc, h1, h2, h3, h4, ⟨e1, e2, e3, e4⟩, hd, t1, t2, t3, t4⟩ := h
  exact ⟨b1, b2, b3, b4, o1, o2, o3, k1, k2, k3, k4, hc, h1.turn ht (by omega), h2.turn ht (by omega), h3.turn ht (by omega), h4.turn ht (by omega) t4.lt, ⟨e1, e2, e3, e4⟩, hd, t1.turn ht (by omega), t2.turn ht (by omega), t3.turn ht (by omega), t4.turn ht (by omega)⟩
theorem AMach.away {w w' : World} {lo Z : Nat} {c : List Value} {m : M} (h : AMach w lo c m) (ht : Turn Z w w') (hZ : Z < lo) : AMach w' lo c m := h.imp (fun h => h.away ht hZ) id
theorem AMach.below {w w' : World} {lo : Nat} {c : List Value} {m : M} (h : AMach w lo c m) (hb : Below w.heap.size w w') : AMach w' lo c m := h.imp (fun h => h.below hb) id
set_option maxRecDepth 8000 in
set_option maxHeartbeats 8000000 in
theorem specStepA (m : M) (irq : Bool) (c : List Value) (w : World) (h : RMach w c m) (hs : Mid m) :
    Calls Tryz.prog 17 #[.agg c.toArray, .bool irq] w fun e w' => ∃ c', e = .returned (.agg c'.toArray) ∧ AMach w' w.heap.size c' (stepM m irq) ∧ Below w.heap.size w w' := by
  obtain ⟨r, e, i, o, b1, b2, b3, b4, rfl, h1, h2, h3, h4⟩ := h
  obtain ⟨regs, pc, mem, save, lets, waits, halt, ins, outs, count⟩ := m
  have RM : RMach w (mv ⟨regs, pc, mem, save, lets, waits, halt, ins, outs, count⟩ r e i o) ⟨regs, pc, mem, save, lets, waits, halt, ins, outs, count⟩ := ⟨r, e, i, o, b1, b2, b3, b4, rfl, h1, h2, h3, h4⟩
  obtain ⟨a1, j1, _, rfl, _⟩ := h1
  obtain ⟨a2, j2, _, rfl, _⟩ := h2
  obtain ⟨a3, j3, _, rfl, _⟩ := h3
  obtain ⟨a4, j4, _, rfl, _⟩ := h4
  simp only [mv] at *
  have bV : Below w.heap.size w ((w.alloc (.cells #[.slice a1 regs.length j1, .int .i64 pc, .slice a2 mem.length j2, .int .i64 save, .bool lets, .bool waits, .int .i64 halt, .slice a3 ins.length j3, .slice a4 outs.length j4, .int .i64 count] 25)).alloc (.cells #[.slice none 0 0, .int .i64 0, .slice none 0 0, .int .i64 0, .bool false, .bool false, .int .i64 0, .slice none 0 0, .slice none 0 0, .int .i64 0] 25)) := ((Below.refl _ _).alloc (Nat.le_refl _) _).alloc (by simp) _
  have N := hide ((Box.new w [.slice a1 regs.length j1, .int .i64 pc, .slice a2 mem.length j2, .int .i64 save, .bool lets, .bool waits, .int .i64 halt, .slice a3 ins.length j3, .slice a4 outs.length j4, .int .i64 count] 25).alloc (.cells #[.slice none 0 0, .int .i64 0, .slice none 0 0, .int .i64 0, .bool false, .bool false, .int .i64 0, .slice none 0 0, .slice none 0 0, .int .i64 0] 25))
  have R0 := Box.new (w.alloc (.cells #[.slice a1 regs.length j1, .int .i64 pc, .slice a2 mem.length j2, .int .i64 save, .bool lets, .bool waits, .int .i64 halt, .slice a3 ins.length j3, .slice a4 outs.length j4, .int .i64 count] 25)) [.slice none 0 0, .int .i64 0, .slice none 0 0, .int .i64 0, .bool false, .bool false, .int .i64 0, .slice none 0 0, .slice none 0 0, .int .i64 0] 25
  rw [show (w.alloc (.cells #[.slice a1 regs.length j1, .int .i64 pc, .slice a2 mem.length j2, .int .i64 save, .bool lets, .bool waits, .int .i64 halt, .slice a3 ins.length j3, .slice a4 outs.length j4, .int .i64 count] 25)).heap.size = w.heap.size + 1 by simp] at R0
  have R := hide R0
  replace RM := hide (RM.below bV)
  have BW := hide bV
  have HS := hide hs
  have kk : w.heap.size ≤ w.heap.size + 1 := by omega
  have kn : Hid (w.heap.size + 1 ≠ w.heap.size) := by show _ ≠ _; omega
  clear bV R0 hs
  go_enter Tryz.func17, Tryz.ntmps17
  go_wp2_with fail
  generalize ((w.alloc (.cells #[.slice a1 regs.length j1, .int .i64 pc, .slice a2 mem.length j2, .int .i64 save, .bool lets, .bool waits, .int .i64 halt, .slice a3 ins.length j3, .slice a4 outs.length j4, .int .i64 count] 25)).alloc (.cells #[.slice none 0 0, .int .i64 0, .slice none 0 0, .int .i64 0, .bool false, .bool false, .int .i64 0, .slice none 0 0, .slice none 0 0, .int .i64 0] 25)) = V at N R RM BW ⊢
  have n0 := N.out.r.cell 0 _ rfl
  have n1 := N.out.r.cell 1 _ rfl
  have n2 := N.out.r.cell 2 _ rfl
  have n3 := N.out.r.cell 3 _ rfl
  have n4 := N.out.r.cell 4 _ rfl
  have n5 := N.out.r.cell 5 _ rfl
  have n6 := N.out.r.cell 6 _ rfl
  have n7 := N.out.r.cell 7 _ rfl
  have n8 := N.out.r.cell 8 _ rfl
  have n9 := N.out.r.cell 9 _ rfl
  go_wp2_with fail
  refine (mchOk _ _ _ RM.out).mono ?_
  rintro e u1 ⟨rfl, hb⟩
  replace N := hide (N.out.below hb)
  replace R := hide (R.out.below hb)
  replace RM := hide (RM.out.below hb)
  replace BW := hide (BW.out.trans (hb.mono BW.out.size))
  clear hb
  clear n0 n1 n2 n3 n4 n5 n6 n7 n8 n9
  cases ok : okM ⟨regs, pc, mem, save, lets, waits, halt, ins, outs, count⟩ with
  | false =>
    have HM := hide (step_no (irq := irq) ok)
    clear ok RM N
    go_wp2_with (refine wpList_lay rfl rfl _ _ rfl (w.heap.size + 1) _ _ _ _ _ _ _ _ _ _ R.out rfl _ _ _ _ _ _ _ _ _ _ _ _ _ _ _ _ _ _ rfl ?_; intro u9 RB TB)
    have FI := hide (empty_am u9 w.heap.size)
    have BT := hide (BW.out.trans (TB.out.below kk BW.out.size))
    have z0 := RB.out.r.cell 0 _ rfl
    have z1 := RB.out.r.cell 1 _ rfl
    have z2 := RB.out.r.cell 2 _ rfl
    have z3 := RB.out.r.cell 3 _ rfl
    have z4 := RB.out.r.cell 4 _ rfl
    have z5 := RB.out.r.cell 5 _ rfl
    have z6 := RB.out.r.cell 6 _ rfl
    have z7 := RB.out.r.cell 7 _ rfl
    have z8 := RB.out.r.cell 8 _ rfl
    have z9 := RB.out.r.cell 9 _ rfl
    clear RB TB
    exact bodyPost_ret (v := .agg #[.slice none 0 0, .int .i64 0, .slice none 0 0, .int .i64 0, .bool false, .bool false, .int .i64 0, .slice none 0 0, .slice none 0 0, .int .i64 0]) (by simp [results, Tryz.results17, go_sem, z0, z1, z2, z3, z4, z5, z6, z7, z8, z9]) rfl ⟨_, rfl, by rw [HM.out]; exact FI.out, BT.out⟩
  | true =>
    have OKM := hide (okM_of ok)
    have OK := hide ok
    clear ok
    have n0 := N.out.r.cell 0 _ rfl
    have n1 := N.out.r.cell 1 _ rfl
    have n2 := N.out.r.cell 2 _ rfl
    have n3 := N.out.r.cell 3 _ rfl
    have n4 := N.out.r.cell 4 _ rfl
    have n5 := N.out.r.cell 5 _ rfl
    have n6 := N.out.r.cell 6 _ rfl
    have n7 := N.out.r.cell 7 _ rfl
    have n8 := N.out.r.cell 8 _ rfl
    have n9 := N.out.r.cell 9 _ rfl
    go_wp2_with fail
    refine (l3Copy _ _ _ RM.out HS.out).mono ?_
    rintro e u2 ⟨c2, rfl, C, hb⟩
    have l1 : Hid (w.heap.size ≤ u1.heap.size) := BW.out.size
    replace N := hide (N.out.below hb)
    replace R := hide (R.out.below hb)
    replace BW := hide (BW.out.trans (hb.mono BW.out.size))
    have l2 : Hid (u1.heap.size ≤ u2.heap.size) := hb.size
    clear hb RM
    obtain ⟨f1, g1, h1, f2, g2, h2, f3, g3, h3, f4, h4, rfl⟩ := forms C
    simp only [mv] at C ⊢
    clear n0 n1 n2 n3 n4 n5 n6 n7 n8 n9
    have bX : Below u2.heap.size u2 (u2.alloc (.cells #[.slice (some ⟨f1, g1, none⟩) regs.length h1, .int .i64 pc, .slice (some ⟨f2, g2, none⟩) mem.length h2, .int .i64 save, .bool lets, .bool waits, .int .i64 halt, .slice (some ⟨f3, g3, none⟩) ins.length h3, .slice (some ⟨f4, 0, none⟩) outs.length h4, .int .i64 count] 25)) := (Below.refl _ _).alloc (Nat.le_refl _) _
    replace C := hide (C.below bX)
    have X := hide (Box.new u2 [.slice (some ⟨f1, g1, none⟩) regs.length h1, .int .i64 pc, .slice (some ⟨f2, g2, none⟩) mem.length h2, .int .i64 save, .bool lets, .bool waits, .int .i64 halt, .slice (some ⟨f3, g3, none⟩) ins.length h3, .slice (some ⟨f4, 0, none⟩) outs.length h4, .int .i64 count] 25)
    replace N := hide (N.out.below bX)
    have nx : Hid (u2.heap.size ≠ w.heap.size + 1) := by have := R.out.r.lt; show _ ≠ _; omega
    have nx2 : Hid (w.heap.size + 1 ≠ u2.heap.size) := by have := R.out.r.lt; show _ ≠ _; omega
    have nx3 : Hid (w.heap.size ≤ u2.heap.size) := by have := R.out.r.lt; show _ ≤ _; omega
    replace R := hide (R.out.below bX)
    replace BW := hide (BW.out.trans (bX.mono BW.out.size))
    clear bX
    have n0 := N.out.r.cell 0 _ rfl
    have n1 := N.out.r.cell 1 _ rfl
    have n2 := N.out.r.cell 2 _ rfl
    have n3 := N.out.r.cell 3 _ rfl
    have n4 := N.out.r.cell 4 _ rfl
    have n5 := N.out.r.cell 5 _ rfl
    have n6 := N.out.r.cell 6 _ rfl
    have n7 := N.out.r.cell 7 _ rfl
    have n8 := N.out.r.cell 8 _ rfl
    have n9 := N.out.r.cell 9 _ rfl
    by_cases hh : halt ≠ 0 ∨ count = 1000000
    case pos =>
      have HM := hide (step_still (irq := irq) OK.out hh)
      have go : ∀ P : Prop, (halt ≠ 0 → P) → (halt = 0 → count = 1000000 → P) → P := fun P p1 p2 => by
        by_cases h0 : halt = 0
        · exact p2 h0 (hh.resolve_left (fun e => e h0))
        · exact p1 h0
      clear hh
      have x0 := X.out.r.cell 0 _ rfl
      have x1 := X.out.r.cell 1 _ rfl
      have x2 := X.out.r.cell 2 _ rfl
      have x3 := X.out.r.cell 3 _ rfl
      have x4 := X.out.r.cell 4 _ rfl
      have x5 := X.out.r.cell 5 _ rfl
      have x6 := X.out.r.cell 6 _ rfl
      have x7 := X.out.r.cell 7 _ rfl
      have x8 := X.out.r.cell 8 _ rfl
      have x9 := X.out.r.cell 9 _ rfl
      clear N X OKM OK
      refine go _ (fun hx => ?_) (fun hx hy => ?_)
      · have t1 : (halt != 0) = true := by simpa using hx
        clear go hx
        go_wp2_with (refine wpList_lay rfl rfl _ _ rfl (w.heap.size + 1) _ _ _ _ _ _ _ _ _ _ R.out rfl _ _ _ _ _ _ _ _ _ _ _ _ _ _ _ _ _ _ rfl ?_; intro u9 RB TB)
        have FI : Hid (AMach _ _ _ _) := Or.inl ((CMach.turn C.out R.out.t mach_int TB.out).lowA l1.out)
        have BT := hide (BW.out.trans (TB.out.below kk BW.out.size))
        have z0 := RB.out.r.cell 0 _ rfl
        have z1 := RB.out.r.cell 1 _ rfl
        have z2 := RB.out.r.cell 2 _ rfl
        have z3 := RB.out.r.cell 3 _ rfl
        have z4 := RB.out.r.cell 4 _ rfl
        have z5 := RB.out.r.cell 5 _ rfl
        have z6 := RB.out.r.cell 6 _ rfl
        have z7 := RB.out.r.cell 7 _ rfl
        have z8 := RB.out.r.cell 8 _ rfl
        have z9 := RB.out.r.cell 9 _ rfl
        clear RB TB
        exact bodyPost_ret (v := .agg #[.slice (some ⟨f1, g1, none⟩) regs.length h1, .int .i64 pc, .slice (some ⟨f2, g2, none⟩) mem.length h2, .int .i64 save, .bool lets, .bool waits, .int .i64 halt, .slice (some ⟨f3, g3, none⟩) ins.length h3, .slice (some ⟨f4, 0, none⟩) outs.length h4, .int .i64 count]) (by simp [results, Tryz.results17, go_sem, z0, z1, z2, z3, z4, z5, z6, z7, z8, z9]) rfl ⟨_, rfl, by rw [HM.out]; exact FI.out, BT.out⟩
      · have t1 : (halt != 0) = false := by simpa using hx
        have t2 : (count == 1000000) = true := by simpa using hy
        clear go hx hy
        go_wp2_with (refine wpList_lay rfl rfl _ _ rfl (w.heap.size + 1) _ _ _ _ _ _ _ _ _ _ R.out rfl _ _ _ _ _ _ _ _ _ _ _ _ _ _ _ _ _ _ rfl ?_; intro u9 RB TB)
        have FI : Hid (AMach _ _ _ _) := Or.inl ((CMach.turn C.out R.out.t mach_int TB.out).lowA l1.out)
        have BT := hide (BW.out.trans (TB.out.below kk BW.out.size))
        have z0 := RB.out.r.cell 0 _ rfl
        have z1 := RB.out.r.cell 1 _ rfl
        have z2 := RB.out.r.cell 2 _ rfl
        have z3 := RB.out.r.cell 3 _ rfl
        have z4 := RB.out.r.cell 4 _ rfl
        have z5 := RB.out.r.cell 5 _ rfl
        have z6 := RB.out.r.cell 6 _ rfl
        have z7 := RB.out.r.cell 7 _ rfl
        have z8 := RB.out.r.cell 8 _ rfl
        have z9 := RB.out.r.cell 9 _ rfl
        clear RB TB
        exact bodyPost_ret (v := .agg #[.slice (some ⟨f1, g1, none⟩) regs.length h1, .int .i64 pc, .slice (some ⟨f2, g2, none⟩) mem.length h2, .int .i64 save, .bool lets, .bool waits, .int .i64 halt, .slice (some ⟨f3, g3, none⟩) ins.length h3, .slice (some ⟨f4, 0, none⟩) outs.length h4, .int .i64 count]) (by simp [results, Tryz.results17, go_sem, z0, z1, z2, z3, z4, z5, z6, z7, z8, z9]) rfl ⟨_, rfl, by rw [HM.out]; exact FI.out, BT.out⟩
    have hx : halt = 0 := Classical.byContradiction fun e => hh (Or.inl e)
    have hy : count ≠ 1000000 := fun e => hh (Or.inr e)
    have t1 : (halt != 0) = false := by simpa using hx
    have t2 : (count == 1000000) = false := by simpa using hy
    have HX := hide hx
    have HY := hide hy
    clear hh hx hy
    have x0 := X.out.r.cell 0 _ rfl
    have x1 := X.out.r.cell 1 _ rfl
    have x2 := X.out.r.cell 2 _ rfl
    have x3 := X.out.r.cell 3 _ rfl
    have x4 := X.out.r.cell 4 _ rfl
    have x5 := X.out.r.cell 5 _ rfl
    have x6 := X.out.r.cell 6 _ rfl
    have x7 := X.out.r.cell 7 _ rfl
    have x8 := X.out.r.cell 8 _ rfl
    have x9 := X.out.r.cell 9 _ rfl
    go_wp2_with fail
    refine (l3Sample _ _ _ _ _ _ _ _ _ _ _ _ _ _ _ _ _ _ irq _).mono ?_
    rintro e u4 ⟨rfl, hb⟩
    obtain ⟨pc2, save2, lets2, waits2, hsm, hp2, hcc⟩ := sample_form regs mem ins outs pc save halt count lets waits irq OKM.out.p
    rw [hcc]
    have SM := hide hsm
    clear hcc hsm
    replace X := hide (X.out.below hb)
    replace N := hide (N.out.below hb)
    replace R := hide (R.out.below hb)
    replace C := hide (CMach.plain (pc' := pc2) (save' := save2) (halt' := halt) (count' := count) (lets' := lets2) (waits' := waits2) (C.out.below hb))
    replace BW := hide (BW.out.trans (hb.mono BW.out.size))
    have l4 : Hid (u1.heap.size ≤ u4.heap.size) := by have e1 := hb.size; have e2 := l2.out; simp at e1; show _ ≤ _; omega
    clear hb
    clear n0 n1 n2 n3 n4 n5 n6 n7 n8 n9 x0 x1 x2 x3 x4 x5 x6 x7 x8 x9
    have GO : ∀ P : Prop, (64 ≤ pc2 → P) → (¬ 64 ≤ pc2 → P) → P := fun P p1 p2 => (Classical.em (64 ≤ pc2)).elim p1 p2
    refine GO _ (fun hp => ?_) (fun hp => ?_)
    · have HM := hide (step_place OK.out HX.out HY.out SM.out hp)
      go_wp2_with (refine wpList_lay rfl rfl _ _ rfl (u2.heap.size) _ _ _ _ _ _ _ _ _ _ X.out rfl _ _ _ _ _ _ _ _ _ _ _ _ _ _ _ _ _ _ rfl ?_; intro u5 X5 T5; have R5 := hide (R.out.turn T5.out nx2.out); have C5 := hide (CMach.turn C.out X.out.t mach_int T5.out); have B5 := hide (BW.out.trans (T5.out.below nx3.out BW.out.size)); have l5 : Hid (u1.heap.size ≤ u5.heap.size) := Nat.le_trans l4.out T5.out.size; have x0 := X5.out.r.cell 0 _ rfl; have x1 := X5.out.r.cell 1 _ rfl; have x2 := X5.out.r.cell 2 _ rfl; have x3 := X5.out.r.cell 3 _ rfl; have x4 := X5.out.r.cell 4 _ rfl; have x5 := X5.out.r.cell 5 _ rfl; have x6 := X5.out.r.cell 6 _ rfl; have x7 := X5.out.r.cell 7 _ rfl; have x8 := X5.out.r.cell 8 _ rfl; have x9 := X5.out.r.cell 9 _ rfl)
      refine (l3Halt _ _ _ _ _ _ _ _ _ _ _ _ _ _ _ _ _ _ 4 _).mono ?_
      rintro e u6 ⟨rfl, hb⟩
      have R6 := hide (R5.out.below hb)
      have C6 := hide (CMach.plain (pc' := pc2) (save' := save2) (halt' := 4) (count' := count) (lets' := lets2) (waits' := waits2) (C5.out.below hb))
      have B6 := hide (B5.out.trans (hb.mono B5.out.size))
      clear hb C5 B5 R5 X5 T5 X R C BW N
      clear x0 x1 x2 x3 x4 x5 x6 x7 x8 x9
      go_wp2_with (refine wpList_lay rfl rfl _ _ rfl (w.heap.size + 1) _ _ _ _ _ _ _ _ _ _ R6.out rfl _ _ _ _ _ _ _ _ _ _ _ _ _ _ _ _ _ _ rfl ?_; intro u9 RB TB)
      have FI : Hid (AMach _ _ _ _) := Or.inl ((CMach.turn C6.out R6.out.t mach_int TB.out).lowA l1.out)
      have BT := hide (B6.out.trans (TB.out.below kk B6.out.size))
      have z0 := RB.out.r.cell 0 _ rfl
      have z1 := RB.out.r.cell 1 _ rfl
      have z2 := RB.out.r.cell 2 _ rfl
      have z3 := RB.out.r.cell 3 _ rfl
      have z4 := RB.out.r.cell 4 _ rfl
      have z5 := RB.out.r.cell 5 _ rfl
      have z6 := RB.out.r.cell 6 _ rfl
      have z7 := RB.out.r.cell 7 _ rfl
      have z8 := RB.out.r.cell 8 _ rfl
      have z9 := RB.out.r.cell 9 _ rfl
      clear RB TB
      exact bodyPost_ret (v := .agg #[.slice (some ⟨f1, g1, none⟩) regs.length h1, .int .i64 pc2, .slice (some ⟨f2, g2, none⟩) mem.length h2, .int .i64 save2, .bool lets2, .bool waits2, .int .i64 4, .slice (some ⟨f3, g3, none⟩) ins.length h3, .slice (some ⟨f4, 0, none⟩) outs.length h4, .int .i64 count]) (by simp [results, Tryz.results17, go_sem, z0, z1, z2, z3, z4, z5, z6, z7, z8, z9]) rfl ⟨_, rfl, by rw [HM.out]; exact FI.out, BT.out⟩
    · obtain ⟨t, rfl⟩ : ∃ t : Nat, pc2 = t := ⟨pc2.toNat, (Int.toNat_of_nonneg hp2.1).symm⟩
      have M64 : mem.length = 64 := OKM.out.mem
      obtain ⟨v, ev⟩ : ∃ v, mem[t]? = some v := ⟨_, List.getElem?_eq_getElem (by rw [M64]; omega)⟩
      have tm : ((t : Nat) : Int) < (mem.length : Int) := by rw [M64]; omega
      have EV := hide ev
      have HP := hide hp
      clear M64 ev
      go_wp2_with (refine wpList_lay rfl rfl _ _ rfl (u2.heap.size) _ _ _ _ _ _ _ _ _ _ X.out rfl _ _ _ _ _ _ _ _ _ _ _ _ _ _ _ _ _ _ rfl ?_; intro u5 X5 T5; have R5 := hide (R.out.turn T5.out nx2.out); have C5 := hide (CMach.turn C.out X.out.t mach_int T5.out); have B5 := hide (BW.out.trans (T5.out.below nx3.out BW.out.size)); have l5 : Hid (u1.heap.size ≤ u5.heap.size) := Nat.le_trans l4.out T5.out.size; have x0 := X5.out.r.cell 0 _ rfl; have x1 := X5.out.r.cell 1 _ rfl; have x2 := X5.out.r.cell 2 _ rfl; have x3 := X5.out.r.cell 3 _ rfl; have x4 := X5.out.r.cell 4 _ rfl; have x5 := X5.out.r.cell 5 _ rfl; have x6 := X5.out.r.cell 6 _ rfl; have x7 := X5.out.r.cell 7 _ rfl; have x8 := X5.out.r.cell 8 _ rfl; have x9 := X5.out.r.cell 9 _ rfl; obtain ⟨cv, _⟩ := row_at C5.out.parts.2.1 EV.out)
      refine (Ins.insTake v _).mono ?_
      rintro e u6 ⟨rfl, hb⟩
      have X6 := X5.out.below hb
      have R6 := R5.out.below hb
      have C6 := C5.out.below hb
      have B6 := B5.out.trans (hb.mono B5.out.size)
      have l6 : Hid (u1.heap.size ≤ u6.heap.size) := Nat.le_trans l5.out hb.size
      clear hb X5 R5 C5 B5 T5 cv X R C BW N
      clear x0 x1 x2 x3 x4 x5 x6 x7 x8 x9
      cases tk : Ins.takeB v with
      | false =>
        have HM := hide (step_word OK.out HX.out HY.out SM.out (Int.not_le.2 HP.out) rfl EV.out tk)
        rw [show Ins.takeC v = #[.int .i64 0, .int .i64 0, .int .i64 0, .int .i64 0] by unfold Ins.takeC; rw [tk]; rfl]
        have bY : Below u6.heap.size u6 (u6.alloc (.cells #[.int .i64 0, .int .i64 0, .int .i64 0, .int .i64 0] 38)) := (Below.refl _ _).alloc (Nat.le_refl _) _
        have X7 := hide (X6.below bY)
        have R7 := hide (R6.below bY)
        have C7 := hide (C6.below bY)
        have B7 := hide (B6.trans (bY.mono B6.size))
        clear X6 R6 C6 B6 bY tk
        have x0 := X7.out.r.cell 0 _ rfl
        have x1 := X7.out.r.cell 1 _ rfl
        have x2 := X7.out.r.cell 2 _ rfl
        have x3 := X7.out.r.cell 3 _ rfl
        have x4 := X7.out.r.cell 4 _ rfl
        have x5 := X7.out.r.cell 5 _ rfl
        have x6 := X7.out.r.cell 6 _ rfl
        have x7 := X7.out.r.cell 7 _ rfl
        have x8 := X7.out.r.cell 8 _ rfl
        have x9 := X7.out.r.cell 9 _ rfl
        go_wp2_with fail
        refine (l3Halt _ _ _ _ _ _ _ _ _ _ _ _ _ _ _ _ _ _ 2 _).mono ?_
        rintro e u8 ⟨rfl, hb⟩
        have R8 := hide (R7.out.below hb)
        have C8 := hide (CMach.plain (pc' := t) (save' := save2) (halt' := 2) (count' := count) (lets' := lets2) (waits' := waits2) (C7.out.below hb))
        have B8 := hide (B7.out.trans (hb.mono B7.out.size))
        clear hb C7 B7 R7 X7
        clear x0 x1 x2 x3 x4 x5 x6 x7 x8 x9
        go_wp2_with (refine wpList_lay rfl rfl _ _ rfl (w.heap.size + 1) _ _ _ _ _ _ _ _ _ _ R8.out rfl _ _ _ _ _ _ _ _ _ _ _ _ _ _ _ _ _ _ rfl ?_; intro u9 RB TB)
        have FI : Hid (AMach _ _ _ _) := Or.inl ((CMach.turn C8.out R8.out.t mach_int TB.out).lowA l1.out)
        have BT := hide (B8.out.trans (TB.out.below kk B8.out.size))
        have z0 := RB.out.r.cell 0 _ rfl
        have z1 := RB.out.r.cell 1 _ rfl
        have z2 := RB.out.r.cell 2 _ rfl
        have z3 := RB.out.r.cell 3 _ rfl
        have z4 := RB.out.r.cell 4 _ rfl
        have z5 := RB.out.r.cell 5 _ rfl
        have z6 := RB.out.r.cell 6 _ rfl
        have z7 := RB.out.r.cell 7 _ rfl
        have z8 := RB.out.r.cell 8 _ rfl
        have z9 := RB.out.r.cell 9 _ rfl
        clear RB TB
        exact bodyPost_ret (v := .agg #[.slice (some ⟨f1, g1, none⟩) regs.length h1, .int .i64 t, .slice (some ⟨f2, g2, none⟩) mem.length h2, .int .i64 save2, .bool lets2, .bool waits2, .int .i64 2, .slice (some ⟨f3, g3, none⟩) ins.length h3, .slice (some ⟨f4, 0, none⟩) outs.length h4, .int .i64 count]) (by simp [results, Tryz.results17, go_sem, z0, z1, z2, z3, z4, z5, z6, z7, z8, z9]) rfl ⟨_, rfl, by rw [HM.out]; exact FI.out, BT.out⟩
      | true =>
        have HM := hide (step_do OK.out HX.out HY.out SM.out (Int.not_le.2 HP.out) rfl EV.out tk)
        have TO := hide (take_ok tk)
        rw [show Ins.takeC v = #[.int .i64 (v / 4096), .int .i64 (v / 1024 % 4), .int .i64 (v / 256 % 4), .int .i64 (v % 256)] by unfold Ins.takeC; rw [tk]; rfl]
        have bY : Below u6.heap.size u6 (u6.alloc (.cells #[.int .i64 (v / 4096), .int .i64 (v / 1024 % 4), .int .i64 (v / 256 % 4), .int .i64 (v % 256)] 38)) := (Below.refl _ _).alloc (Nat.le_refl _) _
        have X7 := hide (X6.below bY)
        have R7 := hide (R6.below bY)
        have C7 := hide (C6.below bY)
        have B7 := hide (B6.trans (bY.mono B6.size))
        have l7 : Hid (u1.heap.size ≤ (u6.alloc (.cells #[.int .i64 (v / 4096), .int .i64 (v / 1024 % 4), .int .i64 (v / 256 % 4), .int .i64 (v % 256)] 38)).heap.size) := Nat.le_trans l6.out bY.size
        have FT : Hid (Fit ⟨regs, (t : Int), mem, save2, lets2, waits2, halt, ins, outs, count⟩) := ⟨OKM.out.regs, OKM.out.mem, words_at OKM.out.wr, words_at OKM.out.wm, hp2.1, hp2.2, OKM.out.c.1, OKM.out.c.2⟩
        have L9 : Hid (outs.length ≤ 1000000000) := Nat.le_trans HS.out.2.2.2 (by omega)
        clear X6 R6 C6 B6 bY tk
        have x0 := X7.out.r.cell 0 _ rfl
        have x1 := X7.out.r.cell 1 _ rfl
        have x2 := X7.out.r.cell 2 _ rfl
        have x3 := X7.out.r.cell 3 _ rfl
        have x4 := X7.out.r.cell 4 _ rfl
        have x5 := X7.out.r.cell 5 _ rfl
        have x6 := X7.out.r.cell 6 _ rfl
        have x7 := X7.out.r.cell 7 _ rfl
        have x8 := X7.out.r.cell 8 _ rfl
        have x9 := X7.out.r.cell 9 _ rfl
        go_wp2_with fail
        refine (l3Do _ _ _ _ _ u1.heap.size _ _ C7.out l7.out FT.out L9.out TO.out).mono ?_
        rintro e u8 ⟨c8, rfl, C8, hi⟩
        have R8 := hide (R7.out.ints mach_int hi)
        have B8 := hide (B7.out.trans ((hi.below l7.out).mono l1.out))
        obtain ⟨m8, em8⟩ : ∃ m8, doM ⟨regs, (t : Int), mem, save2, lets2, waits2, halt, ins, outs, count⟩ (v / 4096) (v / 1024 % 4).toNat (v / 256 % 4).toNat (v % 256) = m8 := ⟨_, rfl⟩
        rw [em8] at C8 HM
        obtain ⟨f1', g1', h1', f2', g2', h2', f3', g3', h3', f4', h4', rfl⟩ := forms C8
        obtain ⟨regs5, pc5, mem5, save5, lets5, waits5, halt5, ins5, outs5, count5⟩ := m8
        simp only [mv] at C8 ⊢
        replace C8 := hide C8
        clear hi C7 B7 R7 X7 em8
        clear x0 x1 x2 x3 x4 x5 x6 x7 x8 x9
        go_wp2_with (refine wpList_lay rfl rfl _ _ rfl (w.heap.size + 1) _ _ _ _ _ _ _ _ _ _ R8.out rfl _ _ _ _ _ _ _ _ _ _ _ _ _ _ _ _ _ _ rfl ?_; intro u9 RB TB)
        have FI : Hid (AMach _ _ _ _) := Or.inl ((CMach.turn C8.out R8.out.t mach_int TB.out).lowA l1.out)
        have BT := hide (B8.out.trans (TB.out.below kk B8.out.size))
        have z0 := RB.out.r.cell 0 _ rfl
        have z1 := RB.out.r.cell 1 _ rfl
        have z2 := RB.out.r.cell 2 _ rfl
        have z3 := RB.out.r.cell 3 _ rfl
        have z4 := RB.out.r.cell 4 _ rfl
        have z5 := RB.out.r.cell 5 _ rfl
        have z6 := RB.out.r.cell 6 _ rfl
        have z7 := RB.out.r.cell 7 _ rfl
        have z8 := RB.out.r.cell 8 _ rfl
        have z9 := RB.out.r.cell 9 _ rfl
        clear RB TB
        exact bodyPost_ret (v := .agg #[.slice (some ⟨f1', g1', none⟩) regs5.length h1', .int .i64 pc5, .slice (some ⟨f2', g2', none⟩) mem5.length h2', .int .i64 save5, .bool lets5, .bool waits5, .int .i64 halt5, .slice (some ⟨f3', g3', none⟩) ins5.length h3', .slice (some ⟨f4', 0, none⟩) outs5.length h4', .int .i64 count5]) (by simp [results, Tryz.results17, go_sem, z0, z1, z2, z3, z4, z5, z6, z7, z8, z9]) rfl ⟨_, rfl, by rw [HM.out]; exact FI.out, BT.out⟩
theorem specStep (m : M) (irq : Bool) (c : List Value) (w : World) (h : RMach w c m) (hs : Mid m) :
    Calls Tryz.prog 17 #[.agg c.toArray, .bool irq] w fun e w' => ∃ c', e = .returned (.agg c'.toArray) ∧ WMach w' w.heap.size c' (stepM m irq) ∧ Below w.heap.size w w' :=
  (specStepA m irq c w h hs).mono fun _ _ ⟨c', h1, h2, h3⟩ => ⟨c', h1, h2.write, h3⟩
end Go.Proofs.YtnhpmbhphbphaaaGreat.Mch
