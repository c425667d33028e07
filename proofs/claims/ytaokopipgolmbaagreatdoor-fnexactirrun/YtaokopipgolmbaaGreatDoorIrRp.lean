/-
  How a piece of code runs: the specification's l5At, l6Over, l6Leave, l6Word, l6Go.
  How a piece of code runs: the model of a run, and the specification's l6Word, l6Go.
-/
import Derived.Test.YtaokopipgolmbaaGreatDoorIrKl
import Derived.Test.YtaokopipgolmbaaGreatDoorMchQ
import Derived.Test.YtaokopipgolmbaaGreatDoorWrdC
namespace Go.Proofs.YtaokopipgolmbaaGreatDoor.Ir
set_option linter.unusedVariables false
set_option linter.unusedSimpArgs false
open Go.ChangeShapes Go.WideShapes Go.ChangeAt Go.RowKit IntS Mch
/-- The word at a place of a list, 0 where there is none. -/
def atI (xs : List Int) (k : Int) : Int := if 0 ≤ k then xs.getD k.toNat 0 else 0
theorem at_yes {xs : List Int} {k : Nat} {x : Int} (h : xs[k]? = some x) : atI xs (k : Int) = x := by
  unfold atI
  rw [if_pos (by omega), Int.toNat_natCast, List.getD_eq_getElem?_getD, h]
  rfl
theorem at_no {xs : List Int} {k : Nat} (h : xs.length ≤ k) : atI xs (k : Int) = 0 := by
  unfold atI
  rw [if_pos (by omega), Int.toNat_natCast, List.getD_eq_getElem?_getD, List.getElem?_eq_none h]
  rfl
set_option maxHeartbeats 4000000 in
theorem l5At (xs : List Int) (k : Int) (hk0 : 0 ≤ k) (hk1 : k ≤ 1000) (B : Nat) (v : Value) (w : World) (h : Row w B v xs) :
    Calls Tryz.prog 21 #[v, .int .i64 k] w fun e w' => e = .returned (.int .i64 (atI xs k)) ∧ w' = w := by
  obtain ⟨a, cap, off, rfl, h2, h3, hz, h4⟩ := h
  unfold maxLen at h3
  obtain ⟨k, rfl⟩ := Int.eq_ofNat_of_zero_le hk0
  have k0 : ¬ ((k : Nat) : Int) < 0 := by omega
  by_cases hlt : k < xs.length
  · obtain ⟨x, ex⟩ : ∃ x, xs[k]? = some x := ⟨_, List.getElem?_eq_getElem hlt⟩
    obtain ⟨rfl, hc⟩ := h4.resolve_left (fun e => by rw [e] at ex; simp at ex)
    have cx := hc k x ex
    have HD := hide (at_yes ex)
    clear hc ex hz
    generalize xs.length = n at *
    have lk : ((k : Nat) : Int) < (n : Nat) := by omega
    go_enter Tryz.func21, Tryz.ntmps21
    go_wp2
    go_ret
    exact ⟨Wrd.ret_int HD.out.symm, rfl⟩
  · have HD := hide (at_no (xs := xs) (k := k) (by omega))
    clear h4 hz
    generalize xs.length = n at *
    have lk : ¬ ((k : Nat) : Int) < (n : Nat) := by omega
    go_enter Tryz.func21, Tryz.ntmps21
    go_wp2
    go_ret
    exact ⟨Wrd.ret_int HD.out.symm, rfl⟩
/-- Whether an address is that of a later instruction. -/
def overB (pc ln at_ n : Int) : Bool := decide (pc + n < at_) && decide (at_ < pc + ln)
set_option maxRecDepth 8000 in
set_option maxHeartbeats 4000000 in
theorem l6Over (pc ln en x y k : Int) (q : Option Addr) (n1 j1 : Nat) (at_ n : Int) (w : World) (p0 : 0 ≤ pc) (p1 : pc ≤ 64) (l0 : 0 ≤ ln) (l1 : ln ≤ 8) (n0 : 0 ≤ n) (n8 : n ≤ 8) :
    Calls Tryz.prog 42 #[.agg #[.int .i64 pc, .int .i64 ln, .slice q n1 j1, .int .i64 en, .int .i64 x, .int .i64 y, .int .i64 k], .int .i64 at_, .int .i64 n] w fun e w' => e = .returned (.bool (overB pc ln at_ n)) ∧ Below w.heap.size w w' := by
  have bV := hide (alloc_below w (.cells #[.int .i64 pc, .int .i64 ln, .slice q n1 j1, .int .i64 en, .int .i64 x, .int .i64 y, .int .i64 k] 35))
  by_cases h1 : pc + n < at_
  · by_cases h2 : at_ < pc + ln
    · have HD : Hid (overB pc ln at_ n = true) := show _ = _ by unfold overB; rw [decide_eq_true h1, decide_eq_true h2]; rfl
      go_enter Tryz.func42, Tryz.ntmps42
      go_wp2
      go_ret
      exact ret_boolw HD.out.symm bV.out
    · have HD : Hid (overB pc ln at_ n = false) := show _ = _ by unfold overB; rw [decide_eq_true h1, decide_eq_false h2]; rfl
      go_enter Tryz.func42, Tryz.ntmps42
      go_wp2
      go_ret
      exact ret_boolw HD.out.symm bV.out
  · have HD : Hid (overB pc ln at_ n = false) := show _ = _ by unfold overB; rw [decide_eq_false h1]; rfl
    go_enter Tryz.func42, Tryz.ntmps42
    go_wp2
    go_ret
    exact ret_boolw HD.out.symm bV.out
set_option maxRecDepth 8000 in
set_option maxHeartbeats 4000000 in
theorem l6Leave (q1 q2 q3 q4 : Option Addr) (n1 n2 n3 n4 j1 j2 j3 j4 : Nat) (pc save halt count : Int) (lets waits : Bool) (q : Option Addr) (nb jb : Nat) (bp ln en x y k : Int) (n h : Int) (w : World) (c0 : 0 ≤ count) (c1 : count ≤ 1000000) (p0 : 0 ≤ bp) (p1 : bp ≤ 64) (n0 : 0 ≤ n) (n8 : n ≤ 8) :
    Calls Tryz.prog 41 #[.agg #[.slice q1 n1 j1, .int .i64 pc, .slice q2 n2 j2, .int .i64 save, .bool lets, .bool waits, .int .i64 halt, .slice q3 n3 j3, .slice q4 n4 j4, .int .i64 count], .agg #[.int .i64 bp, .int .i64 ln, .slice q nb jb, .int .i64 en, .int .i64 x, .int .i64 y, .int .i64 k], .int .i64 n, .int .i64 h] w fun e w' => e = .returned (.agg #[.slice q1 n1 j1, .int .i64 (bp + n), .slice q2 n2 j2, .int .i64 save, .bool lets, .bool waits, .int .i64 h, .slice q3 n3 j3, .slice q4 n4 j4, .int .i64 (count + n)]) ∧ Below w.heap.size w w' := by
  go_enter Tryz.func41, Tryz.ntmps41
  go_wp2
  refine bodyPost_ret (v := .agg #[.slice q1 n1 j1, .int .i64 (bp + n), .slice q2 n2 j2, .int .i64 save, .bool lets, .bool waits, .int .i64 h, .slice q3 n3 j3, .slice q4 n4 j4, .int .i64 (count + n)]) (by simp [results, Tryz.results41, go_sem]) rfl ⟨rfl, ?_⟩
  go_grown
end Go.Proofs.YtaokopipgolmbaaGreatDoor.Ir
namespace Go.Proofs.YtaokopipgolmbaaGreatDoor.Ir
set_option linter.unusedVariables false
set_option linter.unusedSimpArgs false
open Go.ChangeShapes Go.WideShapes Go.ChangeAt Go.RowKit IntS Mch
def wordM (m : M) (o : Opn) (x y : Int) : Int := if o.kd = 1 then o.k else if o.kd = 2 then m.regs.getD o.k.toNat 0 else if o.kd = 3 then Wrd.wdo o.k x y else 0
def leaveM (m : M) (bp n h : Int) : M := { m with pc := bp + n, count := m.count + n, halt := h }
/-- An operation that reaches out: the machine, the word that it makes, and whether the code is left. -/
def evM (b : Bk) (m : M) (o : Opn) (x y : Int) : M × Int × Bool :=
  if o.kd = 7 then ({ m with outs := m.outs ++ [x] }, 0, false)
  else if o.kd = 6 then (match m.ins with | [] => (m, 0, false) | n :: r => ({ m with ins := r }, n, false))
  else if 64 ≤ x then (leaveM m b.pc o.t 3, 0, true)
  else if o.kd = 4 then (m, m.mem.getD x.toNat 0, false)
  else if overB b.pc b.ln x o.t then (leaveM { m with mem := m.mem.set x.toNat y } b.pc (o.t + 1) 0, 0, true)
  else ({ m with mem := m.mem.set x.toNat y }, 0, false)
def stepM (b : Bk) (m : M) (vs : List Int) (o : Opn) : M × Int × Bool :=
  if o.kd = 8 then ({ m with regs := m.regs.set o.k.toNat (atI vs o.x) }, 0, false)
  else if 4 ≤ o.kd ∧ o.kd ≤ 7 then evM b m o (atI vs o.x) (atI vs o.y)
  else (m, wordM m o (atI vs o.x) (atI vs o.y), false)
def goM (b : Bk) (vs : List Int) : Int :=
  if b.en = 1 then b.k else if b.en = 2 then atI vs b.x
  else if b.en = 3 then (if atI vs b.x = atI vs b.y then b.k else b.pc + b.ln)
  else (if atI vs b.x < atI vs b.y then b.k else b.pc + b.ln)
def runM (b : Bk) : List Opn → M → List Int → M
  | [], m, vs => { m with pc := goM b vs, count := m.count + b.ln }
  | o :: r, m, vs => if (stepM b m vs o).2.2 = true then (stepM b m vs o).1 else runM b r (stepM b m vs o).1 (vs ++ [(stepM b m vs o).2.1])
set_option maxRecDepth 8000 in
set_option maxHeartbeats 4000000 in
theorem l6Word_1 (m : M) (x_ y_ k_ t_ x y : Int) (lo : Nat) (c : List Value) (w : World) (h : CMach w lo c m) :
    Calls Tryz.prog 22 #[.agg c.toArray, .agg #[.int .i64 1, .int .i64 x_, .int .i64 y_, .int .i64 k_, .int .i64 t_], .int .i64 x, .int .i64 y] w fun e w' => e = .returned (.int .i64 (wordM m ⟨1, x_, y_, k_, t_⟩ x y)) ∧ Below w.heap.size w w' := by
  obtain ⟨b1, o1, k1, b2, o2, k2, b3, o3, k3, b4, k4, rfl⟩ := forms h
  obtain ⟨regs, pc, mem, save, lets, waits, halt, ins, outs, count⟩ := m
  have bX : Below w.heap.size w ((w.alloc (.cells #[.slice (some ⟨b1, o1, none⟩) regs.length k1, .int .i64 pc, .slice (some ⟨b2, o2, none⟩) mem.length k2, .int .i64 save, .bool lets, .bool waits, .int .i64 halt, .slice (some ⟨b3, o3, none⟩) ins.length k3, .slice (some ⟨b4, 0, none⟩) outs.length k4, .int .i64 count] 30)).alloc (.cells #[.int .i64 1, .int .i64 x_, .int .i64 y_, .int .i64 k_, .int .i64 t_] 49)) := ((Below.refl _ _).alloc (Nat.le_refl _) _).alloc (by simp) _
  have BX := hide bX
  clear h bX
  simp only [mv] at *
  go_enter Tryz.func22, Tryz.ntmps22
  go_wp2
  go_ret
  exact ⟨Wrd.ret_int rfl, BX.out⟩
set_option maxRecDepth 8000 in
set_option maxHeartbeats 4000000 in
theorem l6Word_2 (m : M) (x_ y_ k_ t_ x y : Int) (lo : Nat) (c : List Value) (w : World) (h : CMach w lo c m) (hr : m.regs.length ≤ 1000) (d : Nat) (hd : d < m.regs.length) (hk : k_ = (d : Int)) :
    Calls Tryz.prog 22 #[.agg c.toArray, .agg #[.int .i64 2, .int .i64 x_, .int .i64 y_, .int .i64 k_, .int .i64 t_], .int .i64 x, .int .i64 y] w fun e w' => e = .returned (.int .i64 (wordM m ⟨2, x_, y_, k_, t_⟩ x y)) ∧ Below w.heap.size w w' := by
  obtain ⟨b1, o1, k1, b2, o2, k2, b3, o3, k3, b4, k4, rfl⟩ := forms h
  obtain ⟨regs, pc, mem, save, lets, waits, halt, ins, outs, count⟩ := m
  have bX : Below w.heap.size w ((w.alloc (.cells #[.slice (some ⟨b1, o1, none⟩) regs.length k1, .int .i64 pc, .slice (some ⟨b2, o2, none⟩) mem.length k2, .int .i64 save, .bool lets, .bool waits, .int .i64 halt, .slice (some ⟨b3, o3, none⟩) ins.length k3, .slice (some ⟨b4, 0, none⟩) outs.length k4, .int .i64 count] 30)).alloc (.cells #[.int .i64 2, .int .i64 x_, .int .i64 y_, .int .i64 k_, .int .i64 t_] 49)) := ((Below.refl _ _).alloc (Nat.le_refl _) _).alloc (by simp) _
  have BX := hide bX
  subst hk
  simp only [] at hr hd
  obtain ⟨z, ez⟩ : ∃ z, regs[d]? = some z := ⟨_, List.getElem?_eq_getElem hd⟩
  have HX := h.below bX
  obtain ⟨cz, fz⟩ := row_at HX.parts.1 ez
  have ld : ((d : Nat) : Int) < (regs.length : Int) := by omega
  have HD : Hid (wordM ⟨regs, pc, mem, save, lets, waits, halt, ins, outs, count⟩ ⟨2, x_, y_, (d : Int), t_⟩ x y = z) := show _ = _ by
    unfold wordM
    rw [if_neg (show ¬ (2 : Int) = 1 by decide), if_pos rfl]
    simp only [Int.toNat_natCast]
    exact getD_of ez
  clear h bX HX ez
  simp only [mv] at *
  go_enter Tryz.func22, Tryz.ntmps22
  go_wp2
  go_ret
  exact ⟨Wrd.ret_int HD.out.symm, BX.out⟩
set_option maxRecDepth 8000 in
set_option maxHeartbeats 4000000 in
theorem l6Word_3 (m : M) (x_ y_ k_ t_ x y : Int) (lo : Nat) (c : List Value) (w : World) (h : CMach w lo c m) :
    Calls Tryz.prog 22 #[.agg c.toArray, .agg #[.int .i64 3, .int .i64 x_, .int .i64 y_, .int .i64 k_, .int .i64 t_], .int .i64 x, .int .i64 y] w fun e w' => e = .returned (.int .i64 (wordM m ⟨3, x_, y_, k_, t_⟩ x y)) ∧ Below w.heap.size w w' := by
  obtain ⟨b1, o1, k1, b2, o2, k2, b3, o3, k3, b4, k4, rfl⟩ := forms h
  obtain ⟨regs, pc, mem, save, lets, waits, halt, ins, outs, count⟩ := m
  have bX : Below w.heap.size w ((w.alloc (.cells #[.slice (some ⟨b1, o1, none⟩) regs.length k1, .int .i64 pc, .slice (some ⟨b2, o2, none⟩) mem.length k2, .int .i64 save, .bool lets, .bool waits, .int .i64 halt, .slice (some ⟨b3, o3, none⟩) ins.length k3, .slice (some ⟨b4, 0, none⟩) outs.length k4, .int .i64 count] 30)).alloc (.cells #[.int .i64 3, .int .i64 x_, .int .i64 y_, .int .i64 k_, .int .i64 t_] 49)) := ((Below.refl _ _).alloc (Nat.le_refl _) _).alloc (by simp) _
  have BX := hide bX
  clear h bX
  simp only [mv] at *
  go_enter Tryz.func22, Tryz.ntmps22
  go_wp2_with fail
  refine (Wrd.specDo k_ x y _).mono ?_
  rintro e u ⟨rfl, rfl⟩
  go_wp2
  go_ret
  exact ⟨Wrd.ret_int rfl, BX.out⟩
set_option maxRecDepth 8000 in
set_option maxHeartbeats 4000000 in
theorem l6Go_1 (vs : List Int) (pc ln k : Int) (q : Option Addr) (n1 j1 : Nat) (ops : List Opn) (x y : Int) (B : Nat) (v : Value) (w : World) (h : Row w B v vs) (p0 : 0 ≤ pc) (p1 : pc ≤ 64) (l0 : 0 ≤ ln) (l1 : ln ≤ 8) :
    Calls Tryz.prog 23 #[.agg #[.int .i64 pc, .int .i64 ln, .slice q n1 j1, .int .i64 1, .int .i64 x, .int .i64 y, .int .i64 k], v] w fun e w' => e = .returned (.int .i64 (goM ⟨pc, ln, ops, 1, x, y, k⟩ vs)) ∧ Below w.heap.size w w' := by
  have bX : Below w.heap.size w (w.alloc (.cells #[.int .i64 pc, .int .i64 ln, .slice q n1 j1, .int .i64 1, .int .i64 x, .int .i64 y, .int .i64 k] 35)) := alloc_below _ _
  have BX := hide bX
  clear h bX
  go_enter Tryz.func23, Tryz.ntmps23
  go_wp2
  go_ret
  exact ⟨Wrd.ret_int rfl, BX.out⟩
set_option maxRecDepth 8000 in
set_option maxHeartbeats 4000000 in
theorem l6Go_2 (vs : List Int) (pc ln k : Int) (q : Option Addr) (n1 j1 : Nat) (ops : List Opn) (i : Nat) (y : Int) (hi : i < vs.length) (B : Nat) (v : Value) (w : World) (h : Row w B v vs) (p0 : 0 ≤ pc) (p1 : pc ≤ 64) (l0 : 0 ≤ ln) (l1 : ln ≤ 8) :
    Calls Tryz.prog 23 #[.agg #[.int .i64 pc, .int .i64 ln, .slice q n1 j1, .int .i64 2, .int .i64 i, .int .i64 y, .int .i64 k], v] w fun e w' => e = .returned (.int .i64 (goM ⟨pc, ln, ops, 2, i, y, k⟩ vs)) ∧ Below w.heap.size w w' := by
  have bX : Below w.heap.size w (w.alloc (.cells #[.int .i64 pc, .int .i64 ln, .slice q n1 j1, .int .i64 2, .int .i64 i, .int .i64 y, .int .i64 k] 35)) := alloc_below _ _
  have BX := hide bX
  have H1 := h.below bX
  obtain ⟨a, cap, off, rfl, h2, h3, hz, h4⟩ := H1
  unfold maxLen at h3
  obtain ⟨z, ez⟩ : ∃ z, vs[i]? = some z := ⟨_, List.getElem?_eq_getElem hi⟩
  obtain ⟨rfl, hcz⟩ := h4.resolve_left (fun e => by rw [e] at ez; simp at ez)
  have cz := hcz i z ez
  have lz : ((i : Nat) : Int) < (vs.length : Int) := by omega
  have gz := hide (at_yes ez)
  clear ez hcz
  clear h h4 hz bX
  generalize vs.length = n at *
  go_enter Tryz.func23, Tryz.ntmps23
  go_wp2
  go_ret
  exact ⟨Wrd.ret_int gz.out.symm, BX.out⟩
set_option maxRecDepth 8000 in
set_option maxHeartbeats 4000000 in
theorem l6Go_3t (vs : List Int) (pc ln k : Int) (q : Option Addr) (n1 j1 : Nat) (ops : List Opn) (i j : Nat) (hi : i < vs.length) (hj : j < vs.length) (hq : atI vs i = atI vs j) (B : Nat) (v : Value) (w : World) (h : Row w B v vs) (p0 : 0 ≤ pc) (p1 : pc ≤ 64) (l0 : 0 ≤ ln) (l1 : ln ≤ 8) :
    Calls Tryz.prog 23 #[.agg #[.int .i64 pc, .int .i64 ln, .slice q n1 j1, .int .i64 3, .int .i64 i, .int .i64 j, .int .i64 k], v] w fun e w' => e = .returned (.int .i64 (goM ⟨pc, ln, ops, 3, i, j, k⟩ vs)) ∧ Below w.heap.size w w' := by
  have bX : Below w.heap.size w (w.alloc (.cells #[.int .i64 pc, .int .i64 ln, .slice q n1 j1, .int .i64 3, .int .i64 i, .int .i64 j, .int .i64 k] 35)) := alloc_below _ _
  have BX := hide bX
  have H1 := h.below bX
  obtain ⟨a, cap, off, rfl, h2, h3, hz, h4⟩ := H1
  unfold maxLen at h3
  obtain ⟨z, ez⟩ : ∃ z, vs[i]? = some z := ⟨_, List.getElem?_eq_getElem hi⟩
  obtain ⟨z', ez'⟩ : ∃ z, vs[j]? = some z := ⟨_, List.getElem?_eq_getElem hj⟩
  obtain ⟨rfl, hc⟩ := h4.resolve_left (fun e => by rw [e] at ez; simp at ez)
  have cz := hc i z ez
  have cz' := hc j z' ez'
  have lz : ((i : Nat) : Int) < (vs.length : Int) := by omega
  have lz' : ((j : Nat) : Int) < (vs.length : Int) := by omega
  have gz := at_yes ez
  have gz' := at_yes ez'
  rw [gz, gz'] at hq
  have HD : Hid (goM ⟨pc, ln, ops, 3, (i : Int), (j : Int), k⟩ vs = k) := show _ = _ by
    unfold goM
    simp only []
    rw [gz, gz']
    simp [hq]
  clear ez ez' hc gz gz'
  clear h h4 hz bX
  generalize vs.length = n at *
  go_enter Tryz.func23, Tryz.ntmps23
  go_wp2_with fail
  refine region_tail 10 (by kernel_rfl) (by kernel_rfl) ?_
  simp only [List.take_succ_cons, List.take_zero, List.drop_succ_cons, List.drop_zero]
  repeat still_step
  refine wpStill_nil ?_
  go_wp2
  go_ret
  exact ⟨Wrd.ret_int HD.out.symm, BX.out.drew⟩
set_option maxRecDepth 8000 in
set_option maxHeartbeats 4000000 in
theorem l6Go_3f (vs : List Int) (pc ln k : Int) (q : Option Addr) (n1 j1 : Nat) (ops : List Opn) (i j : Nat) (hi : i < vs.length) (hj : j < vs.length) (hq : ¬ atI vs i = atI vs j) (B : Nat) (v : Value) (w : World) (h : Row w B v vs) (p0 : 0 ≤ pc) (p1 : pc ≤ 64) (l0 : 0 ≤ ln) (l1 : ln ≤ 8) :
    Calls Tryz.prog 23 #[.agg #[.int .i64 pc, .int .i64 ln, .slice q n1 j1, .int .i64 3, .int .i64 i, .int .i64 j, .int .i64 k], v] w fun e w' => e = .returned (.int .i64 (goM ⟨pc, ln, ops, 3, i, j, k⟩ vs)) ∧ Below w.heap.size w w' := by
  have bX : Below w.heap.size w (w.alloc (.cells #[.int .i64 pc, .int .i64 ln, .slice q n1 j1, .int .i64 3, .int .i64 i, .int .i64 j, .int .i64 k] 35)) := alloc_below _ _
  have BX := hide bX
  have H1 := h.below bX
  obtain ⟨a, cap, off, rfl, h2, h3, hz, h4⟩ := H1
  unfold maxLen at h3
  obtain ⟨z, ez⟩ : ∃ z, vs[i]? = some z := ⟨_, List.getElem?_eq_getElem hi⟩
  obtain ⟨z', ez'⟩ : ∃ z, vs[j]? = some z := ⟨_, List.getElem?_eq_getElem hj⟩
  obtain ⟨rfl, hc⟩ := h4.resolve_left (fun e => by rw [e] at ez; simp at ez)
  have cz := hc i z ez
  have cz' := hc j z' ez'
  have lz : ((i : Nat) : Int) < (vs.length : Int) := by omega
  have lz' : ((j : Nat) : Int) < (vs.length : Int) := by omega
  have gz := at_yes ez
  have gz' := at_yes ez'
  rw [gz, gz'] at hq
  have HD : Hid (goM ⟨pc, ln, ops, 3, (i : Int), (j : Int), k⟩ vs = pc + ln) := show _ = _ by
    unfold goM
    simp only []
    rw [gz, gz']
    simp [hq]
  clear ez ez' hc gz gz'
  clear h h4 hz bX
  generalize vs.length = n at *
  go_enter Tryz.func23, Tryz.ntmps23
  go_wp2_with fail
  refine region_tail 10 (by kernel_rfl) (by kernel_rfl) ?_
  simp only [List.take_succ_cons, List.take_zero, List.drop_succ_cons, List.drop_zero]
  repeat still_step
  refine wpStill_nil ?_
  go_wp2
  go_ret
  exact ⟨Wrd.ret_int HD.out.symm, BX.out.drew⟩
set_option maxRecDepth 8000 in
set_option maxHeartbeats 4000000 in
theorem l6Go_4t (vs : List Int) (pc ln k : Int) (q : Option Addr) (n1 j1 : Nat) (ops : List Opn) (i j : Nat) (hi : i < vs.length) (hj : j < vs.length) (hq : atI vs i < atI vs j) (B : Nat) (v : Value) (w : World) (h : Row w B v vs) (p0 : 0 ≤ pc) (p1 : pc ≤ 64) (l0 : 0 ≤ ln) (l1 : ln ≤ 8) :
    Calls Tryz.prog 23 #[.agg #[.int .i64 pc, .int .i64 ln, .slice q n1 j1, .int .i64 4, .int .i64 i, .int .i64 j, .int .i64 k], v] w fun e w' => e = .returned (.int .i64 (goM ⟨pc, ln, ops, 4, i, j, k⟩ vs)) ∧ Below w.heap.size w w' := by
  have bX : Below w.heap.size w (w.alloc (.cells #[.int .i64 pc, .int .i64 ln, .slice q n1 j1, .int .i64 4, .int .i64 i, .int .i64 j, .int .i64 k] 35)) := alloc_below _ _
  have BX := hide bX
  have H1 := h.below bX
  obtain ⟨a, cap, off, rfl, h2, h3, hz, h4⟩ := H1
  unfold maxLen at h3
  obtain ⟨z, ez⟩ : ∃ z, vs[i]? = some z := ⟨_, List.getElem?_eq_getElem hi⟩
  obtain ⟨z', ez'⟩ : ∃ z, vs[j]? = some z := ⟨_, List.getElem?_eq_getElem hj⟩
  obtain ⟨rfl, hc⟩ := h4.resolve_left (fun e => by rw [e] at ez; simp at ez)
  have cz := hc i z ez
  have cz' := hc j z' ez'
  have lz : ((i : Nat) : Int) < (vs.length : Int) := by omega
  have lz' : ((j : Nat) : Int) < (vs.length : Int) := by omega
  have gz := at_yes ez
  have gz' := at_yes ez'
  rw [gz, gz'] at hq
  have HD : Hid (goM ⟨pc, ln, ops, 4, (i : Int), (j : Int), k⟩ vs = k) := show _ = _ by
    unfold goM
    simp only []
    rw [gz, gz']
    simp [hq]
  clear ez ez' hc gz gz'
  clear h h4 hz bX
  generalize vs.length = n at *
  go_enter Tryz.func23, Tryz.ntmps23
  go_wp2_with fail
  refine region_tail 10 (by kernel_rfl) (by kernel_rfl) ?_
  simp only [List.take_succ_cons, List.take_zero, List.drop_succ_cons, List.drop_zero]
  repeat still_step
  refine wpStill_nil ?_
  go_wp2
  go_ret
  exact ⟨Wrd.ret_int HD.out.symm, BX.out.drew⟩
set_option maxRecDepth 8000 in
set_option maxHeartbeats 4000000 in
theorem l6Go_4f (vs : List Int) (pc ln k : Int) (q : Option Addr) (n1 j1 : Nat) (ops : List Opn) (i j : Nat) (hi : i < vs.length) (hj : j < vs.length) (hq : ¬ atI vs i < atI vs j) (B : Nat) (v : Value) (w : World) (h : Row w B v vs) (p0 : 0 ≤ pc) (p1 : pc ≤ 64) (l0 : 0 ≤ ln) (l1 : ln ≤ 8) :
    Calls Tryz.prog 23 #[.agg #[.int .i64 pc, .int .i64 ln, .slice q n1 j1, .int .i64 4, .int .i64 i, .int .i64 j, .int .i64 k], v] w fun e w' => e = .returned (.int .i64 (goM ⟨pc, ln, ops, 4, i, j, k⟩ vs)) ∧ Below w.heap.size w w' := by
  have bX : Below w.heap.size w (w.alloc (.cells #[.int .i64 pc, .int .i64 ln, .slice q n1 j1, .int .i64 4, .int .i64 i, .int .i64 j, .int .i64 k] 35)) := alloc_below _ _
  have BX := hide bX
  have H1 := h.below bX
  obtain ⟨a, cap, off, rfl, h2, h3, hz, h4⟩ := H1
  unfold maxLen at h3
  obtain ⟨z, ez⟩ : ∃ z, vs[i]? = some z := ⟨_, List.getElem?_eq_getElem hi⟩
  obtain ⟨z', ez'⟩ : ∃ z, vs[j]? = some z := ⟨_, List.getElem?_eq_getElem hj⟩
  obtain ⟨rfl, hc⟩ := h4.resolve_left (fun e => by rw [e] at ez; simp at ez)
  have cz := hc i z ez
  have cz' := hc j z' ez'
  have lz : ((i : Nat) : Int) < (vs.length : Int) := by omega
  have lz' : ((j : Nat) : Int) < (vs.length : Int) := by omega
  have gz := at_yes ez
  have gz' := at_yes ez'
  rw [gz, gz'] at hq
  have HD : Hid (goM ⟨pc, ln, ops, 4, (i : Int), (j : Int), k⟩ vs = pc + ln) := show _ = _ by
    unfold goM
    simp only []
    rw [gz, gz']
    simp [hq]
  clear ez ez' hc gz gz'
  clear h h4 hz bX
  generalize vs.length = n at *
  go_enter Tryz.func23, Tryz.ntmps23
  go_wp2_with fail
  refine region_tail 10 (by kernel_rfl) (by kernel_rfl) ?_
  simp only [List.take_succ_cons, List.take_zero, List.drop_succ_cons, List.drop_zero]
  repeat still_step
  refine wpStill_nil ?_
  go_wp2
  go_ret
  exact ⟨Wrd.ret_int HD.out.symm, BX.out.drew⟩
end Go.Proofs.YtaokopipgolmbaaGreatDoor.Ir
