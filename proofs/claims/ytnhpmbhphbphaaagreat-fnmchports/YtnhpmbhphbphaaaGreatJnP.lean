/-
  The program's map of deeds: what is put into it, and what is found.
-/
import Derived.Test.YtnhpmbhphbphaaaGreatMchZ
import Derived.WideMake
import Derived.Recover
namespace Go.Proofs.YtnhpmbhphbphaaaGreat.Mch
open Go.ChangeShapes Go.WideShapes Go.ChangeAt Go.RowKit IntS
/-- Entries of a map whose keys are 0, 1, 2 .. -/
def entsFrom : Nat → List Value → List MapEntry
  | _, [] => []
  | n, v :: r => { key := .int .i64 n, val := v, born := n } :: entsFrom (n + 1) r
theorem find_none : ∀ (fs : List Value) (n i k : Nat), n + fs.length ≤ k → Instr.findNow (.int .i64) (.int .i64 k) (entsFrom n fs) i = some none
  | [], _, _, _, _ => rfl
  | v :: r, n, i, k, h => by
    have hne : ((k : Int) == (n : Int)) = false := beq_eq_false_iff_ne.2 (by simp at h; omega)
    simp only [entsFrom, Instr.findNow, Instr.sameNow, if_true, hne]
    exact find_none r (n + 1) (i + 1) k (by simp at h; omega)
theorem find_at : ∀ (fs : List Value) (n i k : Nat) (v : Value), fs[k]? = some v → Instr.findNow (.int .i64) (.int .i64 ((n + k : Nat) : Int)) (entsFrom n fs) i = some (some (i + k, v))
  | [], _, _, _, _, h => by simp at h
  | x :: r, n, i, 0, v, h => by
    simp only [List.getElem?_cons_zero, Option.some.injEq] at h
    subst h
    simp [entsFrom, Instr.findNow, Instr.sameNow]
  | x :: r, n, i, k + 1, v, h => by
    have hne : (((n + (k + 1) : Nat) : Int) == (n : Int)) = false := beq_eq_false_iff_ne.2 (by omega)
    simp only [entsFrom, Instr.findNow, Instr.sameNow, if_true, hne]
    rw [show n + (k + 1) = n + 1 + k by omega, show i + (k + 1) = i + 1 + k by omega]
    exact find_at r (n + 1) (i + 1) k v (by simpa using h)
theorem ents_push : ∀ (fs : List Value) (n : Nat) (v : Value), entsFrom n fs ++ [{ key := .int .i64 ((n + fs.length : Nat) : Int), val := v, born := n + fs.length }] = entsFrom n (fs ++ [v])
  | [], n, v => by simp [entsFrom]
  | x :: r, n, v => by
    simp only [entsFrom, List.cons_append, List.length_cons]
    rw [← ents_push r (n + 1) v, show n + (r.length + 1) = n + 1 + r.length by omega]
/-- A map that holds these, by 0, 1, 2 .. -/
def MapIs (w : World) (D : Nat) (fs : List Value) : Prop := w.heap[D]? = some (.map (entsFrom 0 fs).toArray fs.length)
theorem MapIs.turn {w w' : World} {D B : Nat} {fs : List Value} (h : MapIs w D fs) (ht : Turn B w w') (hB : D ≠ B) : MapIs w' D fs := by
  have hl : D < w.heap.size := (Array.getElem?_eq_some_iff.1 h).1
  exact (ht.block D hl hB).trans h
theorem MapIs.below {w w' : World} {D : Nat} {fs : List Value} (h : MapIs w D fs) (hb : Below w.heap.size w w') : MapIs w' D fs := by
  have hl : D < w.heap.size := (Array.getElem?_eq_some_iff.1 h).1
  exact (hb.block D hl).trans h
theorem wpList_insert {w : World} {ops : Array Oper} {rest : List Oper} {o : Oper} {a : Act} {Q : Exit → Act → World → Prop} (hgd : o.guard = none) (hds : o.dst = none) (x y z : Operand) (ho : o.op = .insert 51 x y z)
    (D : Nat) (fs : List Value) (n : Nat) (v : Value) (hM : MapIs w D fs) (hn : fs.length = n) (hx : a.eval x = .map (some D)) (hy : a.eval y = .int .i64 n) (hz : a.eval z = v)
    (h : ∀ w' : World, Hid (MapIs w' D (fs ++ [v])) → Hid (Turn D w w') → wpList Tryz.prog ops Q rest a w') :
    wpList Tryz.prog ops Q (o :: rest) a w := by
  subst hn
  have hk : Tryz.prog.underlying 3 = some (.int .i64) := Tryz.underlying3
  have hf := find_none fs 0 0 fs.length (by omega)
  have hc : (Instr.checkKey false 10000 3 (.int .i64 fs.length)).run Tryz.prog w = .ok () w := MapKept.run_checkKey (k := .int .i64 fs.length) hk (by simp [MapKept.IsKey]) false 9999
  have hM' : w.heap[D]? = some (.map (entsFrom 0 fs).toArray fs.length) := hM
  have hrun : (Instr.mapUpdate 51 (.map (some D)) (.int .i64 fs.length) v).run Tryz.prog w = .ok () { w with heap := w.heap.setIfInBounds D (.map (entsFrom 0 (fs ++ [v])).toArray (fs.length + 1)) } := by
    simp [Instr.mapUpdate, run_underlying Tryz.underlying51, MapKept.run_getObj_map hM', hc, MapKept.run_findKey hk hf, MapKept.run_setObj_map _ hM', Result.andThen]
    rw [← ents_push fs 0 v]
    simp
  refine wpList_plain hgd fun K hK => ?_
  obtain ⟨e1, e2⟩ := MapKept.heap_set (o' := .map (entsFrom 0 (fs ++ [v])).toArray (fs.length + 1)) hM'
  have key := hK _ _ (h { w with heap := w.heap.setIfInBounds D (.map (entsFrom 0 (fs ++ [v])).toArray (fs.length + 1)) } (show MapIs _ D (fs ++ [v]) by unfold MapIs; rw [show (fs ++ [v]).length = fs.length + 1 by simp]; exact e1) (show Turn D w _ from ⟨rfl, rfl, rfl, by simp, fun k _ hk => e2 k hk⟩))
  unfold Oper.wp
  simp [execOp, ho, hx, hy, hz, hrun, Result.andThen]
  simpa [Oper.upon, Act.put, hds] using key
theorem run_found {w : World} {D : Nat} {fs : List Value} (hM : MapIs w D fs) (k : Nat) (v : Value) (hv : fs[k]? = some v) : (Instr.lookup 51 (.map (some D)) (.int .i64 k) false).run Tryz.prog w = .ok v w := by
  have hk : Tryz.prog.underlying 3 = some (.int .i64) := Tryz.underlying3
  have hf := find_at fs 0 0 k v hv
  rw [Nat.zero_add] at hf
  have hM' : w.heap[D]? = some (.map (entsFrom 0 fs).toArray fs.length) := hM
  have hc (e : Bool) : (Instr.checkKey e 10000 3 (.int .i64 k)).run Tryz.prog w = .ok () w := MapKept.run_checkKey (k := .int .i64 k) hk (by simp [MapKept.IsKey]) e 9999
  simp [Instr.lookup, run_underlying Tryz.underlying51, MapKept.run_getObj_map hM', hc, MapKept.run_findKey hk hf, Result.andThen]
/-- While the map is made: what it holds, and the boxes of what was made beside it. -/
structure Made (w u : World) (fs : List Value) (cs : List (Nat × Int)) : Prop where
  map : MapIs u w.heap.size fs
  bw : Below w.heap.size w u
  cs : ∀ p ∈ cs, u.cell? ⟨p.1, 0, none⟩ = some (.int .i64 p.2) ∧ w.heap.size < p.1 ∧ p.1 < u.heap.size
theorem Made.ins {w u u' : World} {fs fs' : List Value} {cs : List (Nat × Int)} (h : Made w u fs cs) (hm : MapIs u' w.heap.size fs') (ht : Turn w.heap.size u u') : Made w u' fs' cs :=
  ⟨hm, h.bw.trans (ht.below (Nat.le_refl _) h.bw.size), fun p hp => by
    obtain ⟨h1, h2, h3⟩ := h.cs p hp
    exact ⟨(ht.cell (p := ⟨p.1, 0, none⟩) h3 (by show p.1 ≠ _; omega)).trans h1, h2, Nat.lt_of_lt_of_le h3 ht.size⟩⟩
theorem Made.box {w u u' : World} {fs : List Value} {cs : List (Nat × Int)} {g : Nat} {n : Int} (h : Made w u fs cs) (hc : u'.cell? ⟨g, 0, none⟩ = some (.int .i64 n)) (h1 : u.heap.size ≤ g) (h2 : g < u'.heap.size) (hb : Below u.heap.size u u') : Made w u' fs ((g, n) :: cs) := by
  have hl : w.heap.size < u.heap.size := (Array.getElem?_eq_some_iff.1 h.map).1
  refine ⟨h.map.below hb, h.bw.trans (hb.mono h.bw.size), fun p hp => ?_⟩
  rcases List.mem_cons.1 hp with rfl | hp
  · exact ⟨hc, by show _ < g; omega, h2⟩
  · obtain ⟨k1, k2, k3⟩ := h.cs p hp
    exact ⟨cell_below hb k1, k2, Nat.lt_of_lt_of_le k3 hb.size⟩
theorem Made.new (w : World) : Made w (w.alloc (.map #[] 0)) [] [] :=
  ⟨(MapKept.heap_alloc w _).1, (Below.refl _ _).alloc (Nat.le_refl _) _, fun p hp => by cases hp⟩
def fn (f : Nat) : Value := .func (.func f) #[] #[]
def clo (f g : Nat) : Value := .func (.func f) #[] #[.pointer (some ⟨g, 0, none⟩)]
/-- The deeds, by what an instruction does. -/
def deedsOf (c3 c4 c5 c6 c7 c11 c12 : Nat) : List Value := [fn 58, fn 59, fn 61, clo 86 c3, clo 86 c4, clo 86 c5, clo 86 c6, clo 86 c7, fn 63, fn 65, fn 67, clo 93 c11, clo 93 c12, fn 69, fn 70, fn 71]
/-- A map of the deeds: it, and the boxes that its closures hold, lie from block lo on, below block hi. -/
structure Deeds (w : World) (lo hi D : Nat) : Prop where
  ex : ∃ c3 c4 c5 c6 c7 c11 c12, MapIs w D (deedsOf c3 c4 c5 c6 c7 c11 c12) ∧ (lo ≤ D ∧ D < hi) ∧ ∀ p ∈ [(c3, (1 : Int)), (c4, 2), (c5, 3), (c6, 4), (c7, 5), (c11, 1), (c12, 2)], w.cell? ⟨p.1, 0, none⟩ = some (.int .i64 p.2) ∧ lo ≤ p.1 ∧ p.1 < hi
theorem Made.deeds {w u : World} {fs : List Value} {cs : List (Nat × Int)} {c3 c4 c5 c6 c7 c11 c12 : Nat} (h : Made w u fs cs) (hc : cs = [(c12, 2), (c11, 1), (c7, 5), (c6, 4), (c5, 3), (c4, 2), (c3, 1)]) (hf : fs = deedsOf c3 c4 c5 c6 c7 c11 c12) : Deeds u w.heap.size u.heap.size w.heap.size := by
  subst hc hf
  have hl : w.heap.size < u.heap.size := (Array.getElem?_eq_some_iff.1 h.map).1
  refine ⟨c3, c4, c5, c6, c7, c11, c12, h.map, ⟨Nat.le_refl _, hl⟩, fun p hp => ?_⟩
  have hm : p ∈ [(c12, (2 : Int)), (c11, 1), (c7, 5), (c6, 4), (c5, 3), (c4, 2), (c3, 1)] := by
    simp only [List.mem_cons, List.not_mem_nil, or_false] at hp ⊢
    rcases hp with h | h | h | h | h | h | h <;> simp [h]
  obtain ⟨h1, h2, h3⟩ := h.cs p hm
  exact ⟨h1, by omega, h3⟩
theorem Deeds.keep {S : Nat → Prop} {w w' : World} {lo hi D : Nat} (h : Deeds w lo hi D) (hk : Keep S w w') (hS : ∀ k, lo ≤ k → k < hi → ¬ S k) : Deeds w' lo hi D := by
  obtain ⟨c3, c4, c5, c6, c7, c11, c12, hM, hD, hc⟩ := h
  have hl : D < w.heap.size := (Array.getElem?_eq_some_iff.1 hM).1
  refine ⟨c3, c4, c5, c6, c7, c11, c12, (hk.block D hl (hS D hD.1 hD.2)).trans hM, hD, fun p hp => ?_⟩
  obtain ⟨h1, h2, h3⟩ := hc p hp
  exact ⟨(World.cell?_of_block (w := w) (a := ⟨p.1, 0, none⟩) (hk.block p.1 (World.block_lt_of_cell? w _ h1) (hS _ h2 h3))).trans h1, h2, h3⟩
end Go.Proofs.YtnhpmbhphbphaaaGreat.Mch
namespace Go.Proofs.YtnhpmbhphbphaaaGreat.MchI
open Go.ChangeShapes Go.WideShapes Go.ChangeAt Go.RowKit IntS Mch
theorem make_fn : ∀ (f : Fn) (first cap : Array Value) (w : World), (Instr.makeFunc f first cap).run Tryz.prog w = .ok (.func f first cap) w := fun _ _ _ _ => rfl
theorem reckons (op : Int) (w : World) : Calls Tryz.prog 62 #[.int .i64 op] w fun e w' => ∃ g, e = .returned (clo 86 g) ∧ w'.cell? ⟨g, 0, none⟩ = some (.int .i64 op) ∧ w.heap.size ≤ g ∧ g < w'.heap.size ∧ Below w.heap.size w w' := by
  have hmf := make_fn
  have hc : Hid ((w.alloc (.cells #[.int .i64 op] 3)).cell? ⟨w.heap.size, 0, none⟩ = some (.int .i64 op)) := (World.cell?_alloc_new w _ _ _).trans rfl
  have hb : Hid (Below w.heap.size w (w.alloc (.cells #[.int .i64 op] 3))) := (Below.refl _ _).alloc (Nat.le_refl _) _
  go_enter Tryz.func62, Tryz.ntmps62
  go_wp2
  go_ret
  exact ⟨w.heap.size, rfl, hc.out, Nat.le_refl _, by simp, hb.out⟩
theorem asks (op : Int) (w : World) : Calls Tryz.prog 68 #[.int .i64 op] w fun e w' => ∃ g, e = .returned (clo 93 g) ∧ w'.cell? ⟨g, 0, none⟩ = some (.int .i64 op) ∧ w.heap.size ≤ g ∧ g < w'.heap.size ∧ Below w.heap.size w w' := by
  have hmf := make_fn
  have hc : Hid ((w.alloc (.cells #[.int .i64 op] 3)).cell? ⟨w.heap.size, 0, none⟩ = some (.int .i64 op)) := (World.cell?_alloc_new w _ _ _).trans rfl
  have hb : Hid (Below w.heap.size w (w.alloc (.cells #[.int .i64 op] 3))) := (Below.refl _ _).alloc (Nat.le_refl _) _
  go_enter Tryz.func68, Tryz.ntmps68
  go_wp2
  go_ret
  exact ⟨w.heap.size, rfl, hc.out, Nat.le_refl _, by simp, hb.out⟩
set_option maxRecDepth 8000 in
set_option maxHeartbeats 4000000 in
theorem deeds (w : World) : Calls Tryz.prog 34 #[] w fun e w' => ∃ D, e = .returned (.map (some D)) ∧ Deeds w' w.heap.size w'.heap.size D ∧ Below w.heap.size w w' := by
  have hmm := @run_makeMap Tryz.prog
  have MD := hide (Made.new w)
  go_enter Tryz.func34, Tryz.ntmps34
  go_wp2_with (first
    | (refine wpList_insert rfl rfl _ _ _ rfl w.heap.size _ _ _ MD.out.map rfl rfl rfl rfl ?_; intro u HMn HTn; replace MD := hide (MD.out.ins HMn.out HTn.out); clear HMn HTn)
    | (go_at_call 62; refine (reckons _ _).mono ?_; rintro e u ⟨g, rfl, hc, h1, h2, hb⟩; replace MD := hide (MD.out.box hc h1 h2 hb); clear hc h1 h2 hb)
    | (go_at_call 68; refine (asks _ _).mono ?_; rintro e u ⟨g, rfl, hc, h1, h2, hb⟩; replace MD := hide (MD.out.box hc h1 h2 hb); clear hc h1 h2 hb))
  have FI := hide (Made.deeds MD.out rfl rfl)
  have BW := hide MD.out.bw
  clear MD
  go_ret
  exact ⟨w.heap.size, rfl, FI.out, BW.out⟩
end Go.Proofs.YtnhpmbhphbphaaaGreat.MchI
namespace Go.Proofs.YtnhpmbhphbphaaaGreat.MchI
open Go.ChangeShapes Go.WideShapes Go.ChangeAt Go.RowKit IntS Mch
theorem standing_assert (h : Int) (w : World) : (Instr.typeAssert (.iface 64 (.int .i64 h)) 20 64 true).run Tryz.prog w = .ok (.tuple #[.int .i64 h, .bool true]) w := by kernel_rfl
set_option maxHeartbeats 1000000 in
/-- The deferred function, where the step stands still. -/
theorem caught (q Z : Nat) (h h0 : Int) (older : List PanicEntry) (w : World) (cq : w.cell? ⟨q, 0, none⟩ = some (.pointer (some ⟨Z, 0, none⟩))) (z6 : w.cell? ⟨Z, 6, none⟩ = some (.int .i64 h0)) (y6 : w.frozen? ⟨Z, 6, none⟩ = false) :
    CallsD Tryz.prog 54 #[.pointer (some ⟨q, 0, none⟩)] (.panicking ({ v := .iface 64 (.int .i64 h), recovered := false } :: older)) w fun e u' w' =>
      e = .returned (.tuple #[]) ∧ u' = .panicking ({ v := .iface 64 (.int .i64 h), recovered := true } :: older) ∧ w' = w.setCell ⟨Z, 6, none⟩ (.int .i64 h) := by
  have ta := standing_assert h
  refine callsD_of_wpS Tryz.func54 rfl fun c₀ cs hu => ?_
  apply wpS_seq
  apply wpS_region
  simp [wpOpsS, go_sem, recoverD, hu, Tryz.ntmps54, Exit.thenS]
  apply wpS_seq
  apply wpS_region
  simp [wpOpsS, go_sem, Exit.thenS]
  refine wpS_cond (t := true) (by simp [Act.eval, Array.replicate]) ?_
  simp only [if_true]
  apply wpS_seq
  apply wpS_region
  simp [wpOpsS, go_sem, ta, Exit.thenS]
  apply wpS_seq
  apply wpS_seq
  apply wpS_region
  simp [wpOpsS, go_sem, Exit.thenS]
  refine wpS_cond (t := false) (by simp [Act.eval, Array.replicate]) ?_
  simp only [Bool.false_eq_true, if_false]
  refine wpS_of_wp (wp_skip ?_)
  simp only [Exit.thenS]
  apply wpS_region
  simp [wpOpsS, go_sem, cq, z6, y6, bodyPostS, results, Tryz.results54]
set_option maxHeartbeats 1000000 in
theorem idle (q : Nat) (w : World) :
    CallsD Tryz.prog 54 #[.pointer (some ⟨q, 0, none⟩)] .returning w fun e u' w' => e = .returned (.tuple #[]) ∧ u' = .returning ∧ w' = w := by
  refine callsD_of_wpS Tryz.func54 rfl fun c₀ cs hu => ?_
  apply wpS_seq
  apply wpS_region
  simp [wpOpsS, go_sem, recoverD, hu, Tryz.ntmps54, Exit.thenS]
  apply wpS_seq
  apply wpS_region
  simp [wpOpsS, go_sem, Exit.thenS]
  refine wpS_cond (t := false) (by simp [Act.eval, Array.replicate]) ?_
  simp only [Bool.false_eq_true, if_false]
  refine wpS_of_wp (wp_skip ?_)
  cases c₀
  simp_all [bodyPostS, results, Tryz.results54]
end Go.Proofs.YtnhpmbhphbphaaaGreat.MchI
