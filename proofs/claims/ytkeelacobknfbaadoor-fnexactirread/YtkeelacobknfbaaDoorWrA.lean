/-
  Bytes: a piece of code's bytes; lists of bytes that a call makes.
-/
import Derived.Test.YtkeelacobknfbaaDoorIrKl
import Derived.Test.YtkeelacobknfbaaDoorFlat
import Derived.Test.YtkeelacobknfbaaDoorBytS
import Derived.Test.YtkeelacobknfbaaDoorPhaseC
import Derived.Test.YtkeelacobknfbaaDoorPhaseTw
import Derived.Test.YtkeelacobknfbaaDoorDtB
import Derived.Maps.AppendAt
namespace Go.Proofs.YtkeelacobknfbaaDoor.Wr
set_option linter.unusedVariables false
set_option linter.unusedSimpArgs false
open Go.ChangeShapes Go.WideShapes Go.ChangeAt Go.RowKit IntS Flat
open Ir Push
open Mch (Rec)
def opY (o : Opn) : List Int := [o.kd % 256, o.x % 256, o.y % 256, o.k / 256, o.k % 256, o.t % 256]
def headY (b : Bk) : List Int := [b.pc % 256, b.ln % 256, b.en % 256, b.x % 256, b.y % 256, b.k / 256, b.k % 256]
def opsY (ops : List Opn) : List Int := (ops.map opY).flatten
/-- A piece of code's bytes. -/
def bytesB (b : Bk) : List Int := if okB b = true then headY b ++ opsY b.ops else []
theorem opsY_next {ops : List Opn} {j : Nat} {o : Opn} (h : ops[j]? = some o) : opsY (ops.take (j + 1)) = opsY (ops.take j) ++ opY o := by
  unfold opsY
  rw [List.take_add_one, h]
  simp
theorem opsY_len (ops : List Opn) : (opsY ops).length = ops.length * 6 := by
  unfold opsY
  induction ops with
  | nil => rfl
  | cons o t ih =>
    simp only [List.map_cons, List.flatten_cons, List.length_append, ih, List.length_cons]
    have : (opY o).length = 6 := rfl
    omega
theorem op_k {ah : List Opn} {o : Opn} {size : Int} (h : opB ah o size = true) : 0 ≤ o.k ∧ o.k < 65536 := by
  obtain ⟨kd, x, y, k, t⟩ := o
  unfold opB at h
  simp only [] at h ⊢
  split at h
  · simp [inI] at h; omega
  split at h
  · simp [inI] at h; omega
  split at h
  · simp [inI] at h; omega
  split at h
  · simp [inI] at h; omega
  split at h
  · simp [inI] at h; omega
  split at h
  · simp [inI] at h; omega
  split at h
  · simp [inI] at h; omega
  · cases h
theorem end_k {ops : List Opn} {en x y k : Int} (h : endB ops en x y k = true) : 0 ≤ k ∧ k < 65536 := by
  unfold endB at h
  split at h
  · simp [inI] at h; omega
  split at h
  · simp [inI] at h; omega
  split at h
  · simp [inI] at h; omega
  · cases h
/-- A piece of code that is ok, opened. -/
theorem ok_open {b : Bk} (h : okB b = true) : (1 ≤ b.ln ∧ b.ln ≤ 8) ∧ b.ops.length ≤ 48 ∧ (∀ (i : Nat) o, b.ops[i]? = some o → opB (b.ops.take i) o b.ln = true) ∧ endB b.ops b.en b.x b.y b.k = true := by
  unfold okB headB at h
  simp only [Bool.and_eq_true, decide_eq_true_eq] at h
  obtain ⟨⟨⟨⟨h1, h2⟩, h3⟩, h4⟩, h5⟩ := h
  refine ⟨by simp [inI] at h1; omega, h3, fun i o ho => ?_, h5⟩
  unfold opsB at h4
  have := List.all_eq_true.1 h4 i (List.mem_range.2 (List.getElem?_eq_some_iff.1 ho).1)
  rw [ho] at this
  exact this
def valsY (ys : List Int) : List Value := ys.map (Value.int .u8)
theorem valsY_len (ys : List Int) : (valsY ys).length = ys.length := by simp [valsY]
def OwnY (w : World) (lo : Nat) (v : Value) (ys : List Int) : Prop := w.ownsRow lo 5 1 v ys.length (valsY ys)
theorem infoY : ∃ i, Tryd.prog.info? 5 = some i ∧ i.zero = some (.int .u8 0) ∧ i.size = 1 ∧ i.bytes = 1 := by
  have hinfo : (Tryd.prog.info? 5).map (fun i => (i.zero, i.size, i.bytes)) = some (some (.int .u8 0), 1, 1) := by kernel_rfl
  obtain ⟨i, hi, h⟩ := Option.map_eq_some_iff.1 hinfo
  simp only [Prod.mk.injEq] at h
  exact ⟨i, hi, h.1, h.2.1, h.2.2⟩
theorem OwnY.nil (w : World) (lo : Nat) : OwnY w lo (.slice none 0 0) [] := ⟨rfl, Or.inl ⟨rfl, rfl⟩⟩
theorem OwnY.below {w w' : World} {lo : Nat} {v : Value} {ys : List Int} (h : OwnY w lo v ys) (hb : Below w.heap.size w w') : OwnY w' lo v ys := owns_turn h (Turn.of_below (B := w.heap.size) hb) (Or.inr (Nat.le_refl _))
theorem OwnY.fresh (w : World) (lo : Nat) (ys : List Int) (hlo : lo ≤ w.heap.size) (hl : ys.length ≤ maxLen) : OwnY (w.alloc (.cells (valsY ys).toArray 5)) lo (.slice (some ⟨w.heap.size, 0, none⟩) ys.length ys.length) ys := by
  refine ⟨by rw [valsY_len, Nat.mul_one], Or.inr ⟨w.heap.size, ys.length, (valsY ys).toArray, rfl, hlo, by show (w.heap.push _)[w.heap.size]? = _; exact Array.getElem?_push_size, Nat.le_refl _, hl, ?_, ?_⟩⟩
  · simp [valsY]
  · rw [Nat.mul_one]
    show (valsY ys).take ys.length = valsY ys
    exact List.take_of_length_le (by rw [valsY_len]; exact Nat.le_refl _)
theorem OwnY.form {w : World} {lo n cap : Nat} {q : Option Addr} {ys : List Int} (h : OwnY w lo (.slice q n cap) ys) : (q = none ∧ ys = []) ∨ ∃ G, q = some ⟨G, 0, none⟩ ∧ lo ≤ G ∧ G < w.heap.size := by
  obtain ⟨hl, ⟨hv, h2⟩ | ⟨g, cap', cur, hv, hb, hg, _⟩⟩ := h
  · cases hv
    exact Or.inl ⟨rfl, List.length_eq_zero_iff.1 h2⟩
  · cases hv
    refine Or.inr ⟨g, rfl, hb, ?_⟩
    rcases Nat.lt_or_ge g w.heap.size with h' | h'
    · exact h'
    · rw [Array.getElem?_eq_none h'] at hg; cases hg
theorem OwnY.len {w : World} {lo n cap : Nat} {q : Option Addr} {ys : List Int} (h : OwnY w lo (.slice q n cap) ys) : ys.length = n := by
  obtain ⟨hl, ⟨hv, h2⟩ | ⟨g, cap', cur, hv, _⟩⟩ := h
  · cases hv; exact h2
  · cases hv; rfl
theorem OwnY.wrow {w : World} {lo n cap : Nat} {q : Option Addr} {ys : List Int} (h : OwnY w lo (.slice q n cap) ys) : ∃ B, BytS.WRow w B (.slice q n cap) ys ∧ (ys = [] ∨ lo ≤ B) := by
  have hn := h.len
  subst hn
  obtain ⟨hl, ⟨hv, h2⟩ | ⟨g, cap', cur, hv, hb, hg, hle, hm, hc, ht⟩⟩ := h
  · have e0 := List.length_eq_zero_iff.1 h2
    subst e0
    cases hv
    exact ⟨0, ⟨none, 0, 0, rfl, Nat.le_refl _, by unfold maxLen; omega, fun _ => rfl, Or.inl rfl⟩, Or.inl rfl⟩
  · cases hv
    have hlt : g < w.heap.size := by
      rcases Nat.lt_or_ge g w.heap.size with h' | h'
      · exact h'
      · rw [Array.getElem?_eq_none h'] at hg; cases hg
    refine ⟨g, ⟨_, cap, 0, rfl, hle, hm, (fun h => by cases h), Or.inr ⟨rfl, hlt, fun i b hx => ?_⟩⟩, Or.inr hb⟩
    rw [Nat.zero_add]
    have hi : i < ys.length * 1 := by rw [Nat.mul_one]; exact (List.getElem?_eq_some_iff.1 hx).1
    have h1 : cur.toList[i]? = some (.int .u8 b) := by
      have e1 : (cur.toList.take (ys.length * 1))[i]? = cur.toList[i]? := by rw [List.getElem?_take_of_lt hi]
      rw [← e1, ht]
      simp [valsY, List.getElem?_map, hx]
    have h2 : cur[i]? = some (.int .u8 b) := by rw [← Array.getElem?_toList]; exact h1
    constructor
    · unfold World.cell?
      simp [hg, h2]
    · unfold World.frozen?
      simp [hg]
/-- Bytes more. -/
theorem run_joinY {w : World} {ty : TypeId} {lo n cap m : Nat} {q : Option Addr} {ys zs : List Int} (hown : OwnY w lo (.slice q n cap) ys) (hn : ys.length ≤ 1000000) (hlo : lo ≤ w.heap.size) (Z : Nat) (hr : Rec Z (valsY zs) w) (hm : zs.length = m) (h1 : 1 ≤ m) (h9 : m ≤ 100) :
    ∃ q' cap' w' T, (Builtin.append_ #[22, 22] ty #[.slice q n cap, .slice (some ⟨Z, 0, none⟩) m m]).run Tryd.prog w = .ok (.slice q' (n + m) cap') w' ∧ OwnY w' lo (.slice q' (n + m) cap') (ys ++ zs) ∧ Turn T w w' ∧ (q = some ⟨T, 0, none⟩ ∨ T = w.heap.size) ∧ lo ≤ T ∧ (∀ G, q' = some ⟨G, 0, none⟩ → q = some ⟨G, 0, none⟩ ∨ G = w.heap.size) := by
  obtain ⟨i, hi, hz, hsz, hby⟩ := infoY
  have e := hown.len
  subst e
  obtain ⟨v', w', g1, g2, g3, -, g6⟩ := run_append_own_at (P := Tryd.prog) w lo 22 ty 5 i _ 1 1 Tryd.underlying22 hi hz hsz hby rfl (by decide) _ ys.length (valsY ys) hown ⟨Z, 0, none⟩ m m (valsY zs) (by rw [valsY_len, hm, Nat.mul_one]) (fun j u hu => by rw [Addr.add_lit, Nat.zero_add]; exact hr.cell j u hu) (fun u hu => by
    obtain ⟨x, _, rfl⟩ := List.mem_map.1 hu
    rfl) (by unfold maxLen; omega) (by omega) hlo
  have e2 : (ys ++ zs).length = ys.length + m := by rw [List.length_append, hm]
  have g2' : OwnY w' lo v' (ys ++ zs) := by
    unfold OwnY
    rw [e2, show valsY (ys ++ zs) = valsY ys ++ valsY zs by simp [valsY]]
    exact g2
  have g5 : ∃ q' cap', v' = .slice q' (ys.length + m) cap' := by
    obtain ⟨_, ⟨_, h2⟩ | ⟨g, cap', cur, hv, _⟩⟩ := g2
    · omega
    · exact ⟨_, _, hv⟩
  obtain ⟨q', cap', rfl⟩ := g5
  obtain ⟨T, t1, t2⟩ := grown_turn g3 (hown.form.imp (fun h => h.1) (fun ⟨G, h, _⟩ => ⟨G, h⟩))
  refine ⟨q', cap', w', T, g1, g2', t1, t2, ?_, fun G eG => ?_⟩
  rotate_left
  · subst eG
    rcases g6 with g6 | g6
    · left
      rcases hown.form with ⟨h, _⟩ | ⟨G', h, _, _⟩
      · rw [h] at g6; simp [Value.ownBlock] at g6
      · rw [h] at g6 ⊢
        simp [Value.ownBlock] at g6
        rw [g6]
    · right
      simpa [Value.ownBlock] using g6
  rcases t2 with t2 | t2
  · rcases hown.form with ⟨h, _⟩ | ⟨G, h, h2, _⟩
    · rw [h] at t2; cases t2
    · rw [h] at t2; cases t2; exact h2
  · omega
end Go.Proofs.YtkeelacobknfbaaDoor.Wr
