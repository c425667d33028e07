/-
  Operations in a slice that the call made: what it is, how one more is put behind; contracts of the laws' own markIrBlock and heldIrBlock; what a piece of code's operations are, instruction by instruction.
-/
import Derived.Test.YtfjlnocikldhjaaBlkB
import Derived.Test.YtfjlnocikldhjaaIrP
namespace Go.Proofs.Ytfjlnocikldhjaa.Lw
set_option linter.unusedVariables false
set_option linter.unusedSimpArgs false
open Go.ChangeShapes Go.WideShapes Go.ChangeAt Go.RowKit IntS Flat
open InsS (In4)
open Ir (Opn Bk bv ORow RBk OpAt)
open Mch (Rec)
def flatO : List Opn → List Int
  | [] => []
  | o :: r => o.kd :: o.x :: o.y :: o.k :: o.t :: flatO r
theorem flatO_len : ∀ os : List Opn, (flatO os).length = os.length * 5
  | [] => rfl
  | o :: r => by simp [flatO, flatO_len r]; omega
theorem flatO_app : ∀ a b : List Opn, flatO (a ++ b) = flatO a ++ flatO b
  | [], b => rfl
  | o :: a, b => by simp [flatO, flatO_app a b]
theorem flatO_at : ∀ (os : List Opn) (i : Nat) (c : Opn), os[i]? = some c → (flatO os)[i * 5]? = some c.kd ∧ (flatO os)[i * 5 + 1]? = some c.x ∧ (flatO os)[i * 5 + 2]? = some c.y ∧ (flatO os)[i * 5 + 3]? = some c.k ∧ (flatO os)[i * 5 + 4]? = some c.t
  | [], i, c, h => by simp at h
  | d :: r, 0, c, h => by
    obtain rfl := Option.some.inj h
    exact ⟨rfl, rfl, rfl, rfl, rfl⟩
  | d :: r, i + 1, c, h => by
    have := flatO_at r i c h
    rw [show (i + 1) * 5 = i * 5 + 1 + 1 + 1 + 1 + 1 by omega]
    exact this
theorem orow_of {w : World} {B : Nat} {v : Value} {os : List Opn} (h : FRow 5 w B v os.length (flatO os)) : ORow w B v os := by
  obtain ⟨a, cap, off, h1, h2, h3, hz, hl, h4⟩ := h
  refine ⟨a, cap, off, h1, h2, h3, hz, h4.imp (fun e => List.length_eq_zero_iff.1 e) fun ⟨e, q⟩ => ⟨e, fun i o ho => ?_⟩⟩
  obtain ⟨k1, k2, k3, k4, k5⟩ := flatO_at os i o ho
  exact ⟨q _ _ k1, q _ _ k2, q _ _ k3, q _ _ k4, q _ _ k5⟩
/-- Operations in a slice that the call made. -/
abbrev OwnO (w : World) (lo : Nat) (v : Value) (os : List Opn) : Prop := OwnF 82 5 w lo v os.length (flatO os)
theorem infoOp : ∃ i, Try.prog.info? 82 = some i ∧ i.zero = some (.agg #[.int .i64 0, .int .i64 0, .int .i64 0, .int .i64 0, .int .i64 0]) ∧ i.size = 5 ∧ i.bytes = 40 := by
  have hinfo : (Try.prog.info? 82).map (fun i => (i.zero, i.size, i.bytes)) = some (some (.agg #[.int .i64 0, .int .i64 0, .int .i64 0, .int .i64 0, .int .i64 0]), 5, 40) := by kernel_rfl
  obtain ⟨i, hi, h⟩ := Option.map_eq_some_iff.1 hinfo
  simp only [Prod.mk.injEq] at h
  exact ⟨i, hi, h.1, h.2.1, h.2.2⟩
def ov (o : Opn) : List Value := [.int .i64 o.kd, .int .i64 o.x, .int .i64 o.y, .int .i64 o.k, .int .i64 o.t]
/-- One operation more. -/
theorem run_pushO {w : World} {ty : TypeId} {lo cap : Nat} {q : Option Addr} {os : List Opn} (hown : OwnO w lo (.slice q os.length cap) os) (hn : os.length ≤ 1000000000000) (hlo : lo ≤ w.heap.size) (Z : Nat) (o : Opn) (hr : Rec Z (ov o) w) :
    ∃ g' cap' w', (Builtin.append_ #[40, 40] ty #[.slice q os.length cap, .slice (some ⟨Z, 0, none⟩) 1 1]).run Try.prog w = .ok (.slice (some ⟨g', 0, none⟩) (os.length + 1) cap') w' ∧ OwnO w' lo (.slice (some ⟨g', 0, none⟩) (os.length + 1) cap') (os ++ [o]) ∧ ((Value.slice q os.length cap).ownBlock = some g' ∨ w.heap.size ≤ g') ∧ g' < w'.heap.size ∧ w.grownBy w' (Value.slice q os.length cap).ownBlock := by
  obtain ⟨j, hi, hz, hsz, hby⟩ := infoOp
  obtain ⟨g', cap', w', h1, h2, h3⟩ := run_flat (P := Try.prog) 40 ty 82 j _ 5 40 Try.underlying40 hi hz hsz hby rfl (by decide) (by decide) hown hn hlo ⟨Z, 0, none⟩ [o.kd, o.x, o.y, o.k, o.t] rfl (fun j x hx => by
    rw [Addr.add_lit, Nat.zero_add]
    match j, hx with
    | 0, hx => cases hx; exact hr.cell 0 _ rfl
    | 1, hx => cases hx; exact hr.cell 1 _ rfl
    | 2, hx => cases hx; exact hr.cell 2 _ rfl
    | 3, hx => cases hx; exact hr.cell 3 _ rfl
    | 4, hx => cases hx; exact hr.cell 4 _ rfl
    | j + 5, hx => simp at hx)
  refine ⟨g', cap', w', h1, ?_, h3⟩
  unfold OwnO
  rw [flatO_app, List.length_append]
  exact h2
/-- A slice was appended to, or stands as it did: of the blocks that were there its own alone may have turned, and where it lies now was its block, or is new. -/
structure Mv (w : World) (q : Option Addr) (w' : World) (q' : Option Addr) : Prop where
  os : w'.os = w.os
  tape : w'.tape = w.tape
  output : w'.output = w.output
  size : w.heap.size ≤ w'.heap.size
  block : ∀ k, k < w.heap.size → q ≠ some ⟨k, 0, none⟩ → w'.heap[k]? = w.heap[k]?
  fr : q' = q ∨ ∀ G, q' = some ⟨G, 0, none⟩ → w.heap.size ≤ G
theorem Mv.refl (w : World) (q : Option Addr) : Mv w q w q := ⟨rfl, rfl, rfl, Nat.le_refl _, fun _ _ _ => rfl, Or.inl rfl⟩
theorem Mv.of_below {w w' : World} (q : Option Addr) (h : Below w.heap.size w w') : Mv w q w' q := ⟨h.os, h.tape, h.output, h.size, fun k hk _ => h.block k hk, Or.inl rfl⟩
theorem Mv.trans {a b c : World} {q q' q'' : Option Addr} (h : Mv a q b q') (k : Mv b q' c q'') : Mv a q c q'' := by
  refine ⟨k.os.trans h.os, k.tape.trans h.tape, k.output.trans h.output, Nat.le_trans h.size k.size, fun j hj hq => (k.block j (Nat.lt_of_lt_of_le hj h.size) ?_).trans (h.block j hj hq), ?_⟩
  · rcases h.fr with e | e
    · rw [e]; exact hq
    · intro e2
      have := e _ e2
      omega
  · rcases k.fr with e | e
    · rw [e]; exact h.fr
    · exact Or.inr (fun G eG => Nat.le_trans h.size (e G eG))
theorem Mv.box {w w' : World} {q q' : Option Addr} {Z : Nat} {cs : List Value} (h : Mv w q w' q') (r : Rec Z cs w) (hq : q ≠ some ⟨Z, 0, none⟩) : Rec Z cs w' ∧ q' ≠ some ⟨Z, 0, none⟩ := by
  have e := h.block Z r.lt hq
  refine ⟨⟨Nat.lt_of_lt_of_le r.lt h.size, fun j v hv => (World.cell?_of_block (w := w) (a := ⟨Z, j, none⟩) e).trans (r.cell j v hv), fun j => (World.frozen?_of_block (w := w) (a := ⟨Z, j, none⟩) e).trans (r.soft j)⟩, ?_⟩
  rcases h.fr with e2 | e2
  · rw [e2]; exact hq
  · intro e3
    have := e2 _ e3
    have := r.lt
    omega
theorem Mv.below {w w' : World} {q q' : Option Addr} {lo : Nat} (h : Mv w q w' q') (hl : lo ≤ w.heap.size) (hq : ∀ G, q = some ⟨G, 0, none⟩ → lo ≤ G) : Below lo w w' := ⟨h.os, h.tape, h.output, h.size, fun k hk => h.block k (by omega) (fun e => by have := hq k e; omega)⟩
theorem Mv.push {w w' : World} {q : Option Addr} {n cap g' : Nat} (gr : w.grownBy w' (Value.slice q n cap).ownBlock) (hq : q = none ∨ ∃ G, q = some ⟨G, 0, none⟩) (hg : (Value.slice q n cap).ownBlock = some g' ∨ w.heap.size ≤ g') : Mv w q w' (some ⟨g', 0, none⟩) := by
  rcases hq with rfl | ⟨G, rfl⟩
  · refine ⟨gr.os, gr.tape, gr.output, gr.size, fun k hk _ => gr.block k hk (by simp [Value.ownBlock]), Or.inr (fun G e => ?_)⟩
    obtain rfl : g' = G := by injection e with e1; injection e1
    rcases hg with hg | hg
    · simp [Value.ownBlock] at hg
    · exact hg
  · refine ⟨gr.os, gr.tape, gr.output, gr.size, fun k hk hne => gr.block k hk (fun e => hne (by simp [Value.ownBlock] at e; rw [e])), ?_⟩
    rcases hg with hg | hg
    · simp [Value.ownBlock] at hg
      exact Or.inl (by rw [hg])
    · exact Or.inr (fun G' e => by obtain rfl : g' = G' := by injection e with e1; injection e1
                                   exact hg)
theorem Mv.turn {w w' w'' : World} {q q' : Option Addr} {Z : Nat} (h : Mv w q w' q') (ht : Turn Z w' w'') (hZ : w.heap.size ≤ Z) : Mv w q w'' q' :=
  ⟨ht.os.trans h.os, ht.tape.trans h.tape, ht.output.trans h.output, Nat.le_trans h.size ht.size, fun k hk hq => (ht.block k (Nat.lt_of_lt_of_le hk h.size) (by omega)).trans (h.block k hk hq), h.fr⟩
set_option maxRecDepth 8000 in
set_option maxHeartbeats 4000000 in
theorem markIrOpS (k : Int) (n : Nat) (fs : List Int) (B : Nat) (v : Value) (w : World) (h : WFRow 5 w B v n fs) (hk0 : 0 ≤ k) (hk1 : k ≤ 1000000000000) (hn : n ≤ 1000000000) :
    Calls Try.prog 51 #[v, .int .i64 k] w fun e w' => e = .returned (.int .i64 (k + (n : Int) * 5)) ∧ WFRow 5 w' B v n (marks k (n * 5)) ∧ Turn B w w' := by
  obtain ⟨a, cap, off, rfl, h2, h3, hz, hfl, h4⟩ := h
  have HM : Hid (cap ≤ maxLen) := h3
  have HZ := hide hz
  clear hz
  unfold maxLen at h3
  by_cases h0 : n = 0
  · subst h0
    clear h4 hfl
    go_enter Try.func51, Try.ntmps51
    go_wp2
    refine wp_loop_rounds 1 ?_
    rw [rounds_succ]
    go_wp2
    go_ret
    exact ⟨ret_int (by omega), ⟨a, cap, off, rfl, Nat.zero_le _, HM.out, HZ.out, marks_len _ _, Or.inl rfl⟩, Turn.refl _ _⟩
  · obtain ⟨rfl, hB, hc⟩ := h4.resolve_left h0
    have M0 : Hid (Marked w B off (n * 5) k 0 w) := marked_new hfl hB hc
    clear hc h4 hfl
    obtain ⟨KE, eKE⟩ : ∃ KE, k + (n : Int) * 5 = KE := ⟨_, rfl⟩
    rw [eKE]
    have EKE := hide eKE
    clear eKE
    go_enter Try.func51, Try.ntmps51
    go_wp2
    go_loopw [1, 5] (fun q i wr => ∃ (j : Nat) (kk : Int), j ≤ n ∧ i = .int .i64 j ∧ q = .int .i64 kk ∧ Hid (kk = k + ((j * 5 : Nat) : Int)) ∧ 0 ≤ kk ∧ kk ≤ 10000000000000 ∧ Hid (Marked w B off (n * 5) k (j * 5) wr)) (fun _ i _ => n - (intOf i).toNat)
    case atStart => exact ⟨0, k, by omega, rfl, rfl, by show _ = _; simp, hk0, by omega, M0⟩
    case round =>
      obtain ⟨j, kk, hj, rfl, rfl, HK, kk0, kk1, HB⟩ := hrel
      by_cases hlt : j < n
      · obtain ⟨y0, p0⟩ := HB.out.left (j * 5) (by omega) (by omega)
        obtain ⟨y1, p1⟩ := HB.out.left (j * 5 + 1) (by omega) (by omega)
        obtain ⟨y2, p2⟩ := HB.out.left (j * 5 + 2) (by omega) (by omega)
        obtain ⟨y3, p3⟩ := HB.out.left (j * 5 + 3) (by omega) (by omega)
        obtain ⟨y4, p4⟩ := HB.out.left (j * 5 + 4) (by omega) (by omega)
        have f0 := HB.out.soft (j * 5) (by omega)
        have f1 := HB.out.soft (j * 5 + 1) (by omega)
        have f2 := HB.out.soft (j * 5 + 2) (by omega)
        have f3 := HB.out.soft (j * 5 + 3) (by omega)
        have f4 := HB.out.soft (j * 5 + 4) (by omega)
        rw [← Nat.add_assoc] at p1 p2 p3 p4 f1 f2 f3 f4
        have M1 : Marked w B off (n * 5) k (j * 5 + 1) (wr.setCell ⟨B, off + j * 5, none⟩ (.int .i64 kk)) := InsS.Marked.put HB.out (by omega) HK.out rfl
        have M2 : Marked w B off (n * 5) k (j * 5 + 2) ((wr.setCell ⟨B, off + j * 5, none⟩ (.int .i64 kk)).setCell ⟨B, off + j * 5 + 1, none⟩ (.int .i64 (kk + 1))) := InsS.Marked.put M1 (by omega) (by have := HK.out; omega) (by omega)
        have M3 : Marked w B off (n * 5) k (j * 5 + 3) (((wr.setCell ⟨B, off + j * 5, none⟩ (.int .i64 kk)).setCell ⟨B, off + j * 5 + 1, none⟩ (.int .i64 (kk + 1))).setCell ⟨B, off + j * 5 + 2, none⟩ (.int .i64 (kk + 1 + 1))) := InsS.Marked.put M2 (by omega) (by have := HK.out; omega) (by omega)
        have M4 : Marked w B off (n * 5) k (j * 5 + 4) ((((wr.setCell ⟨B, off + j * 5, none⟩ (.int .i64 kk)).setCell ⟨B, off + j * 5 + 1, none⟩ (.int .i64 (kk + 1))).setCell ⟨B, off + j * 5 + 2, none⟩ (.int .i64 (kk + 1 + 1))).setCell ⟨B, off + j * 5 + 3, none⟩ (.int .i64 (kk + 1 + 1 + 1))) := InsS.Marked.put M3 (by omega) (by have := HK.out; omega) (by omega)
        have M5 : Marked w B off (n * 5) k (j * 5 + 5) (((((wr.setCell ⟨B, off + j * 5, none⟩ (.int .i64 kk)).setCell ⟨B, off + j * 5 + 1, none⟩ (.int .i64 (kk + 1))).setCell ⟨B, off + j * 5 + 2, none⟩ (.int .i64 (kk + 1 + 1))).setCell ⟨B, off + j * 5 + 3, none⟩ (.int .i64 (kk + 1 + 1 + 1))).setCell ⟨B, off + j * 5 + 4, none⟩ (.int .i64 (kk + 1 + 1 + 1 + 1))) := InsS.Marked.put M4 (by omega) (by have := HK.out; omega) (by omega)
        rw [show j * 5 + 5 = (j + 1) * 5 by omega] at M5
        have NX := hide M5
        have HK2 : Hid (kk + 1 + 1 + 1 + 1 + 1 = k + (((j + 1) * 5 : Nat) : Int)) := show _ = _ by have := HK.out; omega
        have lw := HB.out.lt
        have lj : ((j : Nat) : Int) < (n : Nat) := by omega
        have kb : kk ≤ 1000000000000 + 5000000000 := by have := HK.out; omega
        clear HB M1 M2 M3 M4 M5 kk1
        go_wp2
        exact ⟨⟨j + 1, kk + 1 + 1 + 1 + 1 + 1, by omega, by go_num, by go_num, HK2, by omega, by omega, NX⟩, by simp [intOf]; omega⟩
      · have ej : j = n := by omega
        subst ej
        have HE : Hid (kk = KE) := show _ = _ by have := HK.out; have := EKE.out; omega
        go_wp2
        go_ret
        exact ⟨ret_int HE.out, marked_whole HB.out h2 HM.out, HB.out.turn⟩
set_option maxRecDepth 8000 in
set_option maxHeartbeats 4000000 in
theorem heldIrOpS (k : Int) (n : Nat) (B : Nat) (v : Value) (w : World) (h : FRow 5 w B v n (marks k (n * 5))) (hk0 : 0 ≤ k) (hk1 : k ≤ 1000000000000) (hn : n ≤ 1000000000) :
    Calls Try.prog 52 #[v, .int .i64 k] w fun e w' => e = .returned (.int .i64 (k + (n : Int) * 5)) ∧ Below w.heap.size w w' := by
  obtain ⟨a, cap, off, rfl, h2, h3, hz, hfl, h4⟩ := h
  clear hz hfl
  unfold maxLen at h3
  by_cases h0 : n = 0
  · subst h0
    clear h4
    go_enter Try.func52, Try.ntmps52
    go_wp2
    refine wp_loop_rounds 1 ?_
    rw [rounds_succ]
    go_wp2
    go_ret
    exact ⟨ret_int (by omega), Below.refl _ _⟩
  · obtain ⟨rfl, hc⟩ := h4.resolve_left h0
    have HC := hide hc
    clear hc h4
    obtain ⟨KE, eKE⟩ : ∃ KE, k + (n : Int) * 5 = KE := ⟨_, rfl⟩
    rw [eKE]
    have EKE := hide eKE
    clear eKE
    go_enter Try.func52, Try.ntmps52
    go_wp2
    go_loopw [1, 5] (fun q i wr => ∃ (j : Nat) (kk : Int), j ≤ n ∧ i = .int .i64 j ∧ q = .int .i64 kk ∧ Hid (kk = k + ((j * 5 : Nat) : Int)) ∧ 0 ≤ kk ∧ kk ≤ 10000000000000 ∧ Hid (Below w.heap.size w wr)) (fun _ i _ => n - (intOf i).toNat)
    case atStart => exact ⟨0, k, by omega, rfl, rfl, by show _ = _; simp, hk0, by omega, Below.refl _ _⟩
    case round =>
      obtain ⟨j, kk, hj, rfl, rfl, HK, kk0, kk1, HB⟩ := hrel
      by_cases hlt : j < n
      · have gt (d : Nat) (hd : d < 5) (x : Int) (hx : x = kk + (d : Int)) : wr.cell? ⟨B, off + (j * 5 + d), none⟩ = some (.int .i64 x) := by
          have := cell_below HB.out (HC.out (j * 5 + d) _ (marks_at (by omega)))
          rw [this]
          congr 2
          have := HK.out
          omega
        have c0 : wr.cell? ⟨B, off + j * 5, none⟩ = some (.int .i64 kk) := gt 0 (by omega) _ (by omega)
        have c1 : wr.cell? ⟨B, off + j * 5 + 1, none⟩ = some (.int .i64 (kk + 1)) := gt 1 (by omega) _ (by omega)
        have c2 : wr.cell? ⟨B, off + j * 5 + 2, none⟩ = some (.int .i64 (kk + 1 + 1)) := gt 2 (by omega) _ (by omega)
        have c3 : wr.cell? ⟨B, off + j * 5 + 3, none⟩ = some (.int .i64 (kk + 1 + 1 + 1)) := gt 3 (by omega) _ (by omega)
        have c4 : wr.cell? ⟨B, off + j * 5 + 4, none⟩ = some (.int .i64 (kk + 1 + 1 + 1 + 1)) := gt 4 (by omega) _ (by omega)
        have n0 := Ins.same_ne kk
        have n1 := Ins.same_ne (kk + 1)
        have n2 := Ins.same_ne (kk + 1 + 1)
        have n3 := Ins.same_ne (kk + 1 + 1 + 1)
        have n4 := Ins.same_ne (kk + 1 + 1 + 1 + 1)
        have HK2 : Hid (kk + 1 + 1 + 1 + 1 + 1 = k + (((j + 1) * 5 : Nat) : Int)) := show _ = _ by have := HK.out; omega
        have lj : ((j : Nat) : Int) < (n : Nat) := by omega
        have kb : kk ≤ 1000000000000 + 5000000000 := by have := HK.out; omega
        clear gt kk1
        go_wp2
        exact ⟨⟨j + 1, kk + 1 + 1 + 1 + 1 + 1, by omega, by go_num, by go_num, HK2, by omega, by omega, HB⟩, by simp [intOf]; omega⟩
      · have ej : j = n := by omega
        subst ej
        have HE : Hid (kk = KE) := show _ = _ by have := HK.out; have := EKE.out; omega
        go_wp2
        go_ret
        exact ⟨ret_int HE.out, HB.out⟩
set_option maxRecDepth 8000 in
theorem markIrBlock (k : Int) (b : Bk) (fs : List Int) (B : Nat) (q : Option Addr) (n cap : Nat) (w : World) (h : WFRow 5 w B (.slice q n cap) n fs) (hk0 : 0 ≤ k) (hk1 : k ≤ 1000000000000) (hn : n ≤ 1000000000) :
    Calls Try.prog 24 #[.agg #[.int .i64 b.pc, .int .i64 b.ln, .slice q n cap, .int .i64 b.en, .int .i64 b.x, .int .i64 b.y, .int .i64 b.k], .int .i64 k] w fun e w' => e = .returned (.int .i64 (k + (n : Int) * 5)) ∧ WFRow 5 w' B (.slice q n cap) n (marks k (n * 5)) ∧ Turn B w w' := by
  have bV : Below w.heap.size w (w.alloc (.cells #[.int .i64 b.pc, .int .i64 b.ln, .slice q n cap, .int .i64 b.en, .int .i64 b.x, .int .i64 b.y, .int .i64 b.k] 42)) := (Below.refl _ _).alloc (Nat.le_refl _) _
  have BW := hide bV
  clear bV
  go_enter Try.func24, Try.ntmps24
  go_wp2_with fail
  refine (markIrOpS k n fs B _ _ (h.below BW.out) hk0 hk1 hn).mono ?_
  rintro e u ⟨rfl, hm, ht⟩
  have HM := hide hm
  have HT : Hid (Turn B w u) := (Turn.of_below BW.out).trans ht
  clear hm ht
  go_wp2
  go_ret
  exact ⟨rfl, HM.out, HT.out⟩
set_option maxRecDepth 8000 in
theorem heldIrBlock (k : Int) (b : Bk) (B : Nat) (q : Option Addr) (n cap : Nat) (w : World) (h : FRow 5 w B (.slice q n cap) n (marks k (n * 5))) (hk0 : 0 ≤ k) (hk1 : k ≤ 1000000000000) (hn : n ≤ 1000000000) :
    Calls Try.prog 25 #[.agg #[.int .i64 b.pc, .int .i64 b.ln, .slice q n cap, .int .i64 b.en, .int .i64 b.x, .int .i64 b.y, .int .i64 b.k], .int .i64 k] w fun e w' => e = .returned (.int .i64 (k + (n : Int) * 5)) ∧ Below w.heap.size w w' := by
  have bV : Below w.heap.size w (w.alloc (.cells #[.int .i64 b.pc, .int .i64 b.ln, .slice q n cap, .int .i64 b.en, .int .i64 b.x, .int .i64 b.y, .int .i64 b.k] 42)) := (Below.refl _ _).alloc (Nat.le_refl _) _
  have BW := hide bV
  clear bV
  go_enter Try.func25, Try.ntmps25
  go_wp2_with fail
  refine (heldIrOpS k n B _ _ (h.below BW.out) hk0 hk1 hn).mono ?_
  rintro e u ⟨rfl, hb⟩
  have HB := hide (BW.out.trans (hb.mono BW.out.size))
  have kn : ¬ k + (n : Int) * 5 < 0 := by omega
  clear hb
  go_wp2
  go_ret
  exact ⟨rfl, HB.out⟩
def opC (k : Int) : Opn := ⟨1, 0, 0, k, 0⟩
def opG (r : Int) : Opn := ⟨2, 0, 0, r, 0⟩
def opD (op x y : Int) : Opn := ⟨3, x, y, op, 0⟩
def opL (x t : Int) : Opn := ⟨4, x, 0, 0, t⟩
def opT (x y t : Int) : Opn := ⟨5, x, y, 0, t⟩
def opI (t : Int) : Opn := ⟨6, 0, 0, 0, t⟩
def opU (x t : Int) : Opn := ⟨7, x, 0, 0, t⟩
def opS (x d : Int) : Opn := ⟨8, x, 0, d, 0⟩
/-- The operations of an instruction, behind so many. -/
def oneL (n : Int) (t : Int) (i : In4) : List Opn :=
  if i.op = 1 then [opC i.k, opS n i.d]
  else if i.op = 2 then [opG i.a, opS n i.d]
  else if i.op = 8 then [opG i.a, opC (2 ^ i.k.toNat), opD 3 n (n + 1), opS (n + 2) i.d]
  else if i.op = 9 then [opG i.a, opC i.k, opD 1 n (n + 1), opL (n + 2) t, opS (n + 3) i.d]
  else if i.op = 10 then [opG i.a, opC i.k, opD 1 n (n + 1), opG i.d, opT (n + 2) (n + 3) t]
  else if i.op = 11 then [opG i.d, opG i.a]
  else if i.op = 12 then [opG i.d, opG i.a]
  else if i.op = 13 then [opG i.a]
  else if i.op = 14 then [opG i.d, opU n t]
  else if i.op = 15 then [opI t, opS n i.d]
  else [opG i.a, opG i.k, opD (i.op - 3 + 1) n (n + 1), opS (n + 2) i.d]
/-- A piece of code with an instruction more. -/
def oneB (b : Bk) (t : Int) (i : In4) : Bk :=
  if i.op = 11 then ⟨b.pc, b.ln, b.ops ++ oneL b.ops.length t i, 3, b.ops.length, b.ops.length + 1, i.k⟩
  else if i.op = 12 then ⟨b.pc, b.ln, b.ops ++ oneL b.ops.length t i, 4, b.ops.length, b.ops.length + 1, i.k⟩
  else if i.op = 13 then ⟨b.pc, b.ln, b.ops ++ oneL b.ops.length t i, 2, b.ops.length, b.y, 0⟩
  else ⟨b.pc, b.ln, b.ops ++ oneL b.ops.length t i, b.en, b.x, b.y, b.k⟩
end Go.Proofs.Ytfjlnocikldhjaa.Lw
