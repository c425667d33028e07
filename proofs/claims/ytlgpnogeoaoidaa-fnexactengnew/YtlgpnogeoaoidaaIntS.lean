/-
  Slices of ints: what it is that one holds a list, and contracts of the laws' own helpers over them (szIntS, eqIntS, heldIntS, markIntS, toIntS).
-/
import Derived.Test.YtlgpnogeoaoidaaProg
import Derived.WalkKit
import Derived.WalkSpells
import Derived.ProofKit
import Derived.OwnWalk
import Derived.OpenShut
import Derived.Below
import Derived.Handy
import Derived.Deep.OwnRows
namespace Go.Proofs.Ytlgpnogeoaoidaa.IntS
open Go.ChangeShapes Go.WideShapes Go.ChangeAt Go.RowKit
theorem hide {p : Prop} (h : p) : Hid p := h
theorem ret_bool {b c : Bool} (h : b = c) : Ending.returned (.bool b) = .returned (.bool c) := by rw [h]
theorem ret_int {b c : Int} (h : b = c) : Ending.returned (.int .i64 b) = .returned (.int .i64 c) := by rw [h]
theorem cell_below {w w' : World} (hb : Below w.heap.size w w') {a : Addr} {v : Value} (h : w.cell? a = some v) : w'.cell? a = some v :=
  (hb.cell (World.block_lt_of_cell? w a h)).trans h
/-- A slice that holds a list of ints; they lie in block B, if there are any. -/
structure Row (w : World) (B : Nat) (v : Value) (xs : List Int) : Prop where
  ex : ∃ a cap off, v = .slice a xs.length cap ∧ xs.length ≤ cap ∧ cap ≤ maxLen ∧ (a = none → cap = 0) ∧ (xs = [] ∨ (a = some ⟨B, off, none⟩ ∧ ∀ (i : Nat) x, xs[i]? = some x → w.cell? ⟨B, off + i, none⟩ = some (.int .i64 x)))
theorem Row.below {w w' : World} {B : Nat} {v : Value} {xs : List Int} (h : Row w B v xs) (hb : Below w.heap.size w w') : Row w' B v xs := by
  obtain ⟨a, cap, off, h1, h2, h3, hz, h4⟩ := h
  refine ⟨a, cap, off, h1, h2, h3, hz, ?_⟩
  rcases h4 with h4 | ⟨h4, h5⟩
  · exact Or.inl h4
  · exact Or.inr ⟨h4, fun i x hx => cell_below hb (h5 i x hx)⟩
set_option maxHeartbeats 2000000 in
theorem eqIntS (xs ys : List Int) (B B' : Nat) (v v' : Value) (w : World) (h : Row w B v xs) (h' : Row w B' v' ys) :
    Calls Try.prog 27 #[v, v'] w fun e w' => e = .returned (.bool (decide (xs = ys))) ∧ Below w.heap.size w w' := by
  obtain ⟨a, cap, off, rfl, h2, h3, hz, h4⟩ := h
  obtain ⟨a', cap', off', rfl, h2', h3', hz', h4'⟩ := h'
  unfold maxLen at h3 h3'
  clear hz hz'
  by_cases hl : xs.length = ys.length
  · have hl2 : ((xs.length : Int) != (ys.length : Int)) = false := by rw [hl]; simp
    obtain ⟨n, hn⟩ : ∃ n, xs.length = n := ⟨_, rfl⟩
    have hn' : ys.length = n := by omega
    rw [hn] at h2 hl2 ⊢
    rw [hn'] at h2' hl2 ⊢
    have EN := hide hn
    have EN' := hide hn'
    have H4 := hide h4
    have H4' := hide h4'
    clear hn hn' h4 h4' hl
    by_cases h0 : n = 0
    · subst h0
      have e1 : xs = [] := List.length_eq_zero_iff.1 EN.out
      have e2 : ys = [] := List.length_eq_zero_iff.1 EN'.out
      have hd : Hid (decide (xs = ys) = true) := show _ = true by rw [e1, e2]; rfl
      clear e1 e2 H4 H4' EN EN'
      go_enter Try.func27, Try.ntmps27
      go_wp2
      refine wp_loop_rounds 1 ?_
      rw [rounds_succ]
      go_wp2
      go_ret
      exact ⟨ret_bool hd.out.symm, Below.refl _ _⟩
    · obtain ⟨rfl, hc⟩ := H4.out.resolve_left (fun e => h0 (by rw [← EN.out, e]; rfl))
      obtain ⟨rfl, hc'⟩ := H4'.out.resolve_left (fun e => h0 (by rw [← EN'.out, e]; rfl))
      have HC := hide hc
      have HC' := hide hc'
      clear hc hc' H4 H4'
      go_enter Try.func27, Try.ntmps27
      go_wp2
      go_loopw [5] (fun i wr => ∃ k : Nat, k ≤ n ∧ i = .int .i64 k ∧ Hid (∀ j : Nat, j < k → xs[j]? = ys[j]?) ∧ Hid (Below w.heap.size w wr)) (fun i _ => n - (intOf i).toNat)
      case atStart => exact ⟨0, by omega, rfl, fun j hj => by omega, Below.refl _ _⟩
      case round =>
        obtain ⟨k, hk, rfl, HE, HB⟩ := hrel
        by_cases hlt : k < n
        · obtain ⟨x, ex⟩ : ∃ x, xs[k]? = some x := ⟨_, List.getElem?_eq_getElem (by rw [EN.out]; exact hlt)⟩
          obtain ⟨y, ey⟩ : ∃ y, ys[k]? = some y := ⟨_, List.getElem?_eq_getElem (by rw [EN'.out]; exact hlt)⟩
          have cx := cell_below HB.out (HC.out k x ex)
          have cy := cell_below HB.out (HC'.out k y ey)
          have EX := hide ex
          have EY := hide ey
          clear ex ey
          by_cases e : x = y
          · subst e
            have ne : (x != x) = false := by simp
            go_wp2
            go_region
            go_wp2
            have HX : Hid (∀ j : Nat, j < k + 1 → xs[j]? = ys[j]?) := fun j hj => by
              by_cases ej : j = k
              · subst ej; rw [EX.out, EY.out]
              · exact HE.out j (by omega)
            have HD : Hid (Below w.heap.size w wr.drew) := HB.out.drew
            refine ⟨?_, by simp [intOf]; omega⟩
            exact ⟨k + 1, by omega, by go_num, HX, HD⟩
          · have ne : (x != y) = true := by simpa using e
            have hd : Hid (decide (xs = ys) = false) := decide_eq_false (fun h => e (by have := EX.out; rw [h, EY.out] at this; exact (Option.some.inj this).symm))
            clear e
            go_wp2
            go_region
            go_wp2
            go_ret
            exact ⟨ret_bool hd.out.symm, HB.out.drew⟩
        · have hd : Hid (decide (xs = ys) = true) := decide_eq_true (by
            apply List.ext_getElem?
            intro j
            by_cases hj : j < k
            · exact HE.out j hj
            · rw [List.getElem?_eq_none (by rw [EN.out]; omega), List.getElem?_eq_none (by rw [EN'.out]; omega)])
          go_wp2
          go_ret
          exact ⟨ret_bool hd.out.symm, HB.out⟩
  · have hn : decide (xs = ys) = false := decide_eq_false (fun e => hl (by rw [e]))
    have hl2 : ((xs.length : Int) == (ys.length : Int)) = false := beq_eq_false_iff_ne.2 (by omega)
    have HN := hide hn
    clear hn h4 h4'
    go_enter Try.func27, Try.ntmps27
    go_wp2
    go_ret
    exact ⟨ret_bool HN.out.symm, Below.refl _ _⟩
theorem szIntS (n cap : Nat) (a : Option Addr) (left : Int) (w : World) (hn : n ≤ cap) (hc : cap ≤ maxLen) (h0 : 0 ≤ left) (h1 : left ≤ 1048576) :
    Calls Try.prog 19 #[.slice a n cap, .int .i64 left] w fun e w' => e = .returned (.int .i64 (if left < n then -1 else left - n)) ∧ w' = w := by
  unfold maxLen at hc
  by_cases h : left < n
  · have HR : Hid ((if left < (n : Int) then -1 else left - n) = -1) := if_pos h
    have h2 : left - n < 0 := by omega
    clear h
    go_enter Try.func19, Try.ntmps19
    go_wp2
    go_ret
    first | exact ⟨ret_int HR.out.symm, rfl⟩ | exact ⟨ret_int rfl, rfl⟩
  · have HR : Hid ((if left < (n : Int) then -1 else left - n) = left - n) := if_neg h
    have h2 : ¬ left - n < 0 := by omega
    clear h
    go_enter Try.func19, Try.ntmps19
    go_wp2
    go_ret
    first | exact ⟨ret_int HR.out.symm, rfl⟩ | exact ⟨ret_int rfl, rfl⟩
/-- Of the blocks that were there only block B may have turned. -/
structure Turn (B : Nat) (w w' : World) : Prop where
  os : w'.os = w.os
  tape : w'.tape = w.tape
  output : w'.output = w.output
  size : w.heap.size ≤ w'.heap.size
  block : ∀ k, k < w.heap.size → k ≠ B → w'.heap[k]? = w.heap[k]?
theorem Turn.refl (B : Nat) (w : World) : Turn B w w := ⟨rfl, rfl, rfl, Nat.le_refl _, fun _ _ _ => rfl⟩
theorem Turn.trans {B : Nat} {a b c : World} (h : Turn B a b) (k : Turn B b c) : Turn B a c :=
  ⟨k.os.trans h.os, k.tape.trans h.tape, k.output.trans h.output, Nat.le_trans h.size k.size, fun j hj hB => (k.block j (Nat.lt_of_lt_of_le hj h.size) hB).trans (h.block j hj hB)⟩
theorem Turn.of_below {B : Nat} {w w' : World} (h : Below w.heap.size w w') : Turn B w w' := ⟨h.os, h.tape, h.output, h.size, fun k hk _ => h.block k hk⟩
theorem Turn.below {B n : Nat} {w w' : World} (h : Turn B w w') (hB : n ≤ B) (hn : n ≤ w.heap.size) : Below n w w' :=
  ⟨h.os, h.tape, h.output, h.size, fun k hk => h.block k (Nat.lt_of_lt_of_le hk hn) (by omega)⟩
theorem Turn.cell {B : Nat} {w w' : World} (h : Turn B w w') {p : Addr} (hp : p.block < w.heap.size) (hB : p.block ≠ B) : w'.cell? p = w.cell? p := World.cell?_of_block (w := w) (h.block p.block hp hB)
theorem Turn.frozen {B : Nat} {w w' : World} (h : Turn B w w') {p : Addr} (hp : p.block < w.heap.size) (hB : p.block ≠ B) : w'.frozen? p = w.frozen? p := World.frozen?_of_block (w := w) (h.block p.block hp hB)
theorem Turn.drew {B : Nat} {w w' : World} (h : Turn B w w') : Turn B w w'.drew := ⟨h.os, h.tape, h.output, h.size, h.block⟩
theorem Turn.setCell {B : Nat} {w w' : World} (h : Turn B w w') {p : Addr} (hp : p.block = B) (v : Value) : Turn B w (w'.setCell p v) := by
  have hb : Below B w' (w'.setCell p v) := (Below.refl B w').setCell (Nat.le_of_eq hp.symm) v
  refine ⟨hb.os.trans h.os, hb.tape.trans h.tape, hb.output.trans h.output, Nat.le_trans h.size hb.size, fun k hk hB => ?_⟩
  rw [← h.block k hk hB]
  exact Below.heap_setCell w' p v k (by rw [hp]; exact hB)
/-- A slice of ints that may be written. -/
structure WRow (w : World) (B : Nat) (v : Value) (xs : List Int) : Prop where
  ex : ∃ a cap off, v = .slice a xs.length cap ∧ xs.length ≤ cap ∧ cap ≤ maxLen ∧ (a = none → cap = 0) ∧ (xs = [] ∨ (a = some ⟨B, off, none⟩ ∧ B < w.heap.size ∧ ∀ (i : Nat) x, xs[i]? = some x → w.cell? ⟨B, off + i, none⟩ = some (.int .i64 x) ∧ w.frozen? ⟨B, off + i, none⟩ = false))
theorem WRow.row {w : World} {B : Nat} {v : Value} {xs : List Int} (h : WRow w B v xs) : Row w B v xs := by
  obtain ⟨a, cap, off, h1, h2, h3, hz, h4⟩ := h
  refine ⟨a, cap, off, h1, h2, h3, hz, ?_⟩
  rcases h4 with h4 | ⟨h4, _, h5⟩
  · exact Or.inl h4
  · exact Or.inr ⟨h4, fun i x hx => (h5 i x hx).1⟩
theorem WRow.turn {w w' : World} {B B' : Nat} {v : Value} {xs : List Int} (h : WRow w B v xs) (ht : Turn B' w w') (hB : B ≠ B') : WRow w' B v xs := by
  obtain ⟨a, cap, off, h1, h2, h3, hz, h4⟩ := h
  refine ⟨a, cap, off, h1, h2, h3, hz, ?_⟩
  rcases h4 with h4 | ⟨h4, hlt, h5⟩
  · exact Or.inl h4
  · exact Or.inr ⟨h4, Nat.lt_of_lt_of_le hlt ht.size, fun i x hx => ⟨(ht.cell (p := ⟨B, off + i, none⟩) hlt hB).trans (h5 i x hx).1, (ht.frozen (p := ⟨B, off + i, none⟩) hlt hB).trans (h5 i x hx).2⟩⟩
theorem WRow.below {w w' : World} {B : Nat} {v : Value} {xs : List Int} (h : WRow w B v xs) (hb : Below w.heap.size w w') : WRow w' B v xs := h.turn (B' := B + 1) (Turn.of_below hb) (by omega)
/-- So many numbers, one by one, from a first one on. -/
def marks (k : Int) (n : Nat) : List Int := (List.range n).map fun (i : Nat) => k + (i : Int)
theorem marks_len (k : Int) (n : Nat) : (marks k n).length = n := by simp [marks]
theorem marks_at {k : Int} {n i : Nat} (h : i < n) : (marks k n)[i]? = some (k + i) := by simp [marks, h]
set_option maxHeartbeats 2000000 in
theorem heldIntS (k : Int) (n : Nat) (B : Nat) (v : Value) (w : World) (h : Row w B v (marks k n)) (hk0 : 0 ≤ k) (hk1 : k ≤ 1000000000000) (hn : n ≤ 1000000000) :
    Calls Try.prog 47 #[v, .int .i64 k] w fun e w' => e = .returned (.int .i64 (k + n)) ∧ Below w.heap.size w w' := by
  obtain ⟨a, cap, off, rfl, h2, h3, hz, h4⟩ := h
  rw [marks_len] at h2 ⊢
  unfold maxLen at h3
  clear hz
  by_cases h0 : n = 0
  · subst h0
    clear h4
    go_enter Try.func47, Try.ntmps47
    go_wp2
    refine wp_loop_rounds 1 ?_
    rw [rounds_succ]
    go_wp2
    go_ret
    exact ⟨ret_int (by omega), Below.refl _ _⟩
  · obtain ⟨rfl, hc⟩ := h4.resolve_left (fun e => h0 (by have := marks_len k n; rw [e] at this; exact this.symm))
    have HC := hide hc
    clear hc h4
    go_enter Try.func47, Try.ntmps47
    go_wp2
    go_loopw [1, 5] (fun kk i wr => ∃ j : Nat, j ≤ n ∧ kk = .int .i64 (k + j) ∧ i = .int .i64 j ∧ Hid (Below w.heap.size w wr)) (fun _ i _ => n - (intOf i).toNat)
    case atStart => exact ⟨0, by omega, by go_num, rfl, Below.refl _ _⟩
    case round =>
      obtain ⟨j, hj, rfl, rfl, HB⟩ := hrel
      by_cases hlt : j < n
      · have cx := cell_below HB.out (HC.out j _ (marks_at hlt))
        have ne : ((k + (j : Int)) != (k + (j : Int))) = false := by simp
        go_wp2
        exact ⟨⟨j + 1, by omega, by go_num, by go_num, HB⟩, by simp [intOf]; omega⟩
      · have ej : j = n := by omega
        subst ej
        go_wp2
        go_ret
        exact ⟨rfl, HB.out⟩
/-- Where a slice has been marked up to a place. -/
structure Marked (w : World) (B off n : Nat) (k : Int) (j : Nat) (u : World) : Prop where
  turn : Turn B w u
  lt : B < u.heap.size
  done : ∀ i, i < j → u.cell? ⟨B, off + i, none⟩ = some (.int .i64 (k + (i : Int)))
  left : ∀ i, j ≤ i → i < n → ∃ y : Int, u.cell? ⟨B, off + i, none⟩ = some (.int .i64 y)
  soft : ∀ i, i < n → u.frozen? ⟨B, off + i, none⟩ = false
theorem Marked.next {w u : World} {B off n j : Nat} {k : Int} (h : Marked w B off n k j u) (hj : j < n) : Marked w B off n k (j + 1) (u.setCell ⟨B, off + j, none⟩ (.int .i64 (k + (j : Int)))) := by
  obtain ⟨y, hy⟩ := h.left j (Nat.le_refl _) hj
  have hne (i : Nat) (hi : i ≠ j) : (u.setCell ⟨B, off + j, none⟩ (.int .i64 (k + (j : Int)))).cell? ⟨B, off + i, none⟩ = u.cell? ⟨B, off + i, none⟩ := World.cell?_setCell_other u _ _ _ (fun e => hi (by have h2 : off + j = off + i := congrArg Addr.off e; omega))
  refine ⟨h.turn.setCell rfl _, by simpa [World.setCell] using h.lt, fun i hi => ?_, fun i h1 h2 => ?_, fun i hi => (World.frozen?_setCell ..).trans (h.soft i hi)⟩
  · by_cases e : i = j
    · subst e
      exact World.cell?_setCell_same u _ _ hy
    · rw [hne i e]
      exact h.done i (by omega)
  · rw [hne i (by omega)]
    exact h.left i (by omega) h2
set_option maxHeartbeats 2000000 in
theorem markIntS (k : Int) (xs : List Int) (B : Nat) (v : Value) (w : World) (h : WRow w B v xs) (hk0 : 0 ≤ k) (hk1 : k ≤ 1000000000000) (hn : xs.length ≤ 1000000000) :
    Calls Try.prog 28 #[v, .int .i64 k] w fun e w' => e = .returned (.int .i64 (k + xs.length)) ∧ WRow w' B v (marks k xs.length) ∧ Turn B w w' := by
  obtain ⟨a, cap, off, rfl, h2, h3, hz, h4⟩ := h
  obtain ⟨n, en⟩ : ∃ n, xs.length = n := ⟨_, rfl⟩
  have HM : Hid (cap ≤ maxLen) := h3
  have HZ := hide hz
  clear hz
  unfold maxLen at h3
  by_cases h0 : n = 0
  · subst h0
    rw [en] at h2 hn ⊢
    clear h4
    go_enter Try.func28, Try.ntmps28
    go_wp2
    refine wp_loop_rounds 1 ?_
    rw [rounds_succ]
    go_wp2
    go_ret
    exact ⟨ret_int (by omega), ⟨a, cap, off, rfl, Nat.zero_le _, HM.out, HZ.out, Or.inl rfl⟩, Turn.refl _ _⟩
  · obtain ⟨rfl, hB, hc⟩ := h4.resolve_left (fun e => h0 (by rw [← en, e]; rfl))
    have HC := hide hc
    rw [en] at h2 hn ⊢
    have EN := hide en
    clear hc h4 en
    have M0 : Hid (Marked w B off n k 0 w) := ⟨Turn.refl _ _, hB, fun i hi => by omega, fun i _ hi => ⟨_, (HC.out i _ (List.getElem?_eq_getElem (by rw [EN.out]; exact hi))).1⟩, fun i hi => (HC.out i _ (List.getElem?_eq_getElem (by rw [EN.out]; exact hi))).2⟩
    clear HC EN
    go_enter Try.func28, Try.ntmps28
    go_wp2
    go_loopw [1, 5] (fun kk i wr => ∃ j : Nat, j ≤ n ∧ kk = .int .i64 (k + j) ∧ i = .int .i64 j ∧ Hid (Marked w B off n k j wr)) (fun _ i _ => n - (intOf i).toNat)
    case atStart => exact ⟨0, by omega, by go_num, rfl, M0⟩
    case round =>
      obtain ⟨j, hj, rfl, rfl, HB⟩ := hrel
      by_cases hlt : j < n
      · obtain ⟨y, cy⟩ := HB.out.left j (Nat.le_refl _) hlt
        have fy := HB.out.soft j hlt
        have HN := hide (HB.out.next hlt)
        clear HB
        go_wp2
        exact ⟨⟨j + 1, by omega, by go_num, by go_num, HN⟩, by simp [intOf]; omega⟩
      · have ej : j = n := by omega
        subst ej
        go_wp2
        go_ret
        refine ⟨rfl, ⟨_, cap, off, by rw [marks_len], by rw [marks_len]; exact h2, HM.out, (fun h => by cases h), Or.inr ⟨rfl, HB.out.lt, fun i x hx => ?_⟩⟩, HB.out.turn⟩
        have hi : i < j := by
          have := (List.getElem?_eq_some_iff.1 hx).1
          rwa [marks_len] at this
        rw [marks_at hi] at hx
        obtain rfl := Option.some.inj hx
        exact ⟨HB.out.done i hi, HB.out.soft i hi⟩
/-- Where a slice has been filled up to a place. -/
structure Filled (w : World) (n : Nat) (xs : List Int) (j : Nat) (u : World) : Prop where
  below : Below w.heap.size w u
  lt : w.heap.size < u.heap.size
  done : ∀ i x, i < j → xs[i]? = some x → u.cell? ⟨w.heap.size, i, none⟩ = some (.int .i64 x)
  left : ∀ i, i < n → ∃ y : Int, u.cell? ⟨w.heap.size, i, none⟩ = some (.int .i64 y)
  soft : ∀ i, i < n → u.frozen? ⟨w.heap.size, i, none⟩ = false
theorem Filled.next {w u : World} {n j : Nat} {xs : List Int} {x : Int} (h : Filled w n xs j u) (hj : j < n) (hx : xs[j]? = some x) : Filled w n xs (j + 1) (u.setCell ⟨w.heap.size, j, none⟩ (.int .i64 x)) := by
  obtain ⟨y, hy⟩ := h.left j hj
  have hne (i : Nat) (hi : i ≠ j) : (u.setCell ⟨w.heap.size, j, none⟩ (.int .i64 x)).cell? ⟨w.heap.size, i, none⟩ = u.cell? ⟨w.heap.size, i, none⟩ := World.cell?_setCell_other u _ _ _ (fun e => hi (by have h2 : j = i := congrArg Addr.off e; omega))
  refine ⟨h.below.setCell (Nat.le_refl _) _, by simpa [World.setCell] using h.lt, fun i z hi hz => ?_, fun i h2 => ?_, fun i hi => (World.frozen?_setCell ..).trans (h.soft i hi)⟩
  · by_cases e : i = j
    · subst e
      rw [hx] at hz
      obtain rfl := Option.some.inj hz
      exact World.cell?_setCell_same u _ _ hy
    · rw [hne i e]
      exact h.done i z (by omega) hz
  · by_cases e : i = j
    · subst e
      exact ⟨x, World.cell?_setCell_same u _ _ hy⟩
    · rw [hne i e]
      exact h.left i h2
theorem filled_new (w : World) (n : Nat) (xs : List Int) (t : TypeId) : Filled w n xs 0 (w.alloc (.cells (madeCells #[.int .i64 0] n) t)) := by
  have hc (i : Nat) (hi : i < n) : (w.alloc (.cells (madeCells #[.int .i64 0] n) t)).cell? ⟨w.heap.size, i, none⟩ = some (.int .i64 0) := by
    rw [World.cell?_alloc_new]
    simp [madeCells, hi, Nat.mod_one]
  refine ⟨(Below.refl _ _).alloc (Nat.le_refl _) _, by simp, fun i x hi => by omega, fun i hi => ⟨0, hc i hi⟩, fun i hi => by simp⟩
set_option maxHeartbeats 2000000 in
theorem toIntS (xs : List Int) (B : Nat) (v : Value) (w : World) (h : Row w B v xs) (hn : xs.length ≤ 1048576) :
    Calls Try.prog 22 #[v] w fun e w' => ∃ g : Nat, e = .returned (.slice (some ⟨g, 0, none⟩) xs.length xs.length) ∧ WRow w' g (.slice (some ⟨g, 0, none⟩) xs.length xs.length) xs ∧ w.heap.size ≤ g ∧ g < w'.heap.size ∧ Below w.heap.size w w' := by
  obtain ⟨a, cap, off, rfl, h2, h3, hz, h4⟩ := h
  obtain ⟨n, en⟩ : ∃ n, xs.length = n := ⟨_, rfl⟩
  unfold maxLen at h3
  clear hz
  have M0 := hide (filled_new w n xs 3)
  have H4 := hide h4
  have EN := hide en
  rw [en] at h2 hn ⊢
  clear h4 en
  have hmk := run_make_row' (P := Try.prog) 22 3 (.int .i64 0) 8 Try.underlying22 (by kernel_rfl) rfl .i64 .i64 n (by omega) (by omega) w
  by_cases h0 : n = 0
  · subst h0
    have e0 : xs = [] := List.length_eq_zero_iff.1 EN.out
    subst e0
    clear H4
    replace hmk : (Instr.makeSlice 22 (.int .i64 0) (.int .i64 0)).run Try.prog w = .ok (.slice (some ⟨w.heap.size, 0, none⟩) 0 0) (w.alloc (.cells (madeCells #[.int .i64 0] 0) 3)) := hmk
    go_enter Try.func22, Try.ntmps22
    go_wp2
    refine wp_loop_rounds 1 ?_
    rw [rounds_succ]
    go_wp2
    go_ret
    exact ⟨w.heap.size, rfl, ⟨some ⟨w.heap.size, 0, none⟩, 0, 0, rfl, Nat.le_refl _, by unfold maxLen; omega, (fun h => by cases h), Or.inl rfl⟩, Nat.le_refl _, M0.out.lt, M0.out.below⟩
  · obtain ⟨rfl, hc⟩ := H4.out.resolve_left (fun e => h0 (by rw [← EN.out, e]; rfl))
    have HC := hide hc
    clear hc H4
    go_enter Try.func22, Try.ntmps22
    go_wp2
    clear hmk
    generalize w.alloc (.cells (madeCells #[.int .i64 0] n) 3) = u at M0 ⊢
    go_loopw [4] (fun i wr => ∃ j : Nat, j ≤ n ∧ i = .int .i64 j ∧ Hid (Filled w n xs j wr)) (fun i _ => n - (intOf i).toNat)
    case atStart => exact ⟨0, by omega, rfl, M0⟩
    case round =>
      obtain ⟨j, hj, rfl, HF⟩ := hrel
      by_cases hlt : j < n
      · obtain ⟨x, ex⟩ : ∃ x, xs[j]? = some x := ⟨_, List.getElem?_eq_getElem (by rw [EN.out]; exact hlt)⟩
        have cx := cell_below HF.out.below (HC.out j x ex)
        obtain ⟨y, cy⟩ := HF.out.left j hlt
        have fy := HF.out.soft j hlt
        have HN := hide (HF.out.next hlt ex)
        have hd := HF.out.lt
        clear HF ex
        go_wp2
        exact ⟨⟨j + 1, by omega, by go_num, HN⟩, by simp [intOf]; omega⟩
      · have ej : j = n := by omega
        subst ej
        go_wp2
        go_ret
        have HF2 := HF.out
        refine ⟨w.heap.size, rfl, ⟨some ⟨w.heap.size, 0, none⟩, j, 0, by rw [EN.out], by rw [EN.out]; exact Nat.le_refl _, by unfold maxLen; omega, (fun h => by cases h), Or.inr ⟨rfl, HF2.lt, fun i x hx => ?_⟩⟩, Nat.le_refl _, HF2.lt, HF2.below⟩
        have hi : i < j := by rw [← EN.out]; exact (List.getElem?_eq_some_iff.1 hx).1
        rw [Nat.zero_add]
        exact ⟨HF2.done i x hi hx, HF2.soft i hi⟩
end Go.Proofs.Ytlgpnogeoaoidaa.IntS
