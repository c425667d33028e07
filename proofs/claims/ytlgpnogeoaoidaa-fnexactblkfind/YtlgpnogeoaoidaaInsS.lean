/-
  Lists of instructions as data: contracts of the laws' own szInsInsS, toInsInsS, eqInsInsS, markInsInsS, heldInsInsS; a list that came in.
-/
import Derived.Test.YtlgpnogeoaoidaaFlat
import Derived.Test.YtlgpnogeoaoidaaInsC2
import Derived.StillTailTactics
namespace Go.Proofs.Ytlgpnogeoaoidaa.InsS
set_option linter.unusedVariables false
open Go.ChangeShapes Go.WideShapes Go.ChangeAt Go.RowKit IntS Flat
theorem region_tail {P : Program} {id : Nat} {Q : Exit → Act → World → Prop} {a : Act} {w : World} {l : List Oper} (n : Nat) (hm : P.follows .mixedOrders = true) (hB : Region.lexTailB .any l.toArray n = true)
    (h : wpStill P l.toArray w.drew (fun a' => wpList P l.toArray Q (l.drop n) a' w.drew) (l.take n) a) : (Code.region id l.toArray true).wp P Q a w := wp_region_still_tail n hm hB h
/-- An instruction. -/
structure In4 where
  op : Int
  d : Int
  a : Int
  k : Int
def flatI : List In4 → List Int
  | [] => []
  | i :: r => i.op :: i.d :: i.a :: i.k :: flatI r
theorem flatI_len : ∀ is : List In4, (flatI is).length = is.length * 4
  | [] => rfl
  | i :: r => by simp [flatI, flatI_len r]; omega
theorem flatI_app : ∀ a b : List In4, flatI (a ++ b) = flatI a ++ flatI b
  | [], b => rfl
  | i :: a, b => by simp [flatI, flatI_app a b]
theorem flatI_at : ∀ (is : List In4) (i : Nat) (c : In4), is[i]? = some c → (flatI is)[i * 4]? = some c.op ∧ (flatI is)[i * 4 + 1]? = some c.d ∧ (flatI is)[i * 4 + 2]? = some c.a ∧ (flatI is)[i * 4 + 3]? = some c.k
  | [], i, c, h => by simp at h
  | d :: r, 0, c, h => by
    obtain rfl := Option.some.inj h
    exact ⟨rfl, rfl, rfl, rfl⟩
  | d :: r, i + 1, c, h => by
    have := flatI_at r i c h
    rw [show (i + 1) * 4 = i * 4 + 1 + 1 + 1 + 1 by omega]
    exact this
theorem flatI_get : ∀ (is : List In4) (j : Nat) (x : Int), (flatI is)[j]? = some x → ∃ (i : Nat) (c : In4), is[i]? = some c ∧ ((j = i * 4 ∧ x = c.op) ∨ (j = i * 4 + 1 ∧ x = c.d) ∨ (j = i * 4 + 2 ∧ x = c.a) ∨ (j = i * 4 + 3 ∧ x = c.k))
  | [], j, x, h => by simp [flatI] at h
  | d :: r, 0, x, h => ⟨0, d, rfl, Or.inl ⟨rfl, (Option.some.inj h).symm⟩⟩
  | d :: r, 1, x, h => ⟨0, d, rfl, Or.inr (Or.inl ⟨rfl, (Option.some.inj h).symm⟩)⟩
  | d :: r, 2, x, h => ⟨0, d, rfl, Or.inr (Or.inr (Or.inl ⟨rfl, (Option.some.inj h).symm⟩))⟩
  | d :: r, 3, x, h => ⟨0, d, rfl, Or.inr (Or.inr (Or.inr ⟨rfl, (Option.some.inj h).symm⟩))⟩
  | d :: r, j + 4, x, h => by
    obtain ⟨i, c, h1, h2⟩ := flatI_get r j x h
    exact ⟨i + 1, c, h1, by omega⟩
/-- A slice that holds instructions. -/
abbrev IRow (w : World) (B : Nat) (v : Value) (is : List In4) : Prop := FRow 4 w B v is.length (flatI is)
abbrev WIRow (w : World) (B : Nat) (v : Value) (is : List In4) : Prop := WFRow 4 w B v is.length (flatI is)
theorem at4 {w : World} {B off : Nat} {is : List In4} (h : ∀ (i : Nat) x, (flatI is)[i]? = some x → w.cell? ⟨B, off + i, none⟩ = some (.int .i64 x)) {i : Nat} {c : In4} (hi : is[i]? = some c) :
    w.cell? ⟨B, off + i * 4, none⟩ = some (.int .i64 c.op) ∧ w.cell? ⟨B, off + i * 4 + 1, none⟩ = some (.int .i64 c.d) ∧ w.cell? ⟨B, off + i * 4 + 2, none⟩ = some (.int .i64 c.a) ∧ w.cell? ⟨B, off + i * 4 + 3, none⟩ = some (.int .i64 c.k) := by
  obtain ⟨h1, h2, h3, h4⟩ := flatI_at is i c hi
  exact ⟨h _ _ h1, h _ _ h2, h _ _ h3, h _ _ h4⟩
theorem filled_new4 (w : World) (n : Nat) (fs : List Int) (t : TypeId) : Filled w (n * 4) fs 0 (w.alloc (.cells (madeCells #[.int .i64 0, .int .i64 0, .int .i64 0, .int .i64 0] (n * 4)) t)) := by
  have hc (i : Nat) (hi : i < n * 4) : (w.alloc (.cells (madeCells #[.int .i64 0, .int .i64 0, .int .i64 0, .int .i64 0] (n * 4)) t)).cell? ⟨w.heap.size, i, none⟩ = some (.int .i64 0) := by
    rw [World.cell?_alloc_new]
    have h4 : i % 4 = 0 ∨ i % 4 = 1 ∨ i % 4 = 2 ∨ i % 4 = 3 := by omega
    rcases h4 with h | h | h | h <;> simp [madeCells, hi, h]
  refine ⟨(Below.refl _ _).alloc (Nat.le_refl _) _, by simp, fun i x hi => by omega, fun i hi => ⟨0, hc i hi⟩, fun i hi => by simp⟩
theorem make_ins (n : Nat) (hn : n ≤ 1048576) (w : World) : (Instr.makeSlice 38 (.int .i64 (n : Int)) (.int .i64 (n : Int))).run Try.prog w = .ok (.slice (some ⟨w.heap.size, 0, none⟩) n n) (w.alloc (.cells (madeCells #[.int .i64 0, .int .i64 0, .int .i64 0, .int .i64 0] (n * 4)) 52)) := by
  have hinfo : (Try.prog.info? 52).map (fun i => (i.zero, i.size, i.bytes)) = some (some (.agg #[.int .i64 0, .int .i64 0, .int .i64 0, .int .i64 0]), 4, 32) := by kernel_rfl
  obtain ⟨i, hi, hzz⟩ := Option.map_eq_some_iff.1 hinfo
  simp only [Prod.mk.injEq] at hzz
  obtain ⟨hz, hs, hb⟩ := hzz
  have hr := run_make (P := Try.prog) w 38 52 i _ Try.underlying38 hi hz .i64 .i64 n n (by omega) (Int.le_refl _) (by rw [hb]; omega) (by omega)
  simp only [Int.toNat_natCast, hs] at hr
  exact hr
set_option maxRecDepth 8000 in
set_option maxHeartbeats 4000000 in
theorem eqInsInsS (is : List In4) (B B' : Nat) (v v' : Value) (w : World) (h : IRow w B v is) (h' : IRow w B' v' is) :
    Calls Try.prog 16 #[v, v'] w fun e w' => e = .returned (.bool true) ∧ Below w.heap.size w w' := by
  obtain ⟨a, cap, off, rfl, h2, h3, hz, hfl, h4⟩ := h
  obtain ⟨a', cap', off', rfl, h2', h3', hz', hfl', h4'⟩ := h'
  unfold maxLen at h3 h3'
  clear hz hz' hfl hfl'
  obtain ⟨n, en⟩ : ∃ n, is.length = n := ⟨_, rfl⟩
  have EN := hide en
  rw [en] at h2 h2' h4 h4' ⊢
  have H4 := hide h4
  have H4' := hide h4'
  have nn : ((n : Int) != (n : Int)) = false := by simp
  clear en h4 h4'
  go_enter Try.func16, Try.ntmps16
  by_cases n0 : n = 0
  · subst n0
    go_wp2
    refine wp_loop_rounds 1 ?_
    rw [rounds_succ]
    go_wp2
    go_ret
    exact ⟨rfl, Below.refl _ _⟩
  · obtain ⟨rfl, hc⟩ := H4.out.resolve_left n0
    obtain ⟨rfl, hc'⟩ := H4'.out.resolve_left n0
    have HC := hide hc
    have HC' := hide hc'
    clear hc hc' H4 H4'
    go_wp2
    go_loopw [5] (fun i wr => ∃ k : Nat, k ≤ n ∧ i = .int .i64 k ∧ Hid (Below w.heap.size w wr)) (fun i _ => n - (intOf i).toNat)
    case atStart => exact ⟨0, by omega, rfl, Below.refl _ _⟩
    case round =>
      obtain ⟨k, hk, rfl, HB⟩ := hrel
      by_cases hlt : k < n
      · obtain ⟨o, et⟩ : ∃ o, is[k]? = some o := ⟨_, List.getElem?_eq_getElem (by rw [EN.out]; exact hlt)⟩
        obtain ⟨q0, q1, q2, q3⟩ := at4 HC.out et
        obtain ⟨r0, r1, r2, r3⟩ := at4 HC'.out et
        have c0 := cell_below HB.out q0
        have c1 := cell_below HB.out q1
        have c2 := cell_below HB.out q2
        have c3 := cell_below HB.out q3
        have d0 := cell_below HB.out r0
        have d1 := cell_below HB.out r1
        have d2 := cell_below HB.out r2
        have d3 := cell_below HB.out r3
        have HB2 : Hid (Below w.heap.size w wr.drew) := HB.out.drew
        have lk : ((k : Nat) : Int) < (n : Nat) := by omega
        clear et q0 q1 q2 q3 r0 r1 r2 r3
        go_wp2_with fail
        refine region_tail 8 (by kernel_rfl) (by kernel_rfl) ?_
        simp only [List.take_succ_cons, List.take_zero, List.drop_succ_cons, List.drop_zero]
        repeat still_step
        refine wpStill_nil ?_
        go_wp2_with fail
        refine (Ins.eqIns o.op o.d o.a o.k _).mono ?_
        rintro e u ⟨rfl, hb⟩
        have HB3 := hide (HB2.out.trans (hb.mono HB2.out.size))
        clear hb
        go_wp2
        exact ⟨⟨k + 1, by omega, by go_num, HB3⟩, by simp [intOf]; omega⟩
      · go_wp2
        go_ret
        exact ⟨rfl, HB.out⟩
theorem Marked.put {w u : World} {B off n j : Nat} {k : Int} (h : Marked w B off n k j u) (hj : j < n) {x : Int} (hx : x = k + (j : Int)) {p : Nat} (hp : p = off + j) : Marked w B off n k (j + 1) (u.setCell ⟨B, p, none⟩ (.int .i64 x)) := by
  subst hx hp
  exact h.next hj
set_option maxRecDepth 8000 in
set_option maxHeartbeats 4000000 in
theorem markInsInsS (k : Int) (n : Nat) (fs : List Int) (B : Nat) (v : Value) (w : World) (h : WFRow 4 w B v n fs) (hk0 : 0 ≤ k) (hk1 : k ≤ 1000000000000) (hn : n ≤ 1000000000) :
    Calls Try.prog 17 #[v, .int .i64 k] w fun e w' => e = .returned (.int .i64 (k + (n : Int) * 4)) ∧ WFRow 4 w' B v n (marks k (n * 4)) ∧ Turn B w w' := by
  obtain ⟨a, cap, off, rfl, h2, h3, hz, hfl, h4⟩ := h
  have HM : Hid (cap ≤ maxLen) := h3
  have HZ := hide hz
  clear hz
  unfold maxLen at h3
  by_cases h0 : n = 0
  · subst h0
    clear h4 hfl
    go_enter Try.func17, Try.ntmps17
    go_wp2
    refine wp_loop_rounds 1 ?_
    rw [rounds_succ]
    go_wp2
    go_ret
    exact ⟨ret_int (by omega), ⟨a, cap, off, rfl, Nat.zero_le _, HM.out, HZ.out, marks_len _ _, Or.inl rfl⟩, Turn.refl _ _⟩
  · obtain ⟨rfl, hB, hc⟩ := h4.resolve_left h0
    have M0 : Hid (Marked w B off (n * 4) k 0 w) := marked_new hfl hB hc
    clear hc h4 hfl
    obtain ⟨KE, eKE⟩ : ∃ KE, k + (n : Int) * 4 = KE := ⟨_, rfl⟩
    rw [eKE]
    have EKE := hide eKE
    clear eKE
    go_enter Try.func17, Try.ntmps17
    go_wp2
    go_loopw [1, 5] (fun q i wr => ∃ (j : Nat) (kk : Int), j ≤ n ∧ i = .int .i64 j ∧ q = .int .i64 kk ∧ Hid (kk = k + ((j * 4 : Nat) : Int)) ∧ 0 ≤ kk ∧ kk ≤ 10000000000000 ∧ Hid (Marked w B off (n * 4) k (j * 4) wr)) (fun _ i _ => n - (intOf i).toNat)
    case atStart => exact ⟨0, k, by omega, rfl, rfl, by show _ = _; simp, hk0, by omega, M0⟩
    case round =>
      obtain ⟨j, kk, hj, rfl, rfl, HK, kk0, kk1, HB⟩ := hrel
      by_cases hlt : j < n
      · obtain ⟨y0, p0⟩ := HB.out.left (j * 4) (by omega) (by omega)
        obtain ⟨y1, p1⟩ := HB.out.left (j * 4 + 1) (by omega) (by omega)
        obtain ⟨y2, p2⟩ := HB.out.left (j * 4 + 2) (by omega) (by omega)
        obtain ⟨y3, p3⟩ := HB.out.left (j * 4 + 3) (by omega) (by omega)
        have f0 := HB.out.soft (j * 4) (by omega)
        have f1 := HB.out.soft (j * 4 + 1) (by omega)
        have f2 := HB.out.soft (j * 4 + 2) (by omega)
        have f3 := HB.out.soft (j * 4 + 3) (by omega)
        rw [← Nat.add_assoc] at p1 p2 p3 f1 f2 f3
        have M1 : Marked w B off (n * 4) k (j * 4 + 1) (wr.setCell ⟨B, off + j * 4, none⟩ (.int .i64 kk)) := Marked.put HB.out (by omega) HK.out rfl
        have M2 : Marked w B off (n * 4) k (j * 4 + 2) ((wr.setCell ⟨B, off + j * 4, none⟩ (.int .i64 kk)).setCell ⟨B, off + j * 4 + 1, none⟩ (.int .i64 (kk + 1))) := Marked.put M1 (by omega) (by have := HK.out; omega) (by omega)
        have M3 : Marked w B off (n * 4) k (j * 4 + 3) (((wr.setCell ⟨B, off + j * 4, none⟩ (.int .i64 kk)).setCell ⟨B, off + j * 4 + 1, none⟩ (.int .i64 (kk + 1))).setCell ⟨B, off + j * 4 + 2, none⟩ (.int .i64 (kk + 1 + 1))) := Marked.put M2 (by omega) (by have := HK.out; omega) (by omega)
        have M4 : Marked w B off (n * 4) k (j * 4 + 4) ((((wr.setCell ⟨B, off + j * 4, none⟩ (.int .i64 kk)).setCell ⟨B, off + j * 4 + 1, none⟩ (.int .i64 (kk + 1))).setCell ⟨B, off + j * 4 + 2, none⟩ (.int .i64 (kk + 1 + 1))).setCell ⟨B, off + j * 4 + 3, none⟩ (.int .i64 (kk + 1 + 1 + 1))) := Marked.put M3 (by omega) (by have := HK.out; omega) (by omega)
        rw [show j * 4 + 4 = (j + 1) * 4 by omega] at M4
        have NX := hide M4
        have HK2 : Hid (kk + 1 + 1 + 1 + 1 = k + (((j + 1) * 4 : Nat) : Int)) := show _ = _ by have := HK.out; omega
        have lw := HB.out.lt
        have lj : ((j : Nat) : Int) < (n : Nat) := by omega
        have kb : kk ≤ 1000000000000 + 4000000000 := by have := HK.out; omega
        clear HB M1 M2 M3 M4 kk1
        go_wp2
        exact ⟨⟨j + 1, kk + 1 + 1 + 1 + 1, by omega, by go_num, by go_num, HK2, by omega, by omega, NX⟩, by simp [intOf]; omega⟩
      · have ej : j = n := by omega
        subst ej
        have HE : Hid (kk = KE) := show _ = _ by have := HK.out; have := EKE.out; omega
        go_wp2
        go_ret
        exact ⟨ret_int HE.out, marked_whole HB.out h2 HM.out, HB.out.turn⟩
set_option maxRecDepth 8000 in
set_option maxHeartbeats 4000000 in
theorem heldInsInsS (k : Int) (n : Nat) (B : Nat) (v : Value) (w : World) (h : FRow 4 w B v n (marks k (n * 4))) (hk0 : 0 ≤ k) (hk1 : k ≤ 1000000000000) (hn : n ≤ 1000000000) :
    Calls Try.prog 18 #[v, .int .i64 k] w fun e w' => e = .returned (.int .i64 (k + (n : Int) * 4)) ∧ Below w.heap.size w w' := by
  obtain ⟨a, cap, off, rfl, h2, h3, hz, hfl, h4⟩ := h
  clear hz hfl
  unfold maxLen at h3
  by_cases h0 : n = 0
  · subst h0
    clear h4
    go_enter Try.func18, Try.ntmps18
    go_wp2
    refine wp_loop_rounds 1 ?_
    rw [rounds_succ]
    go_wp2
    go_ret
    exact ⟨ret_int (by omega), Below.refl _ _⟩
  · obtain ⟨rfl, hc⟩ := h4.resolve_left h0
    have HC := hide hc
    clear hc h4
    obtain ⟨KE, eKE⟩ : ∃ KE, k + (n : Int) * 4 = KE := ⟨_, rfl⟩
    rw [eKE]
    have EKE := hide eKE
    clear eKE
    go_enter Try.func18, Try.ntmps18
    go_wp2
    go_loopw [1, 5] (fun q i wr => ∃ (j : Nat) (kk : Int), j ≤ n ∧ i = .int .i64 j ∧ q = .int .i64 kk ∧ Hid (kk = k + ((j * 4 : Nat) : Int)) ∧ 0 ≤ kk ∧ kk ≤ 10000000000000 ∧ Hid (Below w.heap.size w wr)) (fun _ i _ => n - (intOf i).toNat)
    case atStart => exact ⟨0, k, by omega, rfl, rfl, by show _ = _; simp, hk0, by omega, Below.refl _ _⟩
    case round =>
      obtain ⟨j, kk, hj, rfl, rfl, HK, kk0, kk1, HB⟩ := hrel
      by_cases hlt : j < n
      · have gt (d : Nat) (hd : d < 4) (x : Int) (hx : x = kk + (d : Int)) : wr.cell? ⟨B, off + (j * 4 + d), none⟩ = some (.int .i64 x) := by
          have := cell_below HB.out (HC.out (j * 4 + d) _ (marks_at (by omega)))
          rw [this]
          congr 2
          have := HK.out
          omega
        have c0 : wr.cell? ⟨B, off + j * 4, none⟩ = some (.int .i64 kk) := gt 0 (by omega) _ (by omega)
        have c1 : wr.cell? ⟨B, off + j * 4 + 1, none⟩ = some (.int .i64 (kk + 1)) := gt 1 (by omega) _ (by omega)
        have c2 : wr.cell? ⟨B, off + j * 4 + 2, none⟩ = some (.int .i64 (kk + 1 + 1)) := gt 2 (by omega) _ (by omega)
        have c3 : wr.cell? ⟨B, off + j * 4 + 3, none⟩ = some (.int .i64 (kk + 1 + 1 + 1)) := gt 3 (by omega) _ (by omega)
        have n0 := Ins.same_ne kk
        have n1 := Ins.same_ne (kk + 1)
        have n2 := Ins.same_ne (kk + 1 + 1)
        have n3 := Ins.same_ne (kk + 1 + 1 + 1)
        have HK2 : Hid (kk + 1 + 1 + 1 + 1 = k + (((j + 1) * 4 : Nat) : Int)) := show _ = _ by have := HK.out; omega
        have lj : ((j : Nat) : Int) < (n : Nat) := by omega
        have kb : kk ≤ 1000000000000 + 4000000000 := by have := HK.out; omega
        clear gt kk1
        go_wp2
        exact ⟨⟨j + 1, kk + 1 + 1 + 1 + 1, by omega, by go_num, by go_num, HK2, by omega, by omega, HB⟩, by simp [intOf]; omega⟩
      · have ej : j = n := by omega
        subst ej
        have HE : Hid (kk = KE) := show _ = _ by have := HK.out; have := EKE.out; omega
        go_wp2
        go_ret
        exact ⟨ret_int HE.out, HB.out⟩
theorem list_of' {α : Type} {P : Nat → α → Prop} : ∀ n : Nat, (∀ i, i < n → ∃ x, P i x) → ∃ xs : List α, xs.length = n ∧ ∀ (i : Nat) x, xs[i]? = some x → P i x
  | 0, _ => ⟨[], rfl, fun i x h => by simp at h⟩
  | n + 1, h => by
    obtain ⟨xs, hl, hx⟩ := list_of' n (fun i hi => h i (by omega))
    obtain ⟨y, hy⟩ := h n (by omega)
    refine ⟨xs ++ [y], by simp [hl], fun i x hi => ?_⟩
    by_cases e : i < n
    · rw [List.getElem?_append_left (by omega)] at hi
      exact hx i x hi
    · rw [List.getElem?_append_right (by omega)] at hi
      have : i = n := by
        have := (List.getElem?_eq_some_iff.1 hi).1
        simp at this; omega
      subst this
      rw [hl, Nat.sub_self] at hi
      obtain rfl := Option.some.inj (show some y = some x from hi)
      exact hy
theorem infoIns : ∃ i, Try.prog.info? 52 = some i ∧ i.zero = some (.agg #[.int .i64 0, .int .i64 0, .int .i64 0, .int .i64 0]) ∧ i.size = 4 ∧ i.bytes = 32 := by
  have hinfo : (Try.prog.info? 52).map (fun i => (i.zero, i.size, i.bytes)) = some (some (.agg #[.int .i64 0, .int .i64 0, .int .i64 0, .int .i64 0]), 4, 32) := by kernel_rfl
  obtain ⟨i, hi, h⟩ := Option.map_eq_some_iff.1 hinfo
  simp only [Prod.mk.injEq] at h
  exact ⟨i, hi, h.1, h.2.1, h.2.2⟩
/-- Instructions in a slice that the call made. -/
abbrev OwnI (w : World) (lo : Nat) (v : Value) (is : List In4) : Prop := OwnF 52 4 w lo v is.length (flatI is)
/-- One instruction more. -/
theorem run_pushI {w : World} {ty : TypeId} {lo cap : Nat} {q : Option Addr} {is : List In4} (hown : OwnI w lo (.slice q is.length cap) is) (hn : is.length ≤ 1000000000000) (hlo : lo ≤ w.heap.size) (ad : Addr) (i : In4)
    (c0 : w.cell? (ad.add 0) = some (.int .i64 i.op)) (c1 : w.cell? (ad.add 1) = some (.int .i64 i.d)) (c2 : w.cell? (ad.add 2) = some (.int .i64 i.a)) (c3 : w.cell? (ad.add 3) = some (.int .i64 i.k)) :
    ∃ g' cap' w', (Builtin.append_ #[38, 38] ty #[.slice q is.length cap, .slice (some ad) 1 1]).run Try.prog w = .ok (.slice (some ⟨g', 0, none⟩) (is.length + 1) cap') w' ∧ OwnI w' lo (.slice (some ⟨g', 0, none⟩) (is.length + 1) cap') (is ++ [i]) ∧ ((Value.slice q is.length cap).ownBlock = some g' ∨ w.heap.size ≤ g') ∧ g' < w'.heap.size ∧ w.grownBy w' (Value.slice q is.length cap).ownBlock := by
  obtain ⟨j, hi, hz, hsz, hby⟩ := infoIns
  obtain ⟨g', cap', w', h1, h2, h3⟩ := run_flat (P := Try.prog) 38 ty 52 j _ 4 32 Try.underlying38 hi hz hsz hby rfl (by decide) (by decide) hown hn hlo ad [i.op, i.d, i.a, i.k] rfl (fun j x hx => by
    match j, hx with
    | 0, hx => cases hx; exact c0
    | 1, hx => cases hx; exact c1
    | 2, hx => cases hx; exact c2
    | 3, hx => cases hx; exact c3
    | j + 4, hx => simp at hx)
  refine ⟨g', cap', w', h1, ?_, h3⟩
  unfold OwnI
  rw [flatI_app, List.length_append]
  exact h2
end Go.Proofs.Ytlgpnogeoaoidaa.InsS
