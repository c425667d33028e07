/-
  slices.Concat of two slices of ints.
-/
import Derived.Test.YtckhfpaicnjknaaGreatPolEs
import Derived.Test.YtckhfpaicnjknaaGreatLays2
namespace Go.Proofs.YtckhfpaicnjknaaGreat.Pol
set_option linter.unusedVariables false
open Go.ChangeShapes Go.WideShapes Go.ChangeAt Go.RowKit Go.Shelf IntS Rng
theorem own_slice {w : World} {lo : Nat} {v : Value} {l : List Int} (h : IntS.Own w lo v l) : ∃ q n c, v = .slice q n c := by
  obtain ⟨_, h0 | ⟨g, cap, cur, hv, _⟩⟩ := h
  · exact ⟨_, _, _, h0.1⟩
  · exact ⟨_, _, _, hv⟩
theorem wpList_cat {w : World} {ops : Array Oper} {rest : List Oper} {o : Oper} {a : Act} {Q : Exit → Act → World → Prop} (hgd : o.guard = none) (s x : Operand)
    (ho : o.op = .call { callee := .builtin .append, args := #[s, x], argTypes := #[28, 28] })
    (lo : Nat) (v : Value) (l : List Int) (hs : a.eval s = v) (hown : IntS.Own w lo v l) (hlo : lo ≤ w.heap.size)
    (v2 : Value) (B : Nat) (xs : List Int) (hx : a.eval x = v2) (hr : Row w B v2 xs) (hl : xs.length ≤ 1000000) (hl2 : l.length ≤ 1000000)
    (h : ∀ (q : Option Addr) (n c : Nat) (w' : World), Hid (IntS.Own w' lo (.slice q n c) (l ++ xs)) → Hid (Below lo w w') → wpList Tryz.prog ops Q rest (a.put o.dst (.slice q n c)) w') : wpList Tryz.prog ops Q (o :: rest) a w := by
  obtain ⟨i0, hi, hz, hsz, hby⟩ := info_int
  have hlt := World.ownsRow.lt hown
  have key (ad : Addr) (c : Nat) (hv : v2 = .slice (some ad) xs.length c) (hc : ∀ j u, (vals xs)[j]? = some u → w.cell? (ad.add j) = some u) : wpList Tryz.prog ops Q (o :: rest) a w := by
    refine wpList_append_own w hgd s x 28 ho lo 3 i0 (.int .i64 0) 1 8 Tryz.underlying28 hi hz hsz hby rfl (by decide) v l.length (vals l) hs hown ad xs.length c (vals xs) (hx.trans hv) (by rw [vals_len]; omega) hc (fun u hu => ?_) (by unfold maxLen; omega) (by omega) hlo (fun v' w' h1 h2 h3 => ?_)
    · obtain ⟨y, _, rfl⟩ := List.mem_map.1 hu
      rfl
    · have e : vals l ++ vals xs = vals (l ++ xs) := by simp [vals]
      rw [e] at h1
      have g1 : IntS.Own w' lo v' (l ++ xs) := by
        unfold IntS.Own
        rw [List.length_append]
        exact h1
      obtain ⟨q, n, c', rfl⟩ := own_slice g1
      exact h q n c' w' g1 ((Below.refl lo w).grown h2 hlo (fun k e => (hlt k e).1))
  obtain ⟨a0, cap, off, hv, h2, h3, hz0, h4⟩ := hr
  cases a0 with
  | none =>
    have hc0 := hz0 rfl
    subst hc0
    have hx0 : xs = [] := List.length_eq_zero_iff.1 (by omega)
    subst hx0
    refine wpList_append_own_none hgd s x 28 ho lo 3 i0 1 Tryz.underlying28 hi v l.length (vals l) hs hown (hx.trans hv) ?_
    obtain ⟨q, n, c', rfl⟩ := own_slice hown
    exact h q n c' w (by rw [List.append_nil]; exact hown) (Below.refl _ _)
  | some ad =>
    rcases h4 with h4 | ⟨h4, h5⟩
    · subst h4
      exact key ad cap hv (fun j u hu => by simp [vals] at hu)
    · refine key ad cap hv (fun j u hu => ?_)
      cases h4
      rw [Go.WideShapes.add_plain]
      simp only [vals, List.getElem?_map, Option.map_eq_some_iff] at hu
      obtain ⟨y, hy, rfl⟩ := hu
      exact h5 j y hy
/-- slices.Grow of no slice: room for so many. -/
theorem grow_nil (k : Nat) (hk : k ≤ 1000000) (w : World) :
    Calls Tryz.prog 65 #[.slice none 0 0, .int .i64 k] w fun e w' => ∃ q n c, e = .returned (.slice q n c) ∧ IntS.Own w' w.heap.size (.slice q n c) [] ∧ Below w.heap.size w w' := by
  by_cases h0 : k = 0
  · subst h0
    refine (Any8.slices_Grow_room Tryz.growI none 0 0 0 w (Nat.le_refl _) (by omega) (by omega) (Nat.le_refl _)).mono ?_
    rintro e w' ⟨rfl, rfl⟩
    exact ⟨none, 0, 0, rfl, own_nil _ _, Below.refl _ _⟩
  · obtain ⟨i0, hi, hz, hsz, hby⟩ := info_int
    refine (Any8.slices_Grow_grow Tryz.growI i0 (.int .i64 0) hi hz (by omega) none 0 0 k [] w (Nat.le_refl _) (by omega) (by rw [hby]; omega) (by omega) (by simp) (fun _ => rfl) (fun a h => by cases h)).mono ?_
    rintro e w' ⟨rfl, rfl⟩
    refine ⟨_, _, _, rfl, ⟨rfl, Or.inr ⟨w.heap.size, _, _, rfl, Nat.le_refl _, World.alloc_heap_new w.drew _, Nat.zero_le _, grownCap_le_maxLen _ _ _ _ (by unfold maxLen; omega), ?_, by simp [vals]⟩⟩, ((Below.refl _ w).drew).alloc (Nat.le_refl _) _⟩
    have hge := grownCap_ge w (0 + k) 0 (Tryz.growI_ren.t 25)
    simp only [Array.size_append, size_zeroCells]
    have e1 : (Value.int .i64 0).cells.size = 1 := rfl
    rw [e1]
    simp only [List.size_toArray, List.length_nil]
    omega
def catN (xs ys : List Int) (k : Nat) : List Int := if k = 0 then [] else if k = 1 then xs else xs ++ ys
theorem pick_row {w wr : World} {xs ys : List Int} {B B' T k : Nat} {a a' : Option Addr} {cap cap' : Nat} (hk : k < 2) (r : Rec T [.slice a xs.length cap, .slice a' ys.length cap'] wr) (h : Row w B (.slice a xs.length cap) xs) (h' : Row w B' (.slice a' ys.length cap') ys) (hx : xs.length ≤ 1000) (hy : ys.length ≤ 1000) :
    ∃ (zs : List Int) (q : Option Addr) (c X : Nat), wr.cell? ⟨T, k, none⟩ = some (.slice q zs.length c) ∧ Row w X (.slice q zs.length c) zs ∧ zs.length ≤ 1000 ∧ catN xs ys (k + 1) = catN xs ys k ++ zs ∧ (catN xs ys k).length ≤ 1000 := by
  by_cases e : k = 0
  · subst e
    exact ⟨xs, a, cap, B, r.cell 0 _ rfl, h, hx, by simp [catN], by simp [catN]⟩
  · obtain rfl : k = 1 := by omega
    exact ⟨ys, a', cap', B', r.cell 1 _ rfl, h', hy, by simp [catN], by simp [catN]; exact hx⟩
set_option maxRecDepth 8000 in
set_option maxHeartbeats 4000000 in
theorem concat (xs ys : List Int) (B B' T : Nat) (a a' : Option Addr) (cap cap' : Nat) (w : World) (r : Rec T [.slice a xs.length cap, .slice a' ys.length cap'] w) (h : Row w B (.slice a xs.length cap) xs) (h' : Row w B' (.slice a' ys.length cap') ys) (hx : xs.length ≤ 1000) (hy : ys.length ≤ 1000) :
    Calls Tryz.prog 45 #[.slice (some ⟨T, 0, none⟩) 2 2] w fun e w' => ∃ q n c, e = .returned (.slice q n c) ∧ IntS.Own w' w.heap.size (.slice q n c) (xs ++ ys) ∧ Below w.heap.size w w' := by
  have RR := hide r
  have HX := hide h
  have HY := hide h'
  have LX := hide hx
  have LY := hide hy
  clear r h h' hx hy
  go_enter Tryz.func45, Tryz.ntmps45
  go_wp2
  go_loopw [3, 11] (fun s i wr => ∃ (k n : Nat), k ≤ 2 ∧ i = .int .i64 k ∧ s = .int .i64 n ∧ Hid (n = (catN xs ys k).length) ∧ n ≤ 3000 ∧ w = wr) (fun _ i _ => 2 - (intOf i).toNat)
  case atStart => exact ⟨0, 0, by omega, rfl, rfl, by simp [catN, Hid], by omega, rfl⟩
  case round =>
    obtain ⟨k, n, hk, rfl, rfl, HN, n3, rfl⟩ := hrel
    by_cases hlt : k < 2
    case pos =>
      obtain ⟨zs, q, c, X, px, RX, ZL, EE, EL⟩ := pick_row hlt RR.out HX.out HY.out LX.out LY.out
      obtain ⟨m, em⟩ : ∃ m, zs.length = m := ⟨_, rfl⟩
      rw [em] at px ZL
      have HN2 : Hid (n + m = (catN xs ys (k + 1)).length) := show _ = _ by rw [EE, List.length_append, em, HN.out]
      have n4 : n + m ≤ 3000 := by have := HN.out; omega
      have lk : ((k : Nat) : Int) < (2 : Int) := by omega
      have l0 : ¬ ((n : Int) + (m : Int) < 0) := by omega
      clear RX EE EL em HN
      go_wp2
      exact ⟨⟨k + 1, n + m, by omega, by go_num, by go_num, HN2, n4, trivial⟩, by simp [intOf]; omega⟩
    obtain rfl : k = 2 := by omega
    clear HN
    go_wp2_with fail
    refine (grow_nil n (by omega) _).mono ?_
    rintro e u ⟨q0, m0, c0, rfl, hO, hb⟩
    have O0 := hide hO
    have B0 := hide hb
    clear hO hb
    go_wp2
    go_loopw [6, 27] (fun v i wr => ∃ (k nn c : Nat) (q : Option Addr), k ≤ 2 ∧ i = .int .i64 k ∧ v = .slice q nn c ∧ Hid (IntS.Own wr w.heap.size (.slice q nn c) (catN xs ys k)) ∧ Hid (Below w.heap.size w wr)) (fun _ i _ => 2 - (intOf i).toNat)
    case atStart => exact ⟨0, m0, c0, q0, by omega, rfl, rfl, O0, B0⟩
    case round =>
      obtain ⟨k, nn, cc, qq, hk, rfl, rfl, HO, HB⟩ := hrel
      clear O0 B0
      by_cases hlt : k < 2
      case neg =>
        obtain rfl : k = 2 := by omega
        have e2 : Hid (catN xs ys 2 = xs ++ ys) := show _ = _ by simp [catN]
        go_wp2
        go_ret
        exact ⟨_, _, _, rfl, by rw [← e2.out]; exact HO.out, HB.out⟩
      obtain ⟨zs, q, c, X, px, RX, ZL, EE, EL⟩ := pick_row hlt (RR.out.below HB.out) HX.out HY.out LX.out LY.out
      have RX2 := hide (RX.below HB.out)
      have EE2 := hide EE
      have Z1 : Hid (zs.length ≤ 1000000) := show _ ≤ _ by omega
      have Z2 : Hid ((catN xs ys k).length ≤ 1000000) := show _ ≤ _ by omega
      have lk : ((k : Nat) : Int) < (2 : Int) := by omega
      clear RX EE EL ZL
      go_wp2_with (at_builtin; refine wpList_cat rfl _ _ rfl w.heap.size (.slice qq nn cc) (catN xs ys k) rfl HO.out HB.out.size _ X zs rfl RX2.out Z1.out Z2.out ?_; intro q2 n2 c2 w2 hO2 hB2)
      have O3 := hO2.out
      rw [← EE2.out] at O3
      have O4 := hide O3
      have B4 := hide (HB.out.trans hB2.out)
      clear O3 hO2 hB2 px RX2
      exact ⟨⟨k + 1, n2, c2, q2, by omega, by go_num, rfl, O4, B4⟩, by simp [intOf]; omega⟩
end Go.Proofs.YtckhfpaicnjknaaGreat.Pol
