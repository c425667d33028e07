/-
  The program's MchOk: contracts of allWords and MchOk.
-/
import Derived.Test.YtnhpmbhphbphaaaGreatMchS
import Derived.Test.YtnhpmbhphbphaaaGreatJnJ
import Derived.Laws.CopyOwn
import Derived.Deep.RegionWith
namespace Go.Proofs.YtnhpmbhphbphaaaGreat.MchI
open Go.ChangeShapes Go.WideShapes Go.ChangeAt Go.RowKit IntS Mch
set_option maxHeartbeats 2000000 in
theorem allWords (xs : List Int) (B : Nat) (v : Value) (w : World) (h : Row w B v xs) :
    Calls Tryz.prog 40 #[v] w fun e w' => e = .returned (.bool (wordsB xs)) ∧ w' = w := by
  obtain ⟨a, cap, off, rfl, h2, h3, hz, h4⟩ := h
  unfold maxLen at h3
  clear hz
  obtain ⟨n, en⟩ : ∃ n, xs.length = n := ⟨_, rfl⟩
  rw [en] at h2 ⊢
  have EN := hide en
  have H4 := hide h4
  clear en h4
  by_cases h0 : n = 0
  · subst h0
    have e0 : xs = [] := List.length_eq_zero_iff.1 EN.out
    have HD : Hid (wordsB xs = true) := show _ = true by rw [e0]; rfl
    clear e0 H4 EN
    go_enter Tryz.func40, Tryz.ntmps40
    go_wp2
    refine wp_loop_rounds 1 ?_
    rw [rounds_succ]
    go_wp2
    go_ret
    exact ⟨ret_bool HD.out.symm, rfl⟩
  · obtain ⟨rfl, hc⟩ := H4.out.resolve_left (fun e => h0 (by rw [← EN.out, e]; rfl))
    have HC := hide hc
    clear hc H4
    go_enter Tryz.func40, Tryz.ntmps40
    go_wp2
    go_loopw [7] (fun i wr => ∃ k : Nat, k ≤ n ∧ i = .int .i64 k ∧ Hid (∀ (j : Nat) x, j < k → xs[j]? = some x → Wrd.wok x = true) ∧ wr = w) (fun i _ => n - (intOf i).toNat)
    case atStart => exact ⟨0, by omega, rfl, fun j x hj => by omega, rfl⟩
    case round =>
      obtain ⟨k, hk, rfl, HE, rfl⟩ := hrel
      by_cases hlt : k < n
      · obtain ⟨x, ex⟩ : ∃ x, xs[k]? = some x := ⟨_, List.getElem?_eq_getElem (by rw [EN.out]; exact hlt)⟩
        have cx := HC.out k x ex
        have EX := hide ex
        clear ex
        go_wp2_with fail
        refine (Wrd.implOk x _).mono ?_
        rintro e w1 ⟨rfl, rfl⟩
        cases hb : Wrd.wok x with
        | true =>
          have HX : Hid (∀ (j : Nat) y, j < k + 1 → xs[j]? = some y → Wrd.wok y = true) := fun j y hj hy => by
            by_cases ej : j = k
            · subst ej
              rw [EX.out] at hy
              obtain rfl := Option.some.inj hy
              exact hb
            · exact HE.out j y (by omega) hy
          clear hb
          go_wp2
          exact ⟨⟨k + 1, by omega, by go_num, HX, trivial⟩, by simp [intOf]; omega⟩
        | false =>
          have HD := hide (words_no EX.out hb)
          clear hb
          go_wp2
          go_ret
          exact ⟨ret_bool HD.out.symm, rfl⟩
      · have HD : Hid (wordsB xs = true) := words_yes fun j x hx => HE.out j x (by have := (List.getElem?_eq_some_iff.1 hx).1; rw [EN.out] at this; omega) hx
        go_wp2
        go_ret
        exact ⟨ret_bool HD.out.symm, rfl⟩
set_option maxRecDepth 8000 in
set_option maxHeartbeats 4000000 in
theorem mchOk (m : M) (c : List Value) (w : World) (h : RMach w c m) :
    Calls Tryz.prog 18 #[.agg c.toArray] w fun e w' => e = .returned (.bool (okM m)) ∧ Below w.heap.size w w' := by
  obtain ⟨r, e, i, o, b1, b2, b3, b4, rfl, h1, h2, h3, h4⟩ := h
  obtain ⟨regs, pc, mem, save, lets, waits, halt, ins, outs, count⟩ := m
  have BW := hide ((Below.refl _ _).alloc (Nat.le_refl _) (.cells #[r, .int .i64 pc, e, .int .i64 save, .bool lets, .bool waits, .int .i64 halt, i, o, .int .i64 count] 25) : Below w.heap.size w _)
  have H1 := hide (h1.below BW.out)
  have H2 := hide (h2.below BW.out)
  have H3 := hide (h3.below BW.out)
  have H4 := hide (h4.below BW.out)
  obtain ⟨a1, k1, _, rfl, p1, q1, _⟩ := h1
  obtain ⟨a2, k2, _, rfl, p2, q2, _⟩ := h2
  clear h3 h4
  unfold maxLen at q1 q2
  simp only [mv] at *
  obtain ⟨B, eB⟩ : ∃ B, okM ⟨regs, pc, mem, save, lets, waits, halt, ins, outs, count⟩ = B := ⟨_, rfl⟩
  rw [eB]
  have EB : Hid ((decide (regs.length = 4) && wordsB regs && Wrd.wok pc && decide (mem.length = 64) && wordsB mem && Wrd.wok save && Ins.inB halt 0 4 && wordsB ins && wordsB outs && Ins.inB count 0 1000000) = B) := eB
  clear eB
  go_enter Tryz.func18, Tryz.ntmps18
  by_cases z0 : regs.length = 4
  case neg =>
    have t0 : ((regs.length : Int) == 4) = false := beq_eq_false_iff_ne.2 (by omega)
    have hB : Hid (B = false) := show _ = _ by rw [← EB.out]; simp [z0]
    clear z0
    go_wp2
    go_ret
    exact ⟨ret_bool hB.out.symm, BW.out⟩
  have t0 : ((regs.length : Int) == 4) = true := by simp [z0]
  have Z0 := hide z0
  clear z0
  by_cases z1 : mem.length = 64
  case neg =>
    have t1 : ((mem.length : Int) == 64) = false := beq_eq_false_iff_ne.2 (by omega)
    have hB : Hid (B = false) := show _ = _ by rw [← EB.out]; simp [z1]
    clear z1
    go_wp2
    go_ret
    exact ⟨ret_bool hB.out.symm, BW.out⟩
  have t1 : ((mem.length : Int) == 64) = true := by simp [z1]
  have Z1 := hide z1
  clear z1
  go_wp2_with fail
  refine (allWords regs b1 _ _ H1.out).mono ?_
  rintro e u ⟨rfl, rfl⟩
  cases x2 : wordsB regs with
  | false =>
    have hB : Hid (B = false) := show _ = _ by rw [← EB.out]; simp [x2]
    clear x2
    go_wp2
    go_ret
    exact ⟨ret_bool hB.out.symm, BW.out⟩
  | true =>
    have X2 := hide x2
    clear x2
    go_wp2_with fail
    refine (allWords mem b2 _ _ H2.out).mono ?_
    rintro e u ⟨rfl, rfl⟩
    cases x3 : wordsB mem with
    | false =>
      have hB : Hid (B = false) := show _ = _ by rw [← EB.out]; simp [x3]
      clear x3
      go_wp2
      go_ret
      exact ⟨ret_bool hB.out.symm, BW.out⟩
    | true =>
      have X3 := hide x3
      clear x3
      go_wp2_with fail
      refine (allWords ins b3 _ _ H3.out).mono ?_
      rintro e u ⟨rfl, rfl⟩
      cases x4 : wordsB ins with
      | false =>
        have hB : Hid (B = false) := show _ = _ by rw [← EB.out]; simp [x4]
        clear x4
        go_wp2
        go_ret
        exact ⟨ret_bool hB.out.symm, BW.out⟩
      | true =>
        have X4 := hide x4
        clear x4
        go_wp2_with fail
        refine (allWords outs b4 _ _ H4.out).mono ?_
        rintro e u ⟨rfl, rfl⟩
        cases x5 : wordsB outs with
        | false =>
          have hB : Hid (B = false) := show _ = _ by rw [← EB.out]; simp [x5]
          clear x5
          go_wp2
          go_ret
          exact ⟨ret_bool hB.out.symm, BW.out⟩
        | true =>
          have X5 := hide x5
          clear x5
          go_wp2_with fail
          refine (Wrd.implOk pc _).mono ?_
          rintro e u ⟨rfl, rfl⟩
          cases x6 : Wrd.wok pc with
          | false =>
            have hB : Hid (B = false) := show _ = _ by rw [← EB.out]; simp [x6]
            clear x6
            go_wp2
            go_ret
            exact ⟨ret_bool hB.out.symm, BW.out⟩
          | true =>
            have X6 := hide x6
            clear x6
            go_wp2_with fail
            refine (Wrd.implOk save _).mono ?_
            rintro e u ⟨rfl, rfl⟩
            cases x7 : Wrd.wok save with
            | false =>
              have hB : Hid (B = false) := show _ = _ by rw [← EB.out]; simp [x7]
              clear x7
              go_wp2
              go_ret
              exact ⟨ret_bool hB.out.symm, BW.out⟩
            | true =>
              have X7 := hide x7
              clear x7
              by_cases y8 : 0 ≤ halt
              case neg =>
                have hB : Hid (B = false) := show _ = _ by rw [← EB.out]; simp [Ins.inB, y8]
                go_wp2
                go_ret
                first | exact ⟨ret_bool hB.out.symm, BW.out⟩ | exact ⟨ret_bool (by rw [hB.out]; exact decide_eq_false (by omega)), BW.out⟩
              by_cases y9 : halt ≤ 4
              case neg =>
                have hB : Hid (B = false) := show _ = _ by rw [← EB.out]; simp [Ins.inB, y9]
                go_wp2
                go_ret
                first | exact ⟨ret_bool hB.out.symm, BW.out⟩ | exact ⟨ret_bool (by rw [hB.out]; exact decide_eq_false (by omega)), BW.out⟩
              by_cases y10 : 0 ≤ count
              case neg =>
                have hB : Hid (B = false) := show _ = _ by rw [← EB.out]; simp [Ins.inB, y10]
                go_wp2
                go_ret
                first | exact ⟨ret_bool hB.out.symm, BW.out⟩ | exact ⟨ret_bool (by rw [hB.out]; exact decide_eq_false (by omega)), BW.out⟩
              by_cases y11 : count ≤ 1000000
              case neg =>
                have hB : Hid (B = false) := show _ = _ by rw [← EB.out]; simp [Ins.inB, y11]
                go_wp2
                go_ret
                first | exact ⟨ret_bool hB.out.symm, BW.out⟩ | exact ⟨ret_bool (by rw [hB.out]; exact decide_eq_false (by omega)), BW.out⟩
              have hB : Hid (B = true) := show _ = _ by rw [← EB.out]; simp [Ins.inB, Z0.out, Z1.out, X2.out, X3.out, X4.out, X5.out, X6.out, X7.out, y8, y9, y10, y11]
              go_wp2
              go_ret
              first | exact ⟨ret_bool hB.out.symm, BW.out⟩ | exact ⟨ret_bool (by rw [hB.out]; exact decide_eq_true (by omega)), BW.out⟩
end Go.Proofs.YtnhpmbhphbphaaaGreat.MchI
namespace Go.Proofs.YtnhpmbhphbphaaaGreat.MchI
open Go.ChangeShapes Go.WideShapes Go.ChangeAt Go.RowKit IntS Mch
theorem sizeInt : (Tryz.prog.info? 3).map (·.size) = some 1 := by kernel_rfl
theorem made_zero (n : Nat) : madeCells #[.int .i64 0] n = (List.replicate n (Value.int .i64 0)).toArray := by
  apply Array.ext'
  simp [madeCells, Nat.mod_one]
  rw [List.eq_replicate_iff]
  refine ⟨by simp, fun b hb => ?_⟩
  simp at hb
  exact hb.2.symm
theorem made_heap (w : World) (n : Nat) (t : TypeId) : (w.alloc (.cells (madeCells #[.int .i64 0] n) t)).heap[w.heap.size]? = some (.cells (List.replicate n (Value.int .i64 0)).toArray t (0, 0)) := by
  rw [made_zero]
  exact (MapKept.heap_alloc w _).1
theorem own_full {w : World} {g n : Nat} {xs : List Int} (hn : xs.length = n) (hm : n ≤ maxLen) (hg : w.heap[g]? = some (.cells (vals xs).toArray 3 (0, 0))) : Own w g (.slice (some ⟨g, 0, none⟩) n n) xs := by
  subst hn
  refine ⟨by simp [vals], Or.inr ⟨g, xs.length, (vals xs).toArray, rfl, Nat.le_refl _, hg, Nat.le_refl _, hm, by simp [vals], ?_⟩⟩
  rw [List.take_of_length_le (by simp [vals])]
theorem splice_all {xs : List Int} {n : Nat} (hn : xs.length = n) : splice (List.replicate n (Value.int .i64 0)) 0 (vals xs) = vals xs := by
  simp [splice, vals, hn]
theorem one_vals {xs : List Int} : ∀ v ∈ vals xs, v.oneCell' = true := fun v hv => by
  obtain ⟨y, _, rfl⟩ := List.mem_map.1 hv
  rfl
theorem row_src {w : World} {B n cap : Nat} {xs : List Int} {a : Option Addr} (h : Row w B (.slice a n cap) xs) (h0 : 0 < (vals xs).length) : ∃ ad, a = some ad ∧ ∀ j v, (vals xs)[j]? = some v → w.cell? (ad.add j) = some v := by
  obtain ⟨a', cap', off', hv, _, _, _, h4⟩ := h
  cases hv
  rcases h4 with h4 | ⟨h4, h5⟩
  · subst h4; simp [vals] at h0
  · refine ⟨_, h4, fun j v hv => ?_⟩
    rw [Go.WideShapes.add_plain]
    simp only [vals, List.getElem?_map, Option.map_eq_some_iff] at hv
    obtain ⟨y, hy, rfl⟩ := hv
    exact h5 j y hy
set_option maxHeartbeats 2000000 in
set_option maxRecDepth 8000 in
theorem copied (xs : List Int) (B : Nat) (v : Value) (w : World) (h : Row w B v xs) (hn : xs.length ≤ 2000000) :
    Calls Tryz.prog 53 #[v] w fun e w' => ∃ g : Nat, e = .returned (.slice (some ⟨g, 0, none⟩) xs.length xs.length) ∧ Own w' g (.slice (some ⟨g, 0, none⟩) xs.length xs.length) xs ∧ w.heap.size ≤ g ∧ g < w'.heap.size ∧ Below w.heap.size w w' := by
  have HR := hide h
  obtain ⟨a, cap, off, rfl, h2, h3, hz, h4⟩ := h
  obtain ⟨n, en⟩ : ∃ n, xs.length = n := ⟨_, rfl⟩
  unfold maxLen at h3
  have hmk := run_make_row' (P := Tryz.prog) 23 3 (.int .i64 0) 8 Tryz.underlying23 (by kernel_rfl) rfl .i64 .i64 n (by omega) (by omega) w
  have HB := hide ((Below.refl w.heap.size w).alloc (Nat.le_refl _) (.cells (madeCells #[.int .i64 0] n) 3))
  have HG := hide (made_heap w n 3)
  have H4 := hide h4
  have EN := hide en
  rw [en] at h2 hn ⊢
  have HN := hide hn
  clear h4 en hz hn
  go_enter Tryz.func53, Tryz.ntmps53
  have L1 : Hid ((vals xs).length = Nat.min n n) := show _ = _ by rw [vals_len, EN.out]; exact (Nat.min_self n).symm
  have L2 : Hid (0 + (vals xs).length ≤ (List.replicate n (Value.int .i64 0)).length) := show _ ≤ _ by rw [vals_len, EN.out]; simp
  have L3 : Hid (0 < (vals xs).length → some (⟨w.heap.size, 0, none⟩ : Addr) = some ⟨w.heap.size, 0, none⟩ ∧ ∃ ad, a = some ad ∧ ∀ j v, (vals xs)[j]? = some v → (w.alloc (.cells (madeCells #[.int .i64 0] n) 3)).cell? (ad.add j) = some v) := fun h0 => ⟨rfl, row_src (HR.out.below HB.out) h0⟩
  go_wp2_with (refine wpList_copy_splice rfl (.tmp 7) (.tmp 8) 23 23 rfl 3 Tryz.underlying23 sizeInt (some ⟨w.heap.size, 0, none⟩) a n n n cap rfl rfl w.heap.size 0 (List.replicate n (Value.int .i64 0)) 3 HG.out (vals xs) L1.out L3.out L2.out one_vals w.heap.size w HB.out (Nat.le_refl _) ?_; intro w2 HG2 HB2)
  rw [splice_all EN.out] at HG2
  have HO := hide (own_full EN.out (by have := HN.out; unfold maxLen; omega) HG2.out)
  clear HG2 HG HB
  replace HB2 := hide HB2
  go_wp2
  go_ret
  exact ⟨w.heap.size, rfl, HO.out, Nat.le_refl _, HO.out.isT.lt, HB2.out⟩
end Go.Proofs.YtnhpmbhphbphaaaGreat.MchI
namespace Go.Proofs.YtnhpmbhphbphaaaGreat.Mch
open Go.ChangeShapes Go.WideShapes Go.ChangeAt Go.RowKit IntS
def emptyM : M := ⟨[], 0, [], 0, false, false, 0, [], [], 0⟩
def newM (ws is : List Int) : M := ⟨[0, 0, 0, 0], 0, ws ++ List.replicate (64 - ws.length) 0, 0, false, false, 0, is, [], 0⟩
def newOf (ws is : List Int) : M := if decide (ws.length ≤ 64) && wordsB ws && wordsB is then newM ws is else emptyM
theorem row_nil (w : World) (B : Nat) : WRow w B (.slice none 0 0) [] := ⟨none, 0, 0, rfl, Nat.le_refl _, by unfold maxLen; omega, fun _ => rfl, Or.inl rfl⟩
theorem empty_mach (w : World) (lo : Nat) : WMach w lo [.slice none 0 0, .int .i64 0, .slice none 0 0, .int .i64 0, .bool false, .bool false, .int .i64 0, .slice none 0 0, .slice none 0 0, .int .i64 0] emptyM :=
  ⟨_, _, _, _, lo, lo + 1, lo + 2, lo + 3, rfl, row_nil _ _, row_nil _ _, row_nil _ _, row_nil _ _, by omega, by omega, by omega, by omega, by omega, by omega, by omega, by omega, by omega, by omega⟩
theorem new_no {ws is : List Int} (h : (decide (ws.length ≤ 64) && wordsB ws && wordsB is) = false) : newOf ws is = emptyM := by unfold newOf; rw [h]; rfl
theorem new_yes {ws is : List Int} (h1 : ws.length ≤ 64) (h2 : wordsB ws = true) (h3 : wordsB is = true) : newOf ws is = newM ws is := by unfold newOf; simp [h1, h2, h3]
theorem Rec.ten {Z : Nat} {x0 x1 x2 x3 x4 x5 x6 x7 x8 x9 : Value} {w : World} (h : Rec Z [x0, x1, x2, x3, x4, x5, x6, x7, x8, x9] w) (v0 v1 v2 v3 v4 v5 v6 v7 v8 v9 : Value) : Rec Z [v0, v1, v2, v3, v4, v5, v6, v7, v8, v9] ((((((((((w.setCell ⟨Z, 0, none⟩ v0).setCell ⟨Z, 1, none⟩ v1).setCell ⟨Z, 2, none⟩ v2).setCell ⟨Z, 3, none⟩ v3).setCell ⟨Z, 4, none⟩ v4).setCell ⟨Z, 5, none⟩ v5).setCell ⟨Z, 6, none⟩ v6).setCell ⟨Z, 7, none⟩ v7).setCell ⟨Z, 8, none⟩ v8).setCell ⟨Z, 9, none⟩ v9) :=
  (((((((((h.set 0 v0 (by simp) rfl).set 1 v1 (by simp) rfl).set 2 v2 (by simp) rfl).set 3 v3 (by simp) rfl).set 4 v4 (by simp) rfl).set 5 v5 (by simp) rfl).set 6 v6 (by simp) rfl).set 7 v7 (by simp) rfl).set 8 v8 (by simp) rfl).set 9 v9 (by simp) rfl
end Go.Proofs.YtnhpmbhphbphaaaGreat.Mch
namespace Go.Proofs.YtnhpmbhphbphaaaGreat.MchI
open Go.ChangeShapes Go.WideShapes Go.ChangeAt Go.RowKit IntS Mch
theorem wpList_make_ints {w : World} {ops : Array Oper} {rest : List Oper} {o : Oper} {a : Act} {Q : Exit → Act → World → Prop} (hgd : o.guard = none) (x y : Operand) (ho : o.op = .makeSlice 23 x y)
    (n : Nat) (hx : a.eval x = .int .i64 n) (hy : a.eval y = .int .i64 n) (hn : n ≤ 1000000000000)
    (h : ∀ w' : World, Hid (w'.heap[w.heap.size]? = some (.cells (List.replicate n (Value.int .i64 0)).toArray 3 (0, 0))) → Hid (Below w.heap.size w w') → Hid (w'.heap.size = w.heap.size + 1) → wpList Tryz.prog ops Q rest (a.put o.dst (.slice (some ⟨w.heap.size, 0, none⟩) n n)) w') : wpList Tryz.prog ops Q (o :: rest) a w := by
  have hmk := run_make_row' (P := Tryz.prog) 23 3 (.int .i64 0) 8 Tryz.underlying23 (by kernel_rfl) rfl .i64 .i64 n (by omega) (by omega) w
  refine wpList_plain hgd fun K hK => ?_
  unfold Oper.wp
  simp [execOp, ho, hx, hy, hmk, Result.andThen]
  exact hK _ _ (h _ (made_heap w n _) ((Below.refl _ _).alloc (Nat.le_refl _) _) (show _ = _ by simp))
theorem mem_form {ws : List Int} (h : ws.length ≤ 64) : splice (List.replicate 64 (Value.int .i64 0)) 0 (vals ws) = vals (ws ++ List.replicate (64 - ws.length) 0) := by
  have key : ∀ n, ws.length ≤ n → splice (List.replicate n (Value.int .i64 0)) 0 (vals ws) = vals (ws ++ List.replicate (n - ws.length) 0) := fun n hn => by
    simp [splice, vals, List.map_replicate]
  exact key 64 h
theorem heap_ten {u : World} {Z g : Nat} (hZ : g ≠ Z) (v0 v1 v2 v3 v4 v5 v6 v7 v8 v9 : Value) : ((((((((((u.setCell ⟨Z, 0, none⟩ v0).setCell ⟨Z, 1, none⟩ v1).setCell ⟨Z, 2, none⟩ v2).setCell ⟨Z, 3, none⟩ v3).setCell ⟨Z, 4, none⟩ v4).setCell ⟨Z, 5, none⟩ v5).setCell ⟨Z, 6, none⟩ v6).setCell ⟨Z, 7, none⟩ v7).setCell ⟨Z, 8, none⟩ v8).setCell ⟨Z, 9, none⟩ v9).heap[g]? = u.heap[g]? := by
  rw [Below.heap_setCell _ _ _ _ hZ, Below.heap_setCell _ _ _ _ hZ, Below.heap_setCell _ _ _ _ hZ, Below.heap_setCell _ _ _ _ hZ, Below.heap_setCell _ _ _ _ hZ, Below.heap_setCell _ _ _ _ hZ, Below.heap_setCell _ _ _ _ hZ, Below.heap_setCell _ _ _ _ hZ, Below.heap_setCell _ _ _ _ hZ, Below.heap_setCell _ _ _ _ hZ]
theorem row_ten {u : World} {B Z : Nat} {v : Value} {xs : List Int} (h : WRow u B v xs) (hZ : Z ≠ B) (v0 v1 v2 v3 v4 v5 v6 v7 v8 v9 : Value) : WRow ((((((((((u.setCell ⟨Z, 0, none⟩ v0).setCell ⟨Z, 1, none⟩ v1).setCell ⟨Z, 2, none⟩ v2).setCell ⟨Z, 3, none⟩ v3).setCell ⟨Z, 4, none⟩ v4).setCell ⟨Z, 5, none⟩ v5).setCell ⟨Z, 6, none⟩ v6).setCell ⟨Z, 7, none⟩ v7).setCell ⟨Z, 8, none⟩ v8).setCell ⟨Z, 9, none⟩ v9) B v xs :=
  other_row (other_row (other_row (other_row (other_row (other_row (other_row (other_row (other_row (other_row h _ _ hZ) _ _ hZ) _ _ hZ) _ _ hZ) _ _ hZ) _ _ hZ) _ _ hZ) _ _ hZ) _ _ hZ) _ _ hZ
theorem row_four (w : World) : WRow (w.alloc (.cells #[.int .i64 0, .int .i64 0, .int .i64 0, .int .i64 0] 3)) w.heap.size (.slice (some ⟨w.heap.size, 0, none⟩) 4 4) [0, 0, 0, 0] := by
  refine ⟨some ⟨w.heap.size, 0, none⟩, 4, 0, rfl, Nat.le_refl _, by unfold maxLen; omega, (fun h => by cases h), Or.inr ⟨rfl, by simp, fun i x hx => ⟨?_, by simp⟩⟩⟩
  rw [World.cell?_alloc_new]
  match i, hx with
  | 0, hx => cases hx; rfl
  | 1, hx => cases hx; rfl
  | 2, hx => cases hx; rfl
  | 3, hx => cases hx; rfl
  | i + 4, hx => simp at hx
theorem own_row {w : World} {base g n cap : Nat} {xs : List Int} (h : Own w base (.slice (some ⟨g, 0, none⟩) n cap) xs) : WRow w g (.slice (some ⟨g, 0, none⟩) n cap) xs := by
  obtain ⟨g', cap', hv, _, _, hr⟩ := h.form (by simp)
  cases hv
  exact hr
theorem new_fin {w V : World} {gr gm gi : Nat} {ws is : List Int} (h1 : WRow V gr (.slice (some ⟨gr, 0, none⟩) 4 4) [0, 0, 0, 0]) (h2 : WRow V gm (.slice (some ⟨gm, 0, none⟩) 64 64) (ws ++ List.replicate (64 - ws.length) 0)) (h3 : WRow V gi (.slice (some ⟨gi, 0, none⟩) is.length is.length) is)
    (l1 : w.heap.size ≤ gr) (l2 : w.heap.size ≤ gm) (l3 : w.heap.size ≤ gi) (d1 : gr ≠ gm) (d2 : gr ≠ gi) (d3 : gm ≠ gi) : WMach V w.heap.size [.slice (some ⟨gr, 0, none⟩) 4 4, .int .i64 0, .slice (some ⟨gm, 0, none⟩) 64 64, .int .i64 0, .bool false, .bool false, .int .i64 0, .slice (some ⟨gi, 0, none⟩) is.length is.length, .slice none 0 0, .int .i64 0] (newM ws is) :=
  ⟨_, _, _, _, gr, gm, gi, w.heap.size + gr + gm + gi + 1, rfl, h1, h2, h3, row_nil _ _, l1, l2, l3, by omega, d1, d2, by omega, d3, by omega, by omega⟩
theorem new_fin2 {w V : World} {gr gm gi : Nat} {ws is : List Int} (h2 : WRow V gm (.slice (some ⟨gm, 0, none⟩) 64 64) (ws ++ List.replicate (64 - ws.length) 0)) (h3 : WRow V gi (.slice (some ⟨gi, 0, none⟩) is.length is.length) is)
    (e : V.heap.size = gr) (l2 : w.heap.size ≤ gm) (l3 : w.heap.size ≤ gi) (d1 : gm < gr) (d2 : gi < gr) (d3 : gm ≠ gi) : WMach (V.alloc (.cells #[.int .i64 0, .int .i64 0, .int .i64 0, .int .i64 0] 3)) w.heap.size [.slice (some ⟨gr, 0, none⟩) 4 4, .int .i64 0, .slice (some ⟨gm, 0, none⟩) 64 64, .int .i64 0, .bool false, .bool false, .int .i64 0, .slice (some ⟨gi, 0, none⟩) is.length is.length, .slice none 0 0, .int .i64 0] (newM ws is) := by
  subst e
  have hb : Below V.heap.size V (V.alloc (.cells #[.int .i64 0, .int .i64 0, .int .i64 0, .int .i64 0] 3)) := (Below.refl _ _).alloc (Nat.le_refl _) _
  exact new_fin (row_four V) (h2.below hb) (h3.below hb) (by omega) l2 l3 (by omega) (by omega) d3
theorem make_four (u : World) : (Instr.makeSlice 23 (.int .i64 4) (.int .i64 4)).run Tryz.prog u = .ok (.slice (some ⟨u.heap.size, 0, none⟩) 4 4) (u.alloc (.cells #[.int .i64 0, .int .i64 0, .int .i64 0, .int .i64 0] 3)) := by
  have e : madeCells #[.int .i64 0] 4 = #[.int .i64 0, .int .i64 0, .int .i64 0, .int .i64 0] := by rw [made_zero]; rfl
  rw [← e]
  exact run_make_row' (P := Tryz.prog) 23 3 (.int .i64 0) 8 Tryz.underlying23 (by kernel_rfl) rfl .i64 .i64 4 (by omega) (by omega) u
end Go.Proofs.YtnhpmbhphbphaaaGreat.MchI
