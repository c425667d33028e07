/-
  The specification's MchNew.
-/
import Derived.Test.YtpbpabcokfblfaaMchN
import Derived.Test.YtpbpabcokfblfaaMchG
namespace Go.Proofs.Ytpbpabcokfblfaa.Mch
open Go.ChangeShapes Go.WideShapes Go.ChangeAt Go.RowKit IntS
theorem wpList_push_any {w : World} {ops : Array Oper} {rest : List Oper} {o : Oper} {a : Act} {Q : Exit → Act → World → Prop} (hgd : o.guard = none) (s x : Operand)
    (ho : o.op = .call { callee := .builtin .append, args := #[s, x], argTypes := #[23, 23] })
    (base : Nat) (v : Value) (xs : List Int) (hs : a.eval s = v) (hown : Own w base v xs) (hb : base ≤ w.heap.size)
    (ad : Addr) (y : Int) (hx : a.eval x = .slice (some ad) 1 1) (hc : w.cell? (ad.add 0) = some (.int .i64 y)) (n : Nat) (hn : xs.length = n) (hl : n ≤ 1000000000000)
    (h : ∀ (g' cap' : Nat) (w' : World), Own w' base (.slice (some ⟨g', 0, none⟩) (n + 1) cap') (xs ++ [y]) → base ≤ g' → w.grownBy w' v.ownBlock →
      wpList Try.prog ops Q rest (a.put o.dst (.slice (some ⟨g', 0, none⟩) (n + 1) cap')) w') : wpList Try.prog ops Q (o :: rest) a w := by
  subst hn
  obtain ⟨i0, hi, hz, hsz, hby⟩ := info_int
  have hnews : ∀ j u, ([.int .i64 y] : List Value)[j]? = some u → w.cell? (ad.add j) = some u := fun j u hu => by
    match j, hu with
    | 0, hu => cases hu; exact hc
    | j + 1, hu => simp at hu
  have hone : ∀ u ∈ ([.int .i64 y] : List Value), u.oneCell' = true := fun u hu => by simp at hu; subst hu; rfl
  have e2 : vals xs ++ [.int .i64 y] = vals (xs ++ [y]) := by simp [vals]
  have e3 : xs.length + 1 = (xs ++ [y]).length := by simp
  refine wpList_append_own w hgd s x 23 ho base 3 i0 (.int .i64 0) 1 8 Try.underlying23 hi hz hsz hby rfl (by decide) v xs.length (vals xs) hs hown ad 1 1 [.int .i64 y] hx rfl hnews hone (by unfold maxLen; omega) (by omega) hb (fun v' w' h1 h2 h3 => ?_)
  rw [e2] at h1
  have h1' : Own w' base v' (xs ++ [y]) := by
    unfold Own
    rw [← e3]
    exact h1
  obtain ⟨g', cap', rfl, k1, k2, k3⟩ := h1'.form (fun e => by have := (h3.1 e).2; omega)
  rw [← e3] at h1'
  rw [← e3]
  exact h g' cap' w' h1' k1 h2
theorem Own.any {w w' : World} {base : Nat} {v : Value} {xs : List Int} (h : Own w base v xs) (hk : ∀ k, base ≤ k → k < w.heap.size → w'.heap[k]? = w.heap[k]?) : Own w' base v xs := by
  obtain ⟨hl, h0 | ⟨g, cap, cur, hv, hb, hh, rest⟩⟩ := h
  · exact ⟨hl, Or.inl h0⟩
  · have hlt : g < w.heap.size := by
      rcases Nat.lt_or_ge g w.heap.size with h' | h'
      · exact h'
      · rw [Array.getElem?_eq_none h'] at hh; cases hh
    exact ⟨hl, Or.inr ⟨g, cap, cur, hv, hb, by rw [hk g hb hlt]; exact hh, rest⟩⟩
/-- Where a new machine's words have been laid up to a place. -/
structure NewAt (u : World) (X : Nat) (r i : Value) (L : List Int) (k : Nat) (u' : World) : Prop where
  ex : ∃ q cap, Rec X [r, .int .i64 0, .slice q k cap, .int .i64 0, .bool false, .bool false, .int .i64 0, i, .slice none 0 0, .int .i64 0] u' ∧ Own u' (X + 1) (.slice q k cap) (L.take k)
  turn : Turn X u u'
theorem ownBlock_ge {w : World} {base : Nat} {v : Value} {xs : List Int} (h : Own w base v xs) {b : Nat} (hb : v.ownBlock = some b) : base ≤ b := by
  obtain ⟨hl, h0 | ⟨g, cap, cur, rfl, hb', _⟩⟩ := h
  · rw [h0.1] at hb; cases hb
  · cases hb; exact hb'
theorem Rec.grown {X : Nat} {cs : List Value} {wr w2 : World} {o : Obj} {v : Value} {xs : List Int} (hR : Rec X cs wr) (hO : Own wr (X + 1) v xs) (hg : (wr.alloc o).grownBy w2 v.ownBlock) : Rec X cs w2 := by
  have ha := hR.alloc o
  have e := hg.block X ha.lt (fun e => by have := ownBlock_ge hO e.symm; omega)
  exact ⟨Nat.lt_of_lt_of_le ha.lt hg.size, fun j v hv => (World.cell?_of_block (w := wr.alloc o) (a := ⟨X, j, none⟩) e).trans (ha.cell j v hv), fun j => (World.frozen?_of_block (w := wr.alloc o) (a := ⟨X, j, none⟩) e).trans (ha.soft j)⟩
theorem Own.alloc {w : World} {base : Nat} {v : Value} {xs : List Int} (h : Own w base v xs) (o : Obj) : Own (w.alloc o) base v xs := Own.any h fun k _ hk => (MapKept.heap_alloc w o).2 k hk
theorem new_fin3 {w V : World} {gr gm gi ci cm : Nat} {ws is : List Int} (h1 : WRow V gr (.slice (some ⟨gr, 0, none⟩) 4 4) [0, 0, 0, 0]) (h2 : WRow V gm (.slice (some ⟨gm, 0, none⟩) 64 cm) (ws ++ List.replicate (64 - ws.length) 0)) (h3 : WRow V gi (.slice (some ⟨gi, 0, none⟩) is.length ci) is)
    (l1 : w.heap.size ≤ gr) (l2 : w.heap.size ≤ gm) (l3 : w.heap.size ≤ gi) (d1 : gr ≠ gm) (d2 : gr ≠ gi) (d3 : gm ≠ gi) : WMach V w.heap.size [.slice (some ⟨gr, 0, none⟩) 4 4, .int .i64 0, .slice (some ⟨gm, 0, none⟩) 64 cm, .int .i64 0, .bool false, .bool false, .int .i64 0, .slice (some ⟨gi, 0, none⟩) is.length ci, .slice none 0 0, .int .i64 0] (newM ws is) :=
  ⟨_, _, _, _, gr, gm, gi, w.heap.size + gr + gm + gi + 1, rfl, h1, h2, h3, row_nil _ _, l1, l2, l3, by omega, d1, d2, by omega, d3, by omega, by omega⟩
theorem NewAt.next {u wr w2 : World} {X k : Nat} {r i : Value} {L : List Int} {y : Int} {g' cap' : Nat} {q : Option Addr} {cap : Nat} (hX : u.heap.size = X + 1) (ht : Turn X u wr) (hy : L[k]? = some y) {o : Obj}
    (hR : Rec X [r, .int .i64 0, .slice q k cap, .int .i64 0, .bool false, .bool false, .int .i64 0, i, .slice none 0 0, .int .i64 0] wr) (hO : Own wr (X + 1) (.slice q k cap) (L.take k))
    (h1 : Own w2 (X + 1) (.slice (some ⟨g', 0, none⟩) (k + 1) cap') (L.take k ++ [y])) (hg : (wr.alloc o).grownBy w2 (Value.slice q k cap).ownBlock) :
    NewAt u X r i L (k + 1) (w2.setCell ⟨X, 2, none⟩ (.slice (some ⟨g', 0, none⟩) (k + 1) cap')) := by
  have e1 : L.take k ++ [y] = L.take (k + 1) := by
    rw [List.take_add_one, hy]; rfl
  have hne : ∀ b, (Value.slice q k cap).ownBlock = some b → X + 1 ≤ b := fun b hb => ownBlock_ge hO hb
  have ht1 : Turn X u (wr.alloc o) := ht.trans (Turn.of_below ((Below.refl _ _).alloc (Nat.le_refl _) o))
  have hs1 : wr.heap.size ≤ (wr.alloc o).heap.size := by simp
  have ht2 : Turn X u w2 := ⟨hg.os.trans ht1.os, hg.tape.trans ht1.tape, hg.output.trans ht1.output, Nat.le_trans ht1.size hg.size, fun j hj hB => (hg.block j (Nat.lt_of_lt_of_le hj ht1.size) (fun e => by have := hne j e.symm; omega)).trans (ht1.block j hj hB)⟩
  have hR2 : Rec X [r, .int .i64 0, .slice q k cap, .int .i64 0, .bool false, .bool false, .int .i64 0, i, .slice none 0 0, .int .i64 0] w2 := by
    have ha := hR.alloc o
    have e := hg.block X ha.lt (fun e => by have := hne X e.symm; omega)
    exact ⟨Nat.lt_of_lt_of_le ha.lt hg.size, fun j v hv => (World.cell?_of_block (w := wr.alloc o) (a := ⟨X, j, none⟩) e).trans (ha.cell j v hv), fun j => (World.frozen?_of_block (w := wr.alloc o) (a := ⟨X, j, none⟩) e).trans (ha.soft j)⟩
  refine ⟨⟨some ⟨g', 0, none⟩, cap', hR2.set 2 _ (by simp) rfl, ?_⟩, ht2.setCell rfl _⟩
  rw [e1] at h1
  exact Own.any h1 fun j hj hl => Below.heap_setCell w2 _ _ j (by show j ≠ X; omega)
theorem mem_len {ws : List Int} (h : ws.length ≤ 64) : (ws ++ List.replicate (64 - ws.length) (0 : Int)).length = 64 := by simp; omega
theorem mem_lt {ws : List Int} {k : Nat} (h : ws.length ≤ 64) (hk : k < 64) : k < (ws ++ List.replicate (64 - ws.length) (0 : Int)).length := by rw [mem_len h]; exact hk
theorem take_len {L : List Int} {k : Nat} (h : k < L.length) : (L.take k).length = k := by rw [List.length_take]; omega
theorem mem_at {ws : List Int} {k : Nat} {x : Int} (h : ws[k]? = some x) : (ws ++ List.replicate (64 - ws.length) 0)[k]? = some x := by
  rw [List.getElem?_append_left (List.getElem?_eq_some_iff.1 h).1]; exact h
theorem mem_zero {ws : List Int} {k : Nat} (h : ws.length ≤ k) (hk : k < 64) : (ws ++ List.replicate (64 - ws.length) (0 : Int))[k]? = some 0 := by
  rw [List.getElem?_append_right h, List.getElem?_replicate]
  simp; omega
set_option maxRecDepth 8000 in
set_option maxHeartbeats 4000000 in
theorem specNew (ws is : List Int) (B B' : Nat) (v v' : Value) (w : World) (h : Row w B v ws) (h' : Row w B' v' is) (hn : is.length ≤ 2000000) :
    Calls Try.prog 7 #[v, v'] w fun e w' => ∃ c, e = .returned (.agg c.toArray) ∧ WMach w' w.heap.size c (newOf ws is) ∧ Below w.heap.size w w' := by
  have T := hide (One.new w [.slice none 0 0, .int .i64 0, .slice none 0 0, .int .i64 0, .bool false, .bool false, .int .i64 0, .slice none 0 0, .slice none 0 0, .int .i64 0] 27)
  have H1 := hide (h.below T.out.bw)
  have H2 := hide (h'.below T.out.bw)
  obtain ⟨a1, k1, o1, rfl, p1, q1, z1, r1⟩ := h
  obtain ⟨a2, k2, o2, rfl, p2, q2, z2, r2⟩ := h'
  have HN := hide hn
  have P1 := hide p1
  have HC := hide r1
  clear z1 z2 r1 r2 q1 q2 p2 p1 hn
  have no : (decide (ws.length ≤ 64) && wordsB ws && wordsB is) = false → ∀ u : World, Below w.heap.size w u → ∃ c, Ending.returned (.agg #[.slice none 0 0, .int .i64 0, .slice none 0 0, .int .i64 0, .bool false, .bool false, .int .i64 0, .slice none 0 0, .slice none 0 0, .int .i64 0]) = .returned (.agg c.toArray) ∧ WMach u w.heap.size c (newOf ws is) ∧ Below w.heap.size w u := fun hno u hu => ⟨_, rfl, by rw [new_no hno]; exact empty_mach _ _, hu⟩
  replace no := hide no
  by_cases g1 : ws.length ≤ 64
  case neg =>
    have t1 : (64 : Int) < ws.length := by omega
    have hno : Hid ((decide (ws.length ≤ 64) && wordsB ws && wordsB is) = false) := show _ = _ by simp [g1]
    clear g1
    go_enter Try.func7, Try.ntmps7
    go_wp2
    refine bodyPost_ret (v := .agg #[.slice none 0 0, .int .i64 0, .slice none 0 0, .int .i64 0, .bool false, .bool false, .int .i64 0, .slice none 0 0, .slice none 0 0, .int .i64 0]) (by simp [results, Try.results7, go_sem]) rfl (no.out hno.out _ ?_)
    go_grown
  have t1 : ¬ (64 : Int) < ws.length := by omega
  have G1 := hide g1
  clear g1
  go_enter Try.func7, Try.ntmps7
  go_wp2_with fail
  refine (l1Words ws B _ _ H1.out).mono ?_
  rintro e u ⟨rfl, rfl⟩
  cases x1 : wordsB ws with
  | false =>
    have hno : Hid ((decide (ws.length ≤ 64) && wordsB ws && wordsB is) = false) := show _ = _ by simp [x1]
    clear x1
    go_wp2
    refine bodyPost_ret (v := .agg #[.slice none 0 0, .int .i64 0, .slice none 0 0, .int .i64 0, .bool false, .bool false, .int .i64 0, .slice none 0 0, .slice none 0 0, .int .i64 0]) (by simp [results, Try.results7, go_sem]) rfl (no.out hno.out _ ?_)
    go_grown
  | true =>
    have X1 := hide x1
    clear x1
    go_wp2_with fail
    refine (l1Words is B' _ _ H2.out).mono ?_
    rintro e u ⟨rfl, rfl⟩
    cases x2 : wordsB is with
    | false =>
      have hno : Hid ((decide (ws.length ≤ 64) && wordsB ws && wordsB is) = false) := show _ = _ by simp [x2]
      clear x2
      go_wp2
      refine bodyPost_ret (v := .agg #[.slice none 0 0, .int .i64 0, .slice none 0 0, .int .i64 0, .bool false, .bool false, .int .i64 0, .slice none 0 0, .slice none 0 0, .int .i64 0]) (by simp [results, Try.results7, go_sem]) rfl (no.out hno.out _ ?_)
      go_grown
    | true =>
      have X2 := hide x2
      clear x2 no
      have S0 : Hid ((w.alloc (.cells #[.slice none 0 0, .int .i64 0, .slice none 0 0, .int .i64 0, .bool false, .bool false, .int .i64 0, .slice none 0 0, .slice none 0 0, .int .i64 0] 27)).heap.size = w.heap.size + 1) := show _ = _ by simp
      generalize w.alloc (.cells #[.slice none 0 0, .int .i64 0, .slice none 0 0, .int .i64 0, .bool false, .bool false, .int .i64 0, .slice none 0 0, .slice none 0 0, .int .i64 0] 27) = u0 at T H1 H2 S0 ⊢
      go_wp2_with (at_builtin; refine wpList_copy rfl _ _ rfl _ (heap_new2 _ _ _ (by simp)) rfl _ B' is rfl (H2.out.below (by go_grown)) (by have := HN.out; omega) ?_; intro g3 c3 u3 O3 R3 ge3 gl3 ht3; have T3 := T.out; clear T)
      have l0 : u0.heap.size = w.heap.size + 1 := S0.out
      have R0 : WRow u3 u0.heap.size (.slice (some ⟨u0.heap.size, 0, none⟩) 4 4) [0, 0, 0, 0] := (((MchI.row_four u0).below ((Below.refl _ _).alloc (Nat.le_refl _) _)).turn ht3 (by omega))
      have T0 : One w w.heap.size [.slice none 0 0, .int .i64 0, .slice none 0 0, .int .i64 0, .bool false, .bool false, .int .i64 0, .slice none 0 0, .slice none 0 0, .int .i64 0] u3 := by
        have hb : Below u0.heap.size u0 _ := ((Below.refl u0.heap.size u0).alloc (Nat.le_refl _) (.cells #[.int .i64 0, .int .i64 0, .int .i64 0, .int .i64 0] 3)).alloc (by simp) (.cells #[] 3)
        exact T3.below (hb.trans (ht3.below (by omega) (by simp; omega)))
      have l3 := gl3
      have l4 : u0.heap.size + 1 ≤ g3 := ge3
      have N0 : Hid (NewAt (u3.alloc (.cells #[.slice (some ⟨u0.heap.size, 0, none⟩) 4 4, .int .i64 0, .slice none 0 0, .int .i64 0, .bool false, .bool false, .int .i64 0, .slice (some ⟨g3, 0, none⟩) is.length c3, .slice none 0 0, .int .i64 0] 27)) u3.heap.size (.slice (some ⟨u0.heap.size, 0, none⟩) 4 4) (.slice (some ⟨g3, 0, none⟩) is.length c3) (ws ++ List.replicate (64 - ws.length) 0) 0 (u3.alloc (.cells #[.slice (some ⟨u0.heap.size, 0, none⟩) 4 4, .int .i64 0, .slice none 0 0, .int .i64 0, .bool false, .bool false, .int .i64 0, .slice (some ⟨g3, 0, none⟩) is.length c3, .slice none 0 0, .int .i64 0] 27))) :=
        ⟨⟨none, 0, Rec.new u3 _ _, ⟨rfl, Or.inl ⟨rfl, rfl⟩⟩⟩, Turn.refl _ _⟩
      have E0 : Hid ((u3.alloc (.cells #[.slice (some ⟨u0.heap.size, 0, none⟩) 4 4, .int .i64 0, .slice none 0 0, .int .i64 0, .bool false, .bool false, .int .i64 0, .slice (some ⟨g3, 0, none⟩) is.length c3, .slice none 0 0, .int .i64 0] 27)).heap.size = u3.heap.size + 1) := show _ = _ by simp
      have RA := hide (R0.below ((Below.refl _ _).alloc (Nat.le_refl _) (.cells #[.slice (some ⟨u0.heap.size, 0, none⟩) 4 4, .int .i64 0, .slice none 0 0, .int .i64 0, .bool false, .bool false, .int .i64 0, .slice (some ⟨g3, 0, none⟩) is.length c3, .slice none 0 0, .int .i64 0] 27)))
      have RB := hide (R3.below ((Below.refl _ _).alloc (Nat.le_refl _) (.cells #[.slice (some ⟨u0.heap.size, 0, none⟩) 4 4, .int .i64 0, .slice none 0 0, .int .i64 0, .bool false, .bool false, .int .i64 0, .slice (some ⟨g3, 0, none⟩) is.length c3, .slice none 0 0, .int .i64 0] 27)))
      have TA := hide (T0.below ((Below.refl _ _).alloc (Nat.le_refl _) (.cells #[.slice (some ⟨u0.heap.size, 0, none⟩) 4 4, .int .i64 0, .slice none 0 0, .int .i64 0, .bool false, .bool false, .int .i64 0, .slice (some ⟨g3, 0, none⟩) is.length c3, .slice none 0 0, .int .i64 0] 27)))
      have L0 := hide l0
      have L3 := hide l3
      have L4 := hide l4
      clear R0 T0 T3 R3 O3 ht3 ge3 gl3 H1 H2 t1 l0 l3 l4
      generalize (u3.alloc (.cells #[.slice (some ⟨u0.heap.size, 0, none⟩) 4 4, .int .i64 0, .slice none 0 0, .int .i64 0, .bool false, .bool false, .int .i64 0, .slice (some ⟨g3, 0, none⟩) is.length c3, .slice none 0 0, .int .i64 0] 27)) = u at N0 E0 RA RB TA ⊢
      go_loopw [6] (fun i wr => ∃ k : Nat, k ≤ 64 ∧ i = .int .i64 k ∧ Hid (NewAt u u3.heap.size (.slice (some ⟨u0.heap.size, 0, none⟩) 4 4) (.slice (some ⟨g3, 0, none⟩) is.length c3) (ws ++ List.replicate (64 - ws.length) 0) k wr)) (fun i _ => 64 - (intOf i).toNat)
      case atStart => exact ⟨0, by omega, rfl, N0⟩
      case round =>
        obtain ⟨k, hk, rfl, HE⟩ := hrel
        clear N0
        obtain ⟨⟨q, cap, hR, hO⟩, hT⟩ := HE.out
        clear HE
        by_cases hlt : k < 64
        · by_cases hw : k < ws.length
          · obtain ⟨x, ex⟩ : ∃ x, ws[k]? = some x := ⟨_, List.getElem?_eq_getElem hw⟩
            obtain ⟨rfl, hc⟩ := HC.out.resolve_left (fun e => by rw [e] at hw; simp at hw)
            have cx := cell_below (TA.out.bw.trans (hT.below (n := w.heap.size) (by have := L0.out; have := L3.out; have := L4.out; omega) TA.out.bw.size)) (hc k x ex)
            clear hc
            have c2 := hR.cell 2 _ rfl
            have HO := hide hO
            have HR := hide hR
            have HT := hide hT
            have HY := hide (mem_at ex)
            clear hO hR hT HC
            have A2 : Hid (u3.heap.size + 1 ≤ (wr.alloc (.cells #[.int .i64 x] 3)).heap.size) := show _ ≤ _ by
              have e1 := HT.out.size
              have e2 := E0.out
              simp
              omega
            have A3 : Hid ((wr.alloc (.cells #[.int .i64 x] 3)).cell? ((⟨wr.heap.size, 0, none⟩ : Addr).add 0) = some (.int .i64 x)) := show _ = _ by
              rw [Go.WideShapes.add_plain, World.cell?_alloc_new]
              rfl
            have A4 := hide (take_len (mem_lt G1.out hlt))
            have A5 : Hid (k ≤ 1000000000000) := show _ ≤ _ by omega
            go_wp2_with (at_builtin; refine wpList_push_any rfl _ _ rfl (u3.heap.size + 1) (.slice q k cap) ((ws ++ List.replicate (64 - ws.length) 0).take k) rfl (Own.alloc HO.out _) A2.out ⟨wr.heap.size, 0, none⟩ x rfl A3.out k A4.out A5.out ?_; intro g' cap' w2 h1 _ h2; have RG := Rec.grown HR.out HO.out h2; have d2 := RG.cell 2 _ rfl; have f2 := RG.soft 2; have HNX := hide (NewAt.next E0.out HT.out HY.out HR.out HO.out h1 h2); clear RG h1 h2 HO HR HT)
            exact ⟨⟨k + 1, by omega, by go_num, HNX⟩, by simp [intOf]; omega⟩
          · have hw2 : ¬ (k : Int) < ws.length := by omega
            have c2 := hR.cell 2 _ rfl
            have HO := hide hO
            have HR := hide hR
            have HT := hide hT
            have HY := hide (mem_zero (Nat.le_of_not_lt hw) hlt)
            clear hO hR hT HC
            have A2 : Hid (u3.heap.size + 1 ≤ (wr.alloc (.cells #[.int .i64 0] 3)).heap.size) := show _ ≤ _ by
              have e1 := HT.out.size
              have e2 := E0.out
              simp
              omega
            have A3 : Hid ((wr.alloc (.cells #[.int .i64 0] 3)).cell? ((⟨wr.heap.size, 0, none⟩ : Addr).add 0) = some (.int .i64 0)) := show _ = _ by
              rw [Go.WideShapes.add_plain, World.cell?_alloc_new]
              rfl
            have A4 := hide (take_len (mem_lt G1.out hlt))
            have A5 : Hid (k ≤ 1000000000000) := show _ ≤ _ by omega
            go_wp2_with (at_builtin; refine wpList_push_any rfl _ _ rfl (u3.heap.size + 1) (.slice q k cap) ((ws ++ List.replicate (64 - ws.length) 0).take k) rfl (Own.alloc HO.out _) A2.out ⟨wr.heap.size, 0, none⟩ 0 rfl A3.out k A4.out A5.out ?_; intro g' cap' w2 h1 _ h2; have RG := Rec.grown HR.out HO.out h2; have d2 := RG.cell 2 _ rfl; have f2 := RG.soft 2; have HNX := hide (NewAt.next E0.out HT.out HY.out HR.out HO.out h1 h2); clear RG h1 h2 HO HR HT)
            exact ⟨⟨k + 1, by omega, by go_num, HNX⟩, by simp [intOf]; omega⟩
        · have ek : k = 64 := by omega
          subst ek
          have eL : (ws ++ List.replicate (64 - ws.length) (0 : Int)).take 64 = ws ++ List.replicate (64 - ws.length) 0 := List.take_of_length_le (by rw [mem_len G1.out]; omega)
          rw [eL] at hO
          obtain ⟨gm, capm, hv, hbm, hlm, hm⟩ := hO.form (fun e => by cases e)
          rw [mem_len G1.out] at hv
          cases hv
          have l0 := L0.out
          have l3 := L3.out
          have l4 := L4.out
          have ZZ := TA.out.a.turn hT (by omega)
          have RA2 := RA.out.turn hT (by omega)
          have RB2 := RB.out.turn hT (by omega)
          have BB := hide (TA.out.bw.trans (hT.below (n := w.heap.size) (by omega) TA.out.bw.size))
          have HM := hide (new_yes G1.out X1.out X2.out)
          have F := hide (fun v0 v1 v2 v3 v4 v5 v6 v7 v8 v9 => new_fin3 (w := w) (MchI.row_ten RA2 (Z := w.heap.size) (by omega) v0 v1 v2 v3 v4 v5 v6 v7 v8 v9) (MchI.row_ten hm (by omega) v0 v1 v2 v3 v4 v5 v6 v7 v8 v9) (MchI.row_ten RB2 (by omega) v0 v1 v2 v3 v4 v5 v6 v7 v8 v9) (by omega) (by omega) (by omega) (by omega) (by omega) (by omega))
          have x0 := hR.cell 0 _ rfl
          have z0 := ZZ.cell 0 _ rfl
          have y0 := ZZ.soft 0
          have x1 := hR.cell 1 _ rfl
          have z1 := ZZ.cell 1 _ rfl
          have y1 := ZZ.soft 1
          have x2 := hR.cell 2 _ rfl
          have z2 := ZZ.cell 2 _ rfl
          have y2 := ZZ.soft 2
          have x3 := hR.cell 3 _ rfl
          have z3 := ZZ.cell 3 _ rfl
          have y3 := ZZ.soft 3
          have x4 := hR.cell 4 _ rfl
          have z4 := ZZ.cell 4 _ rfl
          have y4 := ZZ.soft 4
          have x5 := hR.cell 5 _ rfl
          have z5 := ZZ.cell 5 _ rfl
          have y5 := ZZ.soft 5
          have x6 := hR.cell 6 _ rfl
          have z6 := ZZ.cell 6 _ rfl
          have y6 := ZZ.soft 6
          have x7 := hR.cell 7 _ rfl
          have z7 := ZZ.cell 7 _ rfl
          have y7 := ZZ.soft 7
          have x8 := hR.cell 8 _ rfl
          have z8 := ZZ.cell 8 _ rfl
          have y8 := ZZ.soft 8
          have x9 := hR.cell 9 _ rfl
          have z9 := ZZ.cell 9 _ rfl
          have y9 := ZZ.soft 9
          clear ZZ RA2 RB2 RA RB TA hO hm eL hR hT HC l0 l3 l4 L0 L3 L4 hbm hlm
          go_wp2
          exact bodyPost_ret (v := .agg #[.slice (some ⟨u0.heap.size, 0, none⟩) 4 4, .int .i64 0, .slice (some ⟨gm, 0, none⟩) 64 cap, .int .i64 0, .bool false, .bool false, .int .i64 0, .slice (some ⟨g3, 0, none⟩) is.length c3, .slice none 0 0, .int .i64 0]) (by simp [results, Try.results7, go_sem, z0, z1, z2, z3, z4, z5, z6, z7, z8, z9]) rfl ⟨[.slice (some ⟨u0.heap.size, 0, none⟩) 4 4, .int .i64 0, .slice (some ⟨gm, 0, none⟩) 64 cap, .int .i64 0, .bool false, .bool false, .int .i64 0, .slice (some ⟨g3, 0, none⟩) is.length c3, .slice none 0 0, .int .i64 0], rfl, by rw [HM.out]; exact F.out _ _ _ _ _ _ _ _ _ _, below_ten BB.out (Nat.le_refl _) _ _ _ _ _ _ _ _ _ _⟩
end Go.Proofs.Ytpbpabcokfblfaa.Mch
