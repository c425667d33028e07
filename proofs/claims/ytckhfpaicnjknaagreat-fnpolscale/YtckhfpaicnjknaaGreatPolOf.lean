/-
  The atoms of a text: the program's atomsOf.
-/
import Derived.Test.YtckhfpaicnjknaaGreatPolPut
import Derived.Lib.ConvBytes
namespace Go.Proofs.YtckhfpaicnjknaaGreat.Pol
set_option linter.unusedVariables false
open Go.ChangeShapes Go.WideShapes Go.ChangeAt Go.RowKit Go.Shelf IntS Rng
theorem wpList_pushI {w : World} {ops : Array Oper} {rest : List Oper} {o : Oper} {a : Act} {Q : Exit → Act → World → Prop} (hgd : o.guard = none) (s x : Operand)
    (ho : o.op = .call { callee := .builtin .append, args := #[s, x], argTypes := #[28, 28] })
    (lo : Nat) (v : Value) (l : List Int) (hs : a.eval s = v) (hown : IntS.Own w lo v l) (hlo : lo ≤ w.heap.size)
    (ad : Addr) (y : Int) (hx : a.eval x = .slice (some ad) 1 1) (hc : w.cell? (ad.add 0) = some (.int .i64 y)) (hl : l.length ≤ 1000000)
    (h : ∀ (G cap : Nat) (w' : World), Hid (IntS.Own w' lo (.slice (some ⟨G, 0, none⟩) (l.length + 1) cap) (l ++ [y])) → Hid (Below lo w w') → Hid (∀ (k : Nat) cs t z, w.heap[k]? = some (Obj.cells cs t z) → t ≠ 3 → w'.heap[k]? = some (Obj.cells cs t z)) → wpList Tryz.prog ops Q rest (a.put o.dst (.slice (some ⟨G, 0, none⟩) (l.length + 1) cap)) w') : wpList Tryz.prog ops Q (o :: rest) a w := by
  obtain ⟨i, hi, hz, hsz, hby⟩ := info_int
  have hlt := World.ownsRow.lt hown
  refine wpList_append_own w hgd s x 28 ho lo 3 i _ 1 8 Tryz.underlying28 hi hz hsz hby rfl (by decide) v l.length (vals l) hs hown ad 1 1 [.int .i64 y] hx rfl (fun j u hu => ?_) (fun u hu => by simp at hu; subst hu; rfl) (by unfold maxLen; omega) (by omega) hlo fun v' w' h1 h2 h3 => ?_
  · match j, hu with
    | 0, hu => cases hu; exact hc
    | j + 1, hu => simp at hu
  · have e : vals l ++ [.int .i64 y] = vals (l ++ [y]) := by simp [vals]
    rw [e] at h1
    have g1 : IntS.Own w' lo v' (l ++ [y]) := by
      unfold IntS.Own
      rw [List.length_append]
      exact h1
    obtain ⟨G, cap, rfl, _⟩ := g1.form (fun e2 => by have := (h3.1 e2).2; omega)
    rw [List.length_append] at g1
    have hb : Below lo w w' := (Below.refl lo w).grown h2 hlo (fun k e => (hlt k e).1)
    have hkeep : ∀ (k : Nat) cs t z, w.heap[k]? = some (Obj.cells cs t z) → t ≠ 3 → w'.heap[k]? = some (Obj.cells cs t z) := fun k cs t z hk ht => by
      rw [h2.block k (lt_of_some hk) ?_]
      · exact hk
      · intro e
        obtain ⟨_, h0 | ⟨g, cap, cur, hv, _, hh, _⟩⟩ := hown
        · rw [h0.1] at e; simp [Value.ownBlock] at e
        · rw [hv] at e
          obtain rfl : k = g := by simpa [Value.ownBlock] using e
          rw [hk] at hh
          cases hh
          exact ht rfl
    have := h G cap w' g1 hb hkeep
    simpa [List.length_append] using this
theorem own_nil (w : World) (lo : Nat) : IntS.Own w lo (.slice none 0 0) [] := ⟨rfl, Or.inl ⟨rfl, rfl⟩⟩
theorem ownI_below {w w' : World} {lo : Nat} {v : Value} {l : List Int} (h : IntS.Own w lo v l) (hb : Below w.heap.size w w') : IntS.Own w' lo v l := Srt.owns_mild (B := 0) h (Mild.of_below hb)
set_option maxRecDepth 8000 in
set_option maxHeartbeats 16000000 in
theorem atomsOf (ys : List Int) (w : World) (hf : Fine ys) :
    Calls Tryz.prog 72 #[.string ⟨(txt ys).toArray⟩] w fun e w' => ∃ q m k, e = .returned (.slice q m k) ∧ IntS.Own w' w.heap.size (.slice q m k) ys ∧ Below w.heap.size w w' := by
  obtain ⟨Y, eY⟩ : ∃ Y, ys.map byteOf = Y := ⟨_, rfl⟩
  have et : txt ys = UInt8.ofNat ys.length :: Y := by unfold txt; rw [eY]
  rw [et]
  have hl := hf.len
  obtain ⟨n, en⟩ : ∃ n, ys.length = n := ⟨_, rfl⟩
  have YL : Hid (Y.length = n) := show _ = _ by rw [← eY]; simp [en]
  have EN := hide en
  have EY := hide eY
  have HF := hide hf
  rw [en] at hl ⊢
  obtain ⟨z, ez⟩ : ∃ z, UInt8.ofNat n = z := ⟨_, rfl⟩
  rw [ez]
  clear ez et en eY hf
  have yl := YL.out
  have eS : (ByteArray.mk (z :: Y).toArray).extract 1 (n + 1) = ByteArray.mk Y.toArray := by
    apply ByteArray.ext
    rw [ByteArray.data_extract]
    apply Array.toList_inj.1
    simp
    exact List.take_of_length_le (by omega)
  obtain ⟨W, C, fz, cp, RC, WB, WH, WC⟩ : ∃ (W : World) (C : Array Value) (fz : Nat × Nat) (cp : Nat), (convert 9 22 (.string ((ByteArray.mk (z :: Y).toArray).extract 1 (n + 1)))).run Tryz.prog w = .ok (.slice (some ⟨w.heap.size, 0, none⟩) n cp) W ∧ Below w.heap.size w W ∧ W.heap[w.heap.size]? = some (.cells C 5 fz) ∧ ∀ (j : Nat) (hj : j < Y.length), C[j]? = some (.int .u8 (Y[j].toNat : Int)) := by
    refine ⟨Lib.bytesWorld w 5 ⟨Y.toArray⟩, Lib.bytesCells w 5 ⟨Y.toArray⟩, _, grownCap w n 0 5, ?_, ⟨rfl, rfl, rfl, by rw [Lib.bytesWorld_size]; omega, fun k hk => Lib.bytesWorld_at_old w _ _ k hk⟩, Lib.bytesWorld_at_new w _ _, fun j hj => ?_⟩
    · rw [eS, Lib.run_convert_string_bytes w 9 22 5 ⟨Y.toArray⟩ Tryz.underlying9 Tryz.underlying22 Tryz.underlying5]
      simp [ByteArray.size, yl]
    · unfold Lib.bytesCells
      rw [Array.getElem?_append_left (by simpa using hj)]
      simp [hj]
  have WB' := hide WB
  have WH' := hide WH
  have WC' := hide WC
  clear eS WB WH WC
  go_enter Tryz.func72, Tryz.ntmps72
  go_wp2
  clear RC yl
  go_loopw [3, 10] (fun t i wr => ∃ (k cq : Nat) (q : Option Addr), k ≤ n ∧ i = .int .i64 k ∧ t = .slice q k cq ∧ Hid (IntS.Own wr w.heap.size (.slice q k cq) (ys.take k)) ∧ Hid (wr.heap[w.heap.size]? = some (.cells C 5 fz)) ∧ Hid (Below w.heap.size w wr)) (fun _ i _ => n - (intOf i).toNat)
  case atStart => exact ⟨0, 0, none, by omega, rfl, rfl, own_nil _ _, WH', WB'⟩
  case round =>
    obtain ⟨k, cq, q, hk, rfl, rfl, HO, HC, HB⟩ := hrel
    clear WB' WH'
    by_cases hlt : k < n
    case neg =>
      obtain rfl : k = n := by omega
      have et : ys.take k = ys := by rw [← EN.out, List.take_length]
      have HO2 := HO.out
      rw [et] at HO2
      have HO3 := hide HO2
      clear HO HO2 et HC
      go_wp2
      go_ret
      exact ⟨_, _, _, rfl, HO3.out, HB.out⟩
    obtain ⟨y, ey⟩ : ∃ y, ys[k]? = some y := ⟨_, List.getElem?_eq_getElem (by rw [EN.out]; exact hlt)⟩
    have yb := HF.out.at_ y (List.mem_of_getElem? ey)
    have cy : wr.cell? ⟨w.heap.size, k, none⟩ = some (.int .u8 y) := by
      have hj : k < Y.length := by rw [YL.out]; exact hlt
      have h1 := WC'.out k hj
      have h2 : Y[k]? = some (byteOf y) := by rw [← EY.out]; simp [ey]
      rw [List.getElem?_eq_getElem hj] at h2
      rw [Option.some.inj h2, ← byte_nat yb] at h1
      unfold World.cell?
      simp only [HC.out]
      simpa using h1
    have et : Hid (ys.take k ++ [y] = ys.take (k + 1)) := show _ = _ by rw [List.take_add_one, ey]; rfl
    have ll : Hid ((ys.take k).length = k) := show _ = _ by rw [List.length_take, EN.out]; omega
    have lk : ((k : Nat) : Int) < (n : Nat) := by omega
    have BX : Below wr.heap.size wr (wr.alloc (.cells #[.int .i64 y] 3)) := (Below.refl _ _).alloc (Nat.le_refl _) _
    have OX := hide (ownI_below HO.out BX)
    have HX : Hid ((wr.alloc (.cells #[.int .i64 y] 3)).heap[w.heap.size]? = some (.cells C 5 fz)) := (BX.block _ (lt_of_some HC.out)).trans HC.out
    have BY := hide (HB.out.trans (BX.mono HB.out.size))
    have CX : Hid ((wr.alloc (.cells #[.int .i64 y] 3)).cell? ((⟨wr.heap.size, 0, none⟩ : Addr).add 0) = some (.int .i64 y)) := show _ = _ by
      rw [Go.WideShapes.add_plain, World.cell?_alloc_new]
      rfl
    have LX : Hid ((ys.take k).length ≤ 1000000) := show _ ≤ _ by rw [ll.out]; omega
    clear BX HO HC HB ey
    go_wp2_with (at_builtin; refine wpList_pushI rfl _ _ rfl w.heap.size (.slice q k cq) (ys.take k) rfl OX.out BY.out.size ⟨wr.heap.size, 0, none⟩ y rfl CX.out LX.out ?_; intro G2 cp2 u2 hO hb hkeep; rw [ll.out] at hO ⊢)
    have O3 := hO.out
    rw [et.out] at O3
    have O4 := hide O3
    have C3 := hide (hkeep.out _ _ _ _ HX.out (by decide))
    have B3 := hide (BY.out.trans hb.out)
    clear O3 hO hb hkeep OX HX BY CX LX cy
    exact ⟨⟨k + 1, cp2, some ⟨G2, 0, none⟩, by omega, by go_num, rfl, O4, C3, B3⟩, by simp [intOf]; omega⟩
end Go.Proofs.YtckhfpaicnjknaaGreat.Pol
