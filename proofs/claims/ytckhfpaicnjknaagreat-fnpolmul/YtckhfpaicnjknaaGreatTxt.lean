/-
  The text of atoms: the program's atomsText.
-/
import Derived.Test.YtckhfpaicnjknaaGreatJoC
import Derived.Test.YtckhfpaicnjknaaGreatPolMz
import Derived.Laws.IdiomStrings
namespace Go.Proofs.YtckhfpaicnjknaaGreat.Pol
set_option linter.unusedVariables false
open Go.ChangeShapes Go.WideShapes Go.ChangeAt Go.RowKit Go.Shelf IntS Rng
theorem infoByte : (Tryz.prog.info? 5).map (fun i => (i.zero, i.size, i.bytes)) = some (some (.int .u8 0), 1, 1) := by kernel_rfl
theorem info_byte : ∃ i, Tryz.prog.info? 5 = some i ∧ i.zero = some (.int .u8 0) ∧ i.size = 1 ∧ i.bytes = 1 := by
  obtain ⟨i, hi, h⟩ := Option.map_eq_some_iff.1 infoByte
  simp only [Prod.mk.injEq] at h
  exact ⟨i, hi, h.1, h.2.1, h.2.2⟩
def bvals (l : List UInt8) : List Value := l.map fun b => .int .u8 (b.toNat : Int)
theorem bvals_len (l : List UInt8) : (bvals l).length = l.length := by simp [bvals]
/-- A slice of bytes that the call made. -/
def OwnB (w : World) (base : Nat) (v : Value) (l : List UInt8) : Prop := w.ownsRow base 5 1 v l.length (bvals l)
theorem OwnB.below {w w' : World} {base : Nat} {v : Value} {l : List UInt8} (h : OwnB w base v l) (hb : Below w.heap.size w w') : OwnB w' base v l := Srt.owns_mild (B := 0) h (Mild.of_below hb)
theorem OwnB.new (w : World) (b : UInt8) : OwnB (w.alloc (.cells #[.int .u8 (b.toNat : Int)] 5)) w.heap.size (.slice (some ⟨w.heap.size, 0, none⟩) 1 1) [b] :=
  ⟨rfl, Or.inr ⟨w.heap.size, 1, #[.int .u8 (b.toNat : Int)], rfl, Nat.le_refl _, World.alloc_heap_new w _, Nat.le_refl _, by unfold maxLen; omega, rfl, rfl⟩⟩
theorem OwnB.form {w : World} {base : Nat} {v : Value} {l : List UInt8} (h : OwnB w base v l) (hl : l ≠ []) : ∃ G cap, v = .slice (some ⟨G, 0, none⟩) l.length cap ∧ base ≤ G ∧ l.length ≤ cap ∧ cap ≤ maxLen ∧ ∀ (j : Nat) (hj : j < l.length), w.cell? ⟨G, j, none⟩ = some (.int .u8 (l[j].toNat : Int)) := by
  obtain ⟨hl2, h0 | ⟨g, cap, cur, hv, hb, hh, hle, hm, hc, ht⟩⟩ := h
  · exact absurd (List.length_eq_zero_iff.1 h0.2) hl
  · refine ⟨g, cap, hv, hb, hle, hm, fun j hj => ?_⟩
    have hu : (bvals l)[j]? = some (.int .u8 (l[j].toNat : Int)) := by simp [bvals, List.getElem?_eq_getElem hj]
    rw [← ht, List.getElem?_take, if_pos (by omega)] at hu
    unfold World.cell?
    simp only [hh]
    simpa using hu
theorem wpList_pushB {w : World} {ops : Array Oper} {rest : List Oper} {o : Oper} {a : Act} {Q : Exit → Act → World → Prop} (hgd : o.guard = none) (s x : Operand)
    (ho : o.op = .call { callee := .builtin .append, args := #[s, x], argTypes := #[22, 22] })
    (lo : Nat) (v : Value) (l : List UInt8) (hs : a.eval s = v) (hown : OwnB w lo v l) (hlo : lo ≤ w.heap.size)
    (ad : Addr) (b : UInt8) (hx : a.eval x = .slice (some ad) 1 1) (hc : w.cell? (ad.add 0) = some (.int .u8 (b.toNat : Int))) (hl : l.length ≤ 1000000)
    (h : ∀ (G cap : Nat) (w' : World), Hid (OwnB w' lo (.slice (some ⟨G, 0, none⟩) (l.length + 1) cap) (l ++ [b])) → Hid (Below lo w w') → Hid (∀ (k : Nat) cs t z, w.heap[k]? = some (Obj.cells cs t z) → t ≠ 5 → w'.heap[k]? = some (Obj.cells cs t z)) → wpList Tryz.prog ops Q rest (a.put o.dst (.slice (some ⟨G, 0, none⟩) (l.length + 1) cap)) w') : wpList Tryz.prog ops Q (o :: rest) a w := by
  obtain ⟨i, hi, hz, hsz, hby⟩ := info_byte
  have hlt := hown.lt
  refine wpList_append_own w hgd s x 22 ho lo 5 i _ 1 1 Tryz.underlying22 hi hz hsz hby rfl (by decide) v l.length (bvals l) hs hown ad 1 1 [.int .u8 (b.toNat : Int)] hx rfl (fun j u hu => ?_) (fun u hu => by simp at hu; subst hu; rfl) (by unfold maxLen; omega) (by omega) hlo fun v' w' h1 h2 h3 => ?_
  · match j, hu with
    | 0, hu => cases hu; exact hc
    | j + 1, hu => simp at hu
  · have e : bvals l ++ [.int .u8 (b.toNat : Int)] = bvals (l ++ [b]) := by simp [bvals]
    rw [e] at h1
    have g1 : OwnB w' lo v' (l ++ [b]) := by
      unfold OwnB
      rw [List.length_append]
      exact h1
    obtain ⟨G, cap, rfl, _⟩ := g1.form (by simp)
    rw [List.length_append] at g1
    have hb : Below lo w w' := (Below.refl lo w).grown h2 hlo (fun k e => (hlt k e).1)
    have hkeep : ∀ (k : Nat) cs t z, w.heap[k]? = some (Obj.cells cs t z) → t ≠ 5 → w'.heap[k]? = some (Obj.cells cs t z) := fun k cs t z hk ht => by
      rw [h2.block k (lt_of_some hk) ?_]
      · exact hk
      · intro e
        obtain ⟨_, h0 | ⟨g, cap, cur, hv, _, hh, _⟩⟩ := hown
        · rw [h0.1] at e; simp [Value.ownBlock] at e
        · rw [hv] at e
          obtain rfl : k = g := by simpa [Value.ownBlock] using e
          rw [hk] at hh
          cases hh
          exact ht rfl
    have := h G cap w' g1 hb hkeep
    simpa using this
theorem byte_nat {x : Int} (h : 0 ≤ x ∧ x < 256) : x = ((byteOf x).toNat : Int) := by
  unfold byteOf
  simp only [UInt8.toNat_ofNat']
  omega
set_option maxRecDepth 8000 in
set_option maxHeartbeats 16000000 in
theorem atomsText (xs : List Int) (B : Nat) (v : Value) (w : World) (h : Row w B v xs) (hx : ∀ x ∈ xs, 0 ≤ x ∧ x < 256) (hl : xs.length < 256) :
    Calls Tryz.prog 52 #[v] w fun e w' => e = .returned (.string ⟨(txt (Srt.sortI xs)).toArray⟩) ∧ Below w.heap.size w w' := by
  have HR := hide h
  have HX := hide hx
  obtain ⟨a, cap, off, rfl, h2, h3, hz, h4⟩ := h
  obtain ⟨n, en⟩ : ∃ n, xs.length = n := ⟨_, rfl⟩
  have EN := hide en
  have H4 := hide h4
  have HZ := hide hz
  rw [en] at h2 hl HR ⊢
  unfold maxLen at h3
  clear hx h4 hz en
  obtain ⟨ys, ey⟩ : ∃ ys, Srt.sortI xs = ys := ⟨_, rfl⟩
  have YL : Hid (ys.length = n) := show _ = _ by rw [← ey, Srt.sort_len]; exact EN.out
  have YM : Hid (∀ y ∈ ys, 0 ≤ y ∧ y < 256) := fun y hy => HX.out y (by rw [← ey] at hy; exact Srt.sort_mem.1 hy)
  rw [ey]
  have EY := hide ey
  clear ey
  go_enter Tryz.func52, Tryz.ntmps52
  go_wp2_with fail
  refine (Srt.valuesOf _ _ _ _).mono ?_
  rintro e u ⟨rfl, rfl⟩
  have OB := hide (OwnB.new w (UInt8.ofNat n))
  have eb : ((UInt8.ofNat n).toNat : Int) = (n : Int) := by simp only [UInt8.toNat_ofNat']; omega
  rw [eb] at OB
  clear eb
  have bw := (Below.refl _ w).alloc (Nat.le_refl _) (.cells #[.int .u8 (n : Int)] 5)
  generalize w.alloc (.cells #[.int .u8 (n : Int)] 5) = U at OB bw ⊢
  have bu := (Below.refl _ U).alloc (Nat.le_refl _) (.cells #[.slice a n cap] 28)
  have SO := hide (Srt.sortedOf xs (by rw [EN.out]; omega) B U.heap.size (.slice a n cap) (U.alloc (.cells #[.slice a n cap] 28)) (by simp) ((HR.out.below bw).below bu))
  have OB2 := hide (OB.out.below bu)
  have BW2 := hide (bw.trans (bu.mono bw.size))
  generalize U.alloc (.cells #[.slice a n cap] 28) = V at SO OB2 BW2 ⊢
  clear OB bw bu
  go_wp2_with fail
  refine SO.out.mono ?_
  rintro e V2 ⟨v, rfl, h5, h6, h7⟩
  rw [EY.out] at h5
  have OB3 := hide (OB2.out.below h7)
  have BW3 := hide (BW2.out.trans (h7.mono BW2.out.size))
  have H5 := hide h5
  have lV := BW2.out.size
  clear SO OB2 BW2 h5 h7 HR H4 HZ HX
  have ER : Hid (txt ys = UInt8.ofNat n :: ys.map byteOf) := show _ = _ by unfold txt; rw [YL.out]
  by_cases h0 : n = 0
  · have xn : xs = [] := List.length_eq_zero_iff.1 (by rw [EN.out]; exact h0)
    obtain rfl := h6.2 xn
    subst h0
    obtain rfl : ys = [] := List.length_eq_zero_iff.1 YL.out
    obtain ⟨G, cp, e1, g2, g3, g4, g5⟩ := OB3.out.form (by simp)
    injection e1 with f1 f2 f3
    injection f1 with f4
    injection f4 with f5 _ _
    have RC := run_convert_bytes_back (P := Tryz.prog) V2 22 9 5 ⟨w.heap.size, 0, none⟩ 1 [UInt8.ofNat 0] Tryz.underlying22 Tryz.underlying5 Tryz.underlying9 (fun j hj => by
      rw [Go.WideShapes.add_plain, f5, Nat.zero_add]
      exact g5 j hj)
    have RC2 := RC
    simp only [List.length_cons, List.length_nil, Nat.zero_add] at RC2
    clear g5 RC OB3 f5 f3 f2 g2 g3 g4 h6
    go_wp2
    refine wp_loop_rounds 1 ?_
    rw [rounds_succ]
    go_wp2
    go_ret
    exact ⟨by rw [ER.out]; rfl, BW3.out⟩
  · have xn : ¬ xs = [] := fun e => h0 (by rw [← EN.out, e]; rfl)
    obtain ⟨G0, c0, rfl, k1, k2, k3⟩ := H5.out.form (fun e => xn (h6.1 e))
    rw [YL.out]
    have O1 : Hid (V2.ownsRow V.heap.size 3 1 (.slice (some ⟨G0, 0, none⟩) n c0) n (vals ys)) := show _ by
      have := H5.out
      unfold IntS.Own at this
      rw [YL.out] at this
      exact this
    have c0n : n ≤ c0 ∧ c0 ≤ 9223372036854775807 := by
      obtain ⟨_, q | ⟨_, _, _, q, _, _, q1, q2, _⟩⟩ := O1.out
      · cases q.1
      · injection q with _ _ q3
        unfold maxLen at q2
        omega
    clear H5 k1 k2 k3 h6 xn
    go_wp2
    go_loopw [3, 14] (fun t i wr => ∃ (k G cp : Nat), k ≤ n ∧ i = .int .i64 k ∧ t = .slice (some ⟨G, 0, none⟩) (k + 1) cp ∧ Hid (OwnB wr w.heap.size (.slice (some ⟨G, 0, none⟩) (k + 1) cp) (UInt8.ofNat n :: (ys.take k).map byteOf)) ∧ Hid (wr.ownsRow V.heap.size 3 1 (.slice (some ⟨G0, 0, none⟩) n c0) n (vals ys)) ∧ Hid (Below w.heap.size w wr)) (fun _ i _ => n - (intOf i).toNat)
    case atStart => exact ⟨0, w.heap.size, 1, by omega, rfl, rfl, OB3, O1, BW3⟩
    case round =>
      obtain ⟨k, G, cp, hk, rfl, rfl, HO, HV, HB⟩ := hrel
      clear OB3 O1 BW3
      by_cases hlt : k < n
      case neg =>
        obtain rfl : k = n := by omega
        obtain ⟨G', cp', e1, g2, g3, g4, g5⟩ := HO.out.form (by simp)
        injection e1 with f1 f2 f3
        injection f1 with f4
        injection f4 with f5 _ _
        subst f5
        have ll : (UInt8.ofNat k :: (ys.take k).map byteOf).length = k + 1 := f2.symm
        have RC := run_convert_bytes_back (P := Tryz.prog) wr 22 9 5 ⟨G, 0, none⟩ cp (UInt8.ofNat k :: (ys.take k).map byteOf) Tryz.underlying22 Tryz.underlying5 Tryz.underlying9 (fun j hj => by
          rw [Go.WideShapes.add_plain, Nat.zero_add]
          exact g5 j hj)
        rw [ll] at RC
        have et : ys.take k = ys := by rw [← YL.out, List.take_length]
        rw [et, ← ER.out] at RC
        clear g5 HO f3 f2 g2 g3 g4 ll et HV
        go_wp2
        go_ret
        exact ⟨rfl, HB.out⟩
      obtain ⟨y, ey⟩ : ∃ y, ys[k]? = some y := ⟨_, List.getElem?_eq_getElem (by rw [YL.out]; exact hlt)⟩
      have yb := YM.out y (List.mem_of_getElem? ey)
      have cy : wr.cell? ⟨G0, k, none⟩ = some (.int .i64 y) := by
        obtain ⟨_, q | ⟨g, cq, cur, q, _, hh, _, _, _, ht⟩⟩ := HV.out
        · cases q.1
        · injection q with q1 _ _
          injection q1 with q2
          injection q2 with q3 _ _
          subst q3
          have hu : (vals ys)[k]? = some (.int .i64 y) := by simp [vals, ey]
          rw [← ht, List.getElem?_take, if_pos (by omega)] at hu
          unfold World.cell?
          simp only [hh]
          simpa using hu
      have et : Hid ((UInt8.ofNat n :: (ys.take k).map byteOf) ++ [byteOf y] = UInt8.ofNat n :: (ys.take (k + 1)).map byteOf) := show _ = _ by
        rw [List.take_add_one, ey]
        simp
      have ll : Hid ((UInt8.ofNat n :: (ys.take k).map byteOf).length = k + 1) := show _ = _ by
        have := YL.out
        simp
        omega
      have lk : ((k : Nat) : Int) < (n : Nat) := by omega
      have BX : Below wr.heap.size wr (wr.alloc (.cells #[.int .u8 y] 5)) := (Below.refl _ _).alloc (Nat.le_refl _) _
      have OX := hide (HO.out.below BX)
      have VX := hide (Srt.owns_mild (B := 0) HV.out (Mild.of_below BX))
      have BY := hide (HB.out.trans (BX.mono HB.out.size))
      have CX : Hid ((wr.alloc (.cells #[.int .u8 y] 5)).cell? ((⟨wr.heap.size, 0, none⟩ : Addr).add 0) = some (.int .u8 ((byteOf y).toNat : Int))) := show _ = _ by
        rw [Go.WideShapes.add_plain, World.cell?_alloc_new, ← byte_nat yb]
        rfl
      have LX : Hid ((UInt8.ofNat n :: (ys.take k).map byteOf).length ≤ 1000000) := show _ ≤ _ by rw [ll.out]; omega
      clear BX HO HV HB ey
      go_wp2_with (at_builtin; refine wpList_pushB rfl _ _ rfl w.heap.size (.slice (some ⟨G, 0, none⟩) (k + 1) cp) (UInt8.ofNat n :: (ys.take k).map byteOf) rfl OX.out BY.out.size ⟨wr.heap.size, 0, none⟩ (byteOf y) rfl CX.out LX.out ?_; intro G2 cp2 u2 hO hb hkeep)
      have O3 := hO.out
      rw [ll.out, et.out] at O3
      have V3 : Hid (u2.ownsRow V.heap.size 3 1 (.slice (some ⟨G0, 0, none⟩) n c0) n (vals ys)) := show _ by
        obtain ⟨q0, q | ⟨g, cq, cur, q, q1, hh, rest⟩⟩ := VX.out
        · cases q.1
        · exact ⟨q0, Or.inr ⟨g, cq, cur, q, q1, hkeep.out _ _ _ _ hh (by decide), rest⟩⟩
      have B3 := hide (BY.out.trans hb.out)
      have O4 := hide O3
      rw [show min k ys.length = k by have := YL.out; omega]
      clear O3 hO hb hkeep OX VX BY CX LX cy
      exact ⟨⟨k + 1, G2, cp2, by omega, by go_num, rfl, O4, V3, B3⟩, by simp [intOf]; omega⟩
end Go.Proofs.YtckhfpaicnjknaaGreat.Pol
