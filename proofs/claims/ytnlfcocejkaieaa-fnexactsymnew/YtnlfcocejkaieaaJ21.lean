/-
  The program's copiedAtom and copiedAtoms.
  A drawn region at which two operations may come up; a region cut off from what follows it.
-/
import Derived.Test.YtnlfcocejkaieaaJ20
import Derived.Test.YtnlfcocejkaieaaJ18
import Derived.Test.YtnlfcocejkaieaaJ16
namespace Go.Proofs.Ytnlfcocejkaieaa.Tab
set_option linter.unusedVariables false
set_option linter.unusedSimpArgs false
open Go.ChangeShapes Go.WideShapes Go.ChangeAt Go.RowKit IntS Pol Push
set_option maxRecDepth 8000 in
set_option maxHeartbeats 8000000 in
theorem copiedAtom (t : At) (qx : Option Addr) (cx : Nat) (qy : Option Addr) (cy bx b : Nat) (w : World) (hx : PRow w bx (.slice qx t.x.length cx) t.x) (hy : PRow w b (.slice qy t.y.length cy) t.y) (hf : FineA t) :
    Calls Try.prog 33 #[.agg #[.int .i64 t.kd, .int .i64 t.k, .slice qx t.x.length cx, .slice qy t.y.length cy]] w fun e w' => ∃ ax nx kx ay ny ky mid, e = .returned (.agg #[.int .i64 t.kd, .int .i64 t.k, .slice ax nx kx, .slice ay ny ky]) ∧ WPoly w' w.heap.size mid (.slice ax nx kx) t.x ∧ WPoly w' mid w'.heap.size (.slice ay ny ky) t.y ∧ w.heap.size ≤ mid ∧ mid ≤ w'.heap.size ∧ Below w.heap.size w w' := by
  have bV : Below w.heap.size w ((w.alloc (.cells #[.int .i64 t.kd, .int .i64 t.k, .slice qx t.x.length cx, .slice qy t.y.length cy] 37)).alloc (.cells #[.int .i64 0, .int .i64 0, .slice none 0 0, .slice none 0 0] 37)).drew := (((Below.refl _ _).alloc (Nat.le_refl _) _).alloc (by simp) _).drew
  have AR := hide (((Rec.new w [.int .i64 t.kd, .int .i64 t.k, .slice qx t.x.length cx, .slice qy t.y.length cy] 37).alloc (.cells #[.int .i64 0, .int .i64 0, .slice none 0 0, .slice none 0 0] 37)).drew)
  have Z0 := (Rec.new (w.alloc (.cells #[.int .i64 t.kd, .int .i64 t.k, .slice qx t.x.length cx, .slice qy t.y.length cy] 37)) [.int .i64 0, .int .i64 0, .slice none 0 0, .slice none 0 0] 37).drew
  rw [show (w.alloc (.cells #[.int .i64 t.kd, .int .i64 t.k, .slice qx t.x.length cx, .slice qy t.y.length cy] 37)).heap.size = w.heap.size + 1 by simp] at Z0
  have ZR := hide Z0
  have HX := hide (hx.below bV)
  have HY := hide (hy.below bV)
  have BW := hide bV
  have HF := hide hf
  clear bV hx hy Z0 hf
  go_enter Try.func33, Try.ntmps33
  go_wp2_with fail
  refine (wpIn_wide (n := 0)).1 ?_
  refine PhaseIn.region (S := Rec w.heap.size [.int .i64 t.kd, .int .i64 t.k, .slice qx t.x.length cx, .slice qy t.y.length cy]) 7 (by kernel_rfl) ?_
  generalize ((w.alloc (.cells #[.int .i64 t.kd, .int .i64 t.k, .slice qx t.x.length cx, .slice qy t.y.length cy] 37)).alloc (.cells #[.int .i64 0, .int .i64 0, .slice none 0 0, .slice none 0 0] 37)).drew = d0 at AR ZR HX HY BW ⊢
  have hHeld := AR.out
  refine PhaseIn.takeD (i := 0) (v := ?_) [0, 1, 2, 5, 6, 7, 8, 9] 3 rfl (by rfl) (by kernel_rfl) (by kernel_rfl) (by kernel_rfl) (by kernel_rfl) (by kernel_rfl) (fun _ _ _ h => h) (Or.inl ⟨by kernel_rfl, ?_⟩) hHeld ?_
  rotate_left
  · intro w' hSw
    (try dsimp only at hSw)
    go_simp
    first | done | with_reducible rfl
  try simp only [Act.put, List.setIfInBounds_toArray, List.set]
  refine PhaseIn.takeD (i := 1) (v := ?_) [1, 2, 5, 6, 7, 8, 9] 4 rfl (by rfl) (by kernel_rfl) (by kernel_rfl) (by kernel_rfl) (by kernel_rfl) (by kernel_rfl) (fun _ _ _ h => h) (Or.inl ⟨by kernel_rfl, ?_⟩) hHeld ?_
  rotate_left
  · intro w' hSw
    (try dsimp only at hSw)
    have z0 := hSw.cell 0 _ rfl; have z1 := hSw.cell 1 _ rfl; have z2 := hSw.cell 2 _ rfl; have z3 := hSw.cell 3 _ rfl
    go_simp
    first | done | with_reducible rfl
  try simp only [Act.put, List.setIfInBounds_toArray, List.set]
  refine PhaseIn.takeD (i := 3) (v := ?_) [3, 4, 5, 6, 7, 8, 9] 6 rfl (by rfl) (by kernel_rfl) (by kernel_rfl) (by kernel_rfl) (by kernel_rfl) (by kernel_rfl) (fun _ _ _ h => h) (Or.inl ⟨by kernel_rfl, ?_⟩) hHeld ?_
  rotate_left
  · intro w' hSw
    (try dsimp only at hSw)
    go_simp
    first | done | with_reducible rfl
  try simp only [Act.put, List.setIfInBounds_toArray, List.set]
  refine PhaseIn.takeD (i := 4) (v := ?_) [4, 5, 6, 7, 8, 9] 7 rfl (by rfl) (by kernel_rfl) (by kernel_rfl) (by kernel_rfl) (by kernel_rfl) (by kernel_rfl) (fun _ _ _ h => h) (Or.inl ⟨by kernel_rfl, ?_⟩) hHeld ?_
  rotate_left
  · intro w' hSw
    (try dsimp only at hSw)
    have z0 := hSw.cell 0 _ rfl; have z1 := hSw.cell 1 _ rfl; have z2 := hSw.cell 2 _ rfl; have z3 := hSw.cell 3 _ rfl
    go_simp
    first | done | with_reducible rfl
  try simp only [Act.put, List.setIfInBounds_toArray, List.set]
  refine PhaseIn.one (i := 2) (by kernel_rfl) rfl (by kernel_rfl) (fun K hK => ?_)
  unfold Oper.wpIn
  refine ⟨fun _ _ => trivial, ?_⟩
  go_simp
  refine ⟨rfl, (callsIn_wide.2 (copiedSum t.x bx _ _ HX.out HF.out.x HF.out.ax)).mono ?_⟩
  rintro e u1 ⟨GX, rfl, WX, hb⟩
  refine hK _ _ (fun _ => hHeld.below hb) ?_
  have DL : Hid (w.heap.size + 1 < d0.heap.size) := ZR.out.lt
  replace WX := hide WX
  have SZ0 : Hid (d0.heap.size ≤ u1.heap.size) := hb.size
  replace hHeld := hHeld.below hb
  replace AR := hide (AR.out.below hb)
  replace ZR := hide (ZR.out.below hb)
  replace HY := hide (HY.out.below hb)
  replace BW := hide (BW.out.trans (hb.mono BW.out.size))
  clear hb hK K HX
  try simp only [Act.put, List.setIfInBounds_toArray, List.set]
  refine PhaseIn.takeD (i := 6) (v := ?_) [6, 7, 8, 9] 9 rfl (by rfl) (by kernel_rfl) (by kernel_rfl) (by kernel_rfl) (by kernel_rfl) (by kernel_rfl) (fun _ _ _ h => h) (Or.inl ⟨by kernel_rfl, ?_⟩) hHeld ?_
  rotate_left
  · intro w' hSw
    (try dsimp only at hSw)
    go_simp
    first | done | with_reducible rfl
  try simp only [Act.put, List.setIfInBounds_toArray, List.set]
  refine PhaseIn.one (i := 5) (by kernel_rfl) rfl (by kernel_rfl) (fun K hK => ?_)
  unfold Oper.wpIn
  refine ⟨fun _ _ => trivial, ?_⟩
  go_simp
  refine ⟨rfl, (callsIn_wide.2 (copiedSum t.y b _ _ HY.out HF.out.y HF.out.ay)).mono ?_⟩
  rintro e u2 ⟨GY, rfl, WY, hb⟩
  refine hK _ _ (fun _ => hHeld.below hb) ?_
  replace WY := hide WY
  have SZ2 : Hid (u1.heap.size ≤ u2.heap.size) := hb.size
  replace AR := hide (AR.out.below hb)
  replace ZR := hide (ZR.out.below hb)
  replace WX := hide (WX.out.below hb)
  replace BW := hide (BW.out.trans (hb.mono BW.out.size))
  clear hb hK K HY hHeld
  try simp only [Act.put, List.setIfInBounds_toArray, List.set]
  have z2 := AR.out.cell 2 _ rfl
  have y2 := AR.out.soft 2
  refine PhaseIn.one (i := 7) (by kernel_rfl) rfl (by kernel_rfl) (fun K hK => ?_)
  unfold Oper.wpIn
  refine ⟨fun _ _ => trivial, ?_⟩
  go_simp
  have t7 : Turn w.heap.size u2 (u2.setCell ⟨w.heap.size, 2, none⟩ (.slice (some ⟨GX, 0, none⟩) t.x.length t.x.length)) := (Turn.refl _ u2).setCell (p := ⟨w.heap.size, 2, none⟩) rfl _
  have A7 := hide (AR.out.set 2 (.slice (some ⟨GX, 0, none⟩) t.x.length t.x.length) (by simp) (show _ = ([.int .i64 t.kd, .int .i64 t.k, .slice (some ⟨GX, 0, none⟩) t.x.length t.x.length, .slice qy t.y.length cy] : List Value) from rfl))
  replace ZR := hide (ZR.out.turn t7 (by omega))
  replace WX := hide (WX.out.keep (Keep.of_turn t7) (fun b' h1 h2 (h3 : b' = _) => by have := DL.out; omega))
  replace WY := hide (WY.out.keep (Keep.of_turn t7) (fun b' h1 h2 (h3 : b' = _) => by have := DL.out; have := SZ0.out; omega))
  replace BW := hide (BW.out.trans (t7.below (by omega) BW.out.size))
  have S7 : Hid (u2.heap.size ≤ (u2.setCell ⟨w.heap.size, 2, none⟩ (.slice (some ⟨GX, 0, none⟩) t.x.length t.x.length)).heap.size) := t7.size
  refine hK _ _ (fun h => absurd h (by omega)) ?_
  clear hK K z2 y2 AR t7
  try simp only [Act.put, List.setIfInBounds_toArray, List.set]
  generalize u2.setCell ⟨w.heap.size, 2, none⟩ (.slice (some ⟨GX, 0, none⟩) t.x.length t.x.length) = u7 at A7 ZR WX WY BW S7 ⊢
  refine PhaseIn.late (i := 8) (v := ?_) (by kernel_rfl) rfl 10 (by rfl) (by omega) (Or.inl ⟨by kernel_rfl, ?_⟩) ?_
  rotate_left
  · intro w' hSw
    go_simp
    first | done | with_reducible rfl
  try simp only [Act.put, List.setIfInBounds_toArray, List.set]
  have z3 := A7.out.cell 3 _ rfl
  have y3 := A7.out.soft 3
  refine PhaseIn.one (i := 9) (by kernel_rfl) rfl (by kernel_rfl) (fun K hK => ?_)
  unfold Oper.wpIn
  refine ⟨fun _ _ => trivial, ?_⟩
  go_simp
  have t9 : Turn w.heap.size u7 (u7.setCell ⟨w.heap.size, 3, none⟩ (.slice (some ⟨GY, 0, none⟩) t.y.length t.y.length)) := (Turn.refl _ u7).setCell (p := ⟨w.heap.size, 3, none⟩) rfl _
  have A9 := hide (A7.out.set 3 (.slice (some ⟨GY, 0, none⟩) t.y.length t.y.length) (by simp) (show _ = ([.int .i64 t.kd, .int .i64 t.k, .slice (some ⟨GX, 0, none⟩) t.x.length t.x.length, .slice (some ⟨GY, 0, none⟩) t.y.length t.y.length] : List Value) from rfl))
  replace ZR := hide (ZR.out.turn t9 (by omega))
  replace WX := hide (WX.out.keep (Keep.of_turn t9) (fun b' h1 h2 (h3 : b' = _) => by have := DL.out; omega))
  replace WY := hide (WY.out.keep (Keep.of_turn t9) (fun b' h1 h2 (h3 : b' = _) => by have := DL.out; have := SZ0.out; omega))
  replace BW := hide (BW.out.trans (t9.below (by omega) BW.out.size))
  have S9 : Hid (u2.heap.size ≤ (u7.setCell ⟨w.heap.size, 3, none⟩ (.slice (some ⟨GY, 0, none⟩) t.y.length t.y.length)).heap.size) := Nat.le_trans S7.out t9.size
  refine hK _ _ (fun h => absurd h (by omega)) ?_
  clear hK K z3 y3 A7 t9 S7
  try simp only [Act.put, List.setIfInBounds_toArray, List.set]
  generalize u7.setCell ⟨w.heap.size, 3, none⟩ (.slice (some ⟨GY, 0, none⟩) t.y.length t.y.length) = u9 at A9 ZR WX WY BW S9 ⊢
  refine PhaseIn.done (by kernel_rfl) ?_ _
  have a0 := A9.out.cell 0 _ rfl
  have z0 := ZR.out.cell 0 _ rfl
  have y0 := ZR.out.soft 0
  have a1 := A9.out.cell 1 _ rfl
  have z1 := ZR.out.cell 1 _ rfl
  have y1 := ZR.out.soft 1
  have a2 := A9.out.cell 2 _ rfl
  have z2 := ZR.out.cell 2 _ rfl
  have y2 := ZR.out.soft 2
  have a3 := A9.out.cell 3 _ rfl
  have z3 := ZR.out.cell 3 _ rfl
  have y3 := ZR.out.soft 3
  have RF := hide ((((ZR.out.set 0 (.int .i64 t.kd) (by simp) (show _ = ([.int .i64 t.kd, .int .i64 0, .slice none 0 0, .slice none 0 0] : List Value) from rfl)).set 1 (.int .i64 t.k) (by simp) (show _ = ([.int .i64 t.kd, .int .i64 t.k, .slice none 0 0, .slice none 0 0] : List Value) from rfl)).set 2 (.slice (some ⟨GX, 0, none⟩) t.x.length t.x.length) (by simp) (show _ = ([.int .i64 t.kd, .int .i64 t.k, .slice (some ⟨GX, 0, none⟩) t.x.length t.x.length, .slice none 0 0] : List Value) from rfl)).set 3 (.slice (some ⟨GY, 0, none⟩) t.y.length t.y.length) (by simp) (show _ = ([.int .i64 t.kd, .int .i64 t.k, .slice (some ⟨GX, 0, none⟩) t.x.length t.x.length, .slice (some ⟨GY, 0, none⟩) t.y.length t.y.length] : List Value) from rfl))
  have TN : Turn (w.heap.size + 1) u9 ((((u9.setCell ⟨w.heap.size + 1, 0, none⟩ (.int .i64 t.kd)).setCell ⟨w.heap.size + 1, 1, none⟩ (.int .i64 t.k)).setCell ⟨w.heap.size + 1, 2, none⟩ (.slice (some ⟨GX, 0, none⟩) t.x.length t.x.length)).setCell ⟨w.heap.size + 1, 3, none⟩ (.slice (some ⟨GY, 0, none⟩) t.y.length t.y.length)) := (((((Turn.refl (w.heap.size + 1) u9).setCell (p := ⟨w.heap.size + 1, 0, none⟩) rfl (.int .i64 t.kd)).setCell (p := ⟨w.heap.size + 1, 1, none⟩) rfl (.int .i64 t.k)).setCell (p := ⟨w.heap.size + 1, 2, none⟩) rfl (.slice (some ⟨GX, 0, none⟩) t.x.length t.x.length)).setCell (p := ⟨w.heap.size + 1, 3, none⟩) rfl (.slice (some ⟨GY, 0, none⟩) t.y.length t.y.length))
  have FX := hide ((WX.out.keep (Keep.of_turn TN) (fun b' h1 h2 (h3 : b' = _) => by have := DL.out; omega)).wide (lo' := w.heap.size) (hi' := u1.heap.size) (by have := DL.out; omega) (Nat.le_refl _))
  have FY := hide ((WY.out.keep (Keep.of_turn TN) (fun b' h1 h2 (h3 : b' = _) => by have := DL.out; have := SZ0.out; omega)).wide (lo' := u1.heap.size) (hi' := ((((u9.setCell ⟨w.heap.size + 1, 0, none⟩ (.int .i64 t.kd)).setCell ⟨w.heap.size + 1, 1, none⟩ (.int .i64 t.k)).setCell ⟨w.heap.size + 1, 2, none⟩ (.slice (some ⟨GX, 0, none⟩) t.x.length t.x.length)).setCell ⟨w.heap.size + 1, 3, none⟩ (.slice (some ⟨GY, 0, none⟩) t.y.length t.y.length)).heap.size) (Nat.le_refl _) (Nat.le_trans S9.out TN.size))
  have M1 : Hid (w.heap.size ≤ u1.heap.size ∧ u1.heap.size ≤ ((((u9.setCell ⟨w.heap.size + 1, 0, none⟩ (.int .i64 t.kd)).setCell ⟨w.heap.size + 1, 1, none⟩ (.int .i64 t.k)).setCell ⟨w.heap.size + 1, 2, none⟩ (.slice (some ⟨GX, 0, none⟩) t.x.length t.x.length)).setCell ⟨w.heap.size + 1, 3, none⟩ (.slice (some ⟨GY, 0, none⟩) t.y.length t.y.length)).heap.size) := ⟨by have := DL.out; have := SZ0.out; omega, Nat.le_trans SZ2.out (Nat.le_trans S9.out TN.size)⟩
  replace BW := hide (BW.out.trans (TN.below (by omega) BW.out.size))
  clear WX WY TN DL SZ0 SZ2 S9 A9 ZR
  go_wp2
  generalize ((((u9.setCell ⟨w.heap.size + 1, 0, none⟩ (.int .i64 t.kd)).setCell ⟨w.heap.size + 1, 1, none⟩ (.int .i64 t.k)).setCell ⟨w.heap.size + 1, 2, none⟩ (.slice (some ⟨GX, 0, none⟩) t.x.length t.x.length)).setCell ⟨w.heap.size + 1, 3, none⟩ (.slice (some ⟨GY, 0, none⟩) t.y.length t.y.length)) = y4 at RF FX FY M1 BW ⊢
  have r0 := RF.out.cell 0 _ rfl
  have r1 := RF.out.cell 1 _ rfl
  have r2 := RF.out.cell 2 _ rfl
  have r3 := RF.out.cell 3 _ rfl
  exact bodyPost_ret (v := .agg #[.int .i64 t.kd, .int .i64 t.k, .slice (some ⟨GX, 0, none⟩) t.x.length t.x.length, .slice (some ⟨GY, 0, none⟩) t.y.length t.y.length]) (by simp [results, Try.results33, go_sem, r0, r1, r2, r3]) rfl ⟨_, _, _, _, _, _, u1.heap.size, rfl, FX.out, FY.out, M1.out.1, M1.out.2, BW.out⟩
set_option maxRecDepth 8000 in
set_option maxHeartbeats 8000000 in
theorem copiedAtoms (ts : List At) (B : Nat) (v : Value) (w : World) (h : TRow w B v ts) (hf : ∀ t ∈ ts, FineA t) (hl : ts.length ≤ 1000) :
    Calls Try.prog 30 #[.agg #[v]] w fun e w' => ∃ q cap cs l m h, e = .returned (.agg #[.slice q ts.length cap]) ∧ OTab w' w.heap.size q cap cs l m h ts ∧ Below w.heap.size w w' := by
  have T := Three.new w [v] [.slice none 0 0] [.slice none 0 0] 24 24 24
  have C0 : Hid (CopyT w v ts 0 none 0 [] (fun _ => 0) (fun _ => 0) (fun _ => 0) (((w.alloc (.cells #[v] 24)).alloc (.cells #[.slice none 0 0] 24)).alloc (.cells #[.slice none 0 0] 24))) := ⟨T.a, T.z, T.o, OTab.nil _ _, T.bw⟩
  have HF := hide hf
  obtain ⟨a, cap0, off, rfl, h2, h3, _, h4⟩ := h
  have H4 := hide h4
  unfold maxLen at h3
  clear T hf h4
  go_enter Try.func30, Try.ntmps30
  go_wp2
  generalize (((w.alloc (.cells #[.slice a ts.length cap0] 24)).alloc (.cells #[.slice none 0 0] 24)).alloc (.cells #[.slice none 0 0] 24)) = V at C0 ⊢
  go_loopw [9] (fun i wr => ∃ k : Nat, k ≤ ts.length ∧ i = .int .i64 k ∧ Hid (∃ q cap cs l m h, CopyT w (.slice a ts.length cap0) ts k q cap cs l m h wr)) (fun i _ => ts.length - (intOf i).toNat)
  case atStart => exact ⟨0, by omega, rfl, ⟨_, _, _, _, _, _, C0.out⟩⟩
  case round =>
    obtain ⟨k, hk, rfl, HC⟩ := hrel
    obtain ⟨q, cap, cs, l, m, hh, CP0⟩ := HC.out
    have CP := hide CP0
    clear CP0 HC C0
    by_cases hlt : k < ts.length
    case neg =>
      obtain rfl : k = ts.length := by omega
      have x0 := CP.out.x.cell 0 _ rfl
      have a0 := CP.out.a.cell 0 _ rfl
      have z0 := CP.out.z.cell 0 _ rfl
      have s0 := CP.out.z.soft 0
      have T1 : Turn (w.heap.size + 1) wr (wr.setCell ⟨w.heap.size + 1, 0, none⟩ (.slice q ts.length cap)) := (Turn.refl _ wr).setCell (p := ⟨w.heap.size + 1, 0, none⟩) rfl _
      have B0 := hide (CP.out.bw.trans (T1.below (by omega) CP.out.bw.size))
      have Z0 := hide (CP.out.z.set 0 (.slice q ts.length cap) (by simp) rfl)
      have W0 := CP.out.tab.turn T1 (Or.inl (by omega))
      rw [List.take_length] at W0
      have W1 := hide (W0.mono (lo' := w.heap.size) (by omega))
      clear W0 T1
      go_wp2
      generalize wr.setCell ⟨w.heap.size + 1, 0, none⟩ (.slice q ts.length cap) = U at B0 Z0 W1 ⊢
      have z1 := Z0.out.cell 0 _ rfl
      exact bodyPost_ret (v := .agg #[.slice q ts.length cap]) (by simp [results, Try.results30, go_sem, z1]) rfl ⟨q, cap, cs, l, m, hh, rfl, W1.out, B0.out⟩
    · obtain ⟨t, et⟩ : ∃ t, ts[k]? = some t := ⟨_, List.getElem?_eq_getElem hlt⟩
      obtain ⟨rfl, hc⟩ := H4.out.resolve_left (fun e => by rw [e] at et; simp at et)
      obtain ⟨c0, c1, qx, cx, bx, qy, cy, b, c2, px, c3, py⟩ := (hc k t et).below CP.out.bw
      have FA := hide (HF.out t (List.mem_of_getElem? et))
      have ET := hide et
      have lk : ((k : Nat) : Int) < (ts.length : Nat) := by omega
      clear et hc
      have a0 := CP.out.a.cell 0 _ rfl
      have bA : Below wr.heap.size wr (wr.alloc (.cells #[.int .i64 t.kd, .int .i64 t.k, .slice qx t.x.length cx, .slice qy t.y.length cy] 37)).drew := ((Below.refl _ _).alloc (Nat.le_refl _) _).drew
      have BX := hide ((Rec.new wr [.int .i64 t.kd, .int .i64 t.k, .slice qx t.x.length cx, .slice qy t.y.length cy] 37).drew)
      go_wp2_with fail
      have CPd := hide (CP.out.below bA)
      have PX := hide (px.below bA)
      have PY := hide (py.below bA)
      refine (wpIn_wide (n := 0)).1 ?_
      refine PhaseIn.region (S := fun w' => Rec (w.heap.size + 1 + 1) [.slice q k cap] w' ∧ Rec wr.heap.size [.int .i64 t.kd, .int .i64 t.k, .slice qx t.x.length cx, .slice qy t.y.length cy] w') 5 (by kernel_rfl) ?_
      generalize (wr.alloc (.cells #[.int .i64 t.kd, .int .i64 t.k, .slice qx t.x.length cx, .slice qy t.y.length cy] 37)).drew = d1 at BX CPd PX PY ⊢
      have hHeld := And.intro CPd.out.x BX.out
      clear bA a0 c0 c1 c2 c3 px py CP
      refine PhaseIn.takeD (i := 0) (v := ?_) [0, 1, 5, 6, 7] 13 rfl (by rfl) (by kernel_rfl) (by kernel_rfl) (by kernel_rfl) (by kernel_rfl) (by kernel_rfl) (fun _ _ _ h => h) (Or.inl ⟨by kernel_rfl, ?_⟩) hHeld ?_
      rotate_left
      · intro w' hSw
        (try dsimp only at hSw)
        go_simp
        first | done | with_reducible rfl
      try simp only [Act.put, List.setIfInBounds_toArray, List.set]
      refine PhaseIn.takeD (i := 1) (v := ?_) [1, 5, 6, 7] 14 rfl (by rfl) (by kernel_rfl) (by kernel_rfl) (by kernel_rfl) (by kernel_rfl) (by kernel_rfl) (fun _ _ _ h => h) (Or.inl ⟨by kernel_rfl, ?_⟩) hHeld ?_
      rotate_left
      · intro w' hSw
        (try dsimp only at hSw)
        have z0 := hSw.1.cell 0 _ rfl
        go_simp
        first | done | with_reducible rfl
      try simp only [Act.put, List.setIfInBounds_toArray, List.set]
      refine PhaseIn.takeD (i := 2) (v := ?_) [2, 3, 4, 5, 6, 7] 15 rfl (by rfl) (by kernel_rfl) (by kernel_rfl) (by kernel_rfl) (by kernel_rfl) (by kernel_rfl) (fun _ _ _ h => h) (Or.inl ⟨by kernel_rfl, ?_⟩) hHeld ?_
      rotate_left
      · intro w' hSw
        (try dsimp only at hSw)
        have z0 := hSw.2.cell 0 _ rfl; have z1 := hSw.2.cell 1 _ rfl; have z2 := hSw.2.cell 2 _ rfl; have z3 := hSw.2.cell 3 _ rfl
        go_simp
        first | done | with_reducible rfl
      try simp only [Act.put, List.setIfInBounds_toArray, List.set]
      refine PhaseIn.one (i := 3) (by kernel_rfl) rfl (by kernel_rfl) (fun K hK => ?_)
      unfold Oper.wpIn
      refine ⟨fun _ _ => trivial, ?_⟩
      go_simp
      refine ⟨rfl, (callsIn_wide.2 (copiedAtom t qx cx qy cy bx b _ PX.out PY.out FA.out)).mono ?_⟩
      rintro e u1 ⟨ax, nx, kx, ay, ny, ky, mid, rfl, WX, WY, m1, m2, hb⟩
      refine hK _ _ (fun _ => (And.intro (hHeld.1.below hb) (hHeld.2.below hb))) ?_
      replace hHeld := (And.intro (hHeld.1.below hb) (hHeld.2.below hb))
      replace WX := hide WX
      replace WY := hide WY
      have MM := hide (And.intro m1 m2)
      have HB1 := hide hb
      have C1 := hide (CPd.out.below hb)
      clear hK K hb m1 m2
      try simp only [Act.put, List.setIfInBounds_toArray, List.set]
      refine PhaseIn.one (i := 4) (by kernel_rfl) rfl (by kernel_rfl) (fun K hK => ?_)
      unfold Oper.wpIn
      refine ⟨fun _ _ => trivial, ?_⟩
      go_simp
      have bo : Below u1.heap.size u1 (u1.alloc (.cells #[.int .i64 t.kd, .int .i64 t.k, .slice ax nx kx, .slice ay ny ky] 37)) := (Below.refl _ _).alloc (Nat.le_refl _) _
      refine hK _ _ (fun _ => (And.intro (hHeld.1.below bo) (hHeld.2.below bo))) ?_
      have N := hide (Rec.new u1 [.int .i64 t.kd, .int .i64 t.k, .slice ax nx kx, .slice ay ny ky] 37)
      have C2 := hide (C1.out.below bo)
      clear hK K bo hHeld
      try simp only [Act.put, List.setIfInBounds_toArray, List.set]
      obtain ⟨G', cap', u3, hrun, ho, hg, hgl, gr⟩ := run_pushT (ty := 22) (w := u1.alloc (.cells #[.int .i64 t.kd, .int .i64 t.k, .slice ax nx kx, .slice ay ny ky] 37)) (by have := C2.out.tab.own; rwa [take_len hk] at this) (by rw [C2.out.tab.len, take_len hk]) (by omega) (by have := C2.out.x.lt; omega) ⟨u1.heap.size, 0, none⟩ t.kd t.k ax nx kx ay ny ky (by rw [Addr.add_lit]; exact N.out.cell 0 _ rfl) (by rw [Addr.add_lit]; exact N.out.cell 1 _ rfl) (by rw [Addr.add_lit]; exact N.out.cell 2 _ rfl) (by rw [Addr.add_lit]; exact N.out.cell 3 _ rfl)
      have CN := hide (CopyT.next CPd.out ET.out HB1.out WX.out WY.out MM.out.1 MM.out.2 ho hg gr)
      have X3 : Hid (Rec (w.heap.size + 1 + 1) [.slice q k cap] u3) := by
        rcases C2.out.tab.q_form with ⟨e1, _, _⟩ | ⟨G, e1⟩
        · exact C2.out.x.turn (B := (u1.alloc (.cells #[.int .i64 t.kd, .int .i64 t.k, .slice ax nx kx, .slice ay ny ky] 37)).heap.size) ⟨gr.os, gr.tape, gr.output, gr.size, fun j hj _ => gr.block j hj (by rw [e1]; simp [Value.ownBlock])⟩ (by have := C2.out.x.lt; omega)
        · have := (C2.out.tab.q_lt e1).1
          subst e1
          exact C2.out.x.turn (B := G) (Turn.of_grown gr) (by omega)
      clear ho hg hgl gr CPd HB1 WX WY MM C1 C2 N
      refine PhaseIn.one (i := 5) (by kernel_rfl) rfl (by kernel_rfl) (fun K hK => ?_)
      refine push_in _ _ rfl rfl rfl hrun (hK _ _ (fun h => absurd h (by omega)) ?_)
      clear hK K hrun
      try simp only [Act.put, List.setIfInBounds_toArray, List.set]
      refine PhaseIn.late (i := 6) (v := ?_) (by kernel_rfl) rfl 19 (by rfl) (by omega) (Or.inl ⟨by kernel_rfl, ?_⟩) ?_
      rotate_left
      · intro w' hSw
        go_simp
        first | done | with_reducible rfl
      try simp only [Act.put, List.setIfInBounds_toArray, List.set]
      have x0 := X3.out.cell 0 _ rfl
      have s0 := X3.out.soft 0
      refine PhaseIn.one (i := 7) (by kernel_rfl) rfl (by kernel_rfl) (fun K hK => ?_)
      unfold Oper.wpIn
      refine ⟨fun _ _ => trivial, ?_⟩
      go_simp
      refine hK _ _ (fun h => absurd h (by omega)) ?_
      clear hK K x0 s0 X3
      try simp only [Act.put, List.setIfInBounds_toArray, List.set]
      generalize u3.setCell ⟨w.heap.size + 1 + 1, 0, none⟩ (.slice (some ⟨G', 0, none⟩) (k + 1) cap') = u4 at CN ⊢
      refine PhaseIn.done (by kernel_rfl) ?_ _
      go_wp2
      exact ⟨⟨k + 1, by omega, by go_num, ⟨_, _, _, _, _, _, CN.out⟩⟩, by simp [intOf]; omega⟩
end Go.Proofs.Ytnlfcocejkaieaa.Tab
namespace Go.Proofs.Ytnlfcocejkaieaa.PhaseIn
open Go
section
variable {P : Program} {ops : Array Oper} {Q : Exit → Act → World → Prop} {md : Region.Mode} {S : World → Prop} {n : Nat}
theorem two {i j : Nat} {oi oj : Oper} {fuel : Nat} {listed : Array Bool} {a : Act} {w : World} (hr : Region.ready md ops listed = [i, j]) (hi : ops[i]? = some oi) (hj : ops[j]? = some oj) (hwi : Region.wanted oi (yielded ops a.tmps) = true) (hwj : Region.wanted oj (yielded ops a.tmps) = true)
    (h1 : ∀ K : Act → World → Prop, (∀ a' w', (i < n → S w') → wpAnyW P md ops Q S n fuel (listed.setIfInBounds i true) a' w' → K a' w') → Oper.wpIn Fence.wide 0 P oi a w K Q)
    (h2 : ∀ K : Act → World → Prop, (∀ a' w', (j < n → S w') → wpAnyW P md ops Q S n fuel (listed.setIfInBounds j true) a' w' → K a' w') → Oper.wpIn Fence.wide 0 P oj a w K Q) : wpAnyW P md ops Q S n (fuel + 1) listed a w := by
  refine ⟨fun h0 => (by rw [hr] at h0; cases h0), fun k hk => ?_⟩
  rw [hr] at hk
  have hk2 : k = i ∨ k = j := by simpa using hk
  rcases hk2 with rfl | rfl
  · unfold wpOpIn
    simp only [hi]
    rw [if_pos hwi]
    exact h1 _ (fun a' w' h1 h2 => ⟨h1, h2⟩)
  · unfold wpOpIn
    simp only [hj]
    rw [if_pos hwj]
    exact h2 _ (fun a' w' h1 h2 => ⟨h1, h2⟩)
/-- Only what falls off its end, and then so. -/
def onlyN (R : Act → World → Prop) : Exit → Act → World → Prop
  | .normal, a, w => R a w
  | _, _, _ => False
theorem cut {c : Code} {a : Act} {w : World} (R : Act → World → Prop) (h : c.wpIn Fence.wide 0 P (onlyN R) a w) (hq : ∀ a' w', R a' w' → Q .normal a' w') : c.wp P Q a w := by
  refine (wpIn_wide (n := 0)).1 (wpIn_mono h fun e a' w' he => ?_)
  cases e <;> first | exact hq a' w' he | exact he.elim
end
end Go.Proofs.Ytnlfcocejkaieaa.PhaseIn
