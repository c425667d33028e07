/-
  The specification's l5Copy: atoms in new memory.
-/
import Derived.Test.YtagfgbkclopoeaaTabTw
namespace Go.Proofs.Ytagfgbkclopoeaa.Tab
set_option linter.unusedVariables false
set_option linter.unusedSimpArgs false
open Go.ChangeShapes Go.WideShapes Go.ChangeAt Go.RowKit IntS Pol Push
theorem OTab.mono {w : World} {lo lo' cap : Nat} {q : Option Addr} {cs : List C4} {l m h : Nat → Nat} {ts : List At} (H : OTab w lo q cap cs l m h ts) (hl : lo' ≤ lo) : OTab w lo' q cap cs l m h ts := by
  refine ⟨owns_mono H.own hl, H.len, fun i t hi => ?_, H.inc⟩
  obtain ⟨sx, sy, k1, k2, k3, k4, r⟩ := H.rows i t hi
  exact ⟨sx, sy, k1, k2, k3, Nat.le_trans hl k4, r⟩
set_option maxRecDepth 8000 in
set_option maxHeartbeats 8000000 in
theorem l5Copy (ts : List At) (B : Nat) (v : Value) (w : World) (h : TRow w B v ts) (hf : ∀ t ∈ ts, FineA t) (hl : ts.length ≤ 1000) :
    Calls Try.prog 26 #[.agg #[v]] w fun e w' => ∃ q cap cs l m h, e = .returned (.agg #[.slice q ts.length cap]) ∧ OTab w' w.heap.size q cap cs l m h ts ∧ Below w.heap.size w w' := by
  have T := Three.new w [v] [.slice none 0 0] [.slice none 0 0] 34 34 34
  have C0 : Hid (CopyT w v ts 0 none 0 [] (fun _ => 0) (fun _ => 0) (fun _ => 0) (((w.alloc (.cells #[v] 34)).alloc (.cells #[.slice none 0 0] 34)).alloc (.cells #[.slice none 0 0] 34))) := ⟨T.a, T.z, T.o, OTab.nil _ _, T.bw⟩
  have HF := hide hf
  obtain ⟨a, cap0, off, rfl, h2, h3, _, h4⟩ := h
  have H4 := hide h4
  unfold maxLen at h3
  clear T hf h4
  go_enter Try.func26, Try.ntmps26
  go_wp2
  generalize (((w.alloc (.cells #[.slice a ts.length cap0] 34)).alloc (.cells #[.slice none 0 0] 34)).alloc (.cells #[.slice none 0 0] 34)) = V at C0 ⊢
  go_loopw [4] (fun i wr => ∃ k : Nat, k ≤ ts.length ∧ i = .int .i64 k ∧ Hid (∃ q cap cs l m h, CopyT w (.slice a ts.length cap0) ts k q cap cs l m h wr)) (fun i _ => ts.length - (intOf i).toNat)
  case atStart => exact ⟨0, by omega, rfl, ⟨_, _, _, _, _, _, C0.out⟩⟩
  case round =>
    obtain ⟨k, hk, rfl, HC⟩ := hrel
    obtain ⟨q, cap, cs, l, m, hh, CP0⟩ := HC.out
    have CP := hide CP0
    clear CP0 HC C0
    by_cases hlt : k < ts.length
    case neg =>
      obtain rfl : k = ts.length := by omega
      have x0 := CP.out.x.cell 0 _ rfl
      have a0 := CP.out.a.cell 0 _ rfl
      have z0 := CP.out.z.cell 0 _ rfl
      have s0 := CP.out.z.soft 0
      have T1 : Turn (w.heap.size + 1) wr (wr.setCell ⟨w.heap.size + 1, 0, none⟩ (.slice q ts.length cap)) := (Turn.refl _ wr).setCell (p := ⟨w.heap.size + 1, 0, none⟩) rfl _
      have B0 := hide (CP.out.bw.trans (T1.below (by omega) CP.out.bw.size))
      have Z0 := hide (CP.out.z.set 0 (.slice q ts.length cap) (by simp) rfl)
      have W0 := CP.out.tab.turn T1 (Or.inl (by omega))
      rw [List.take_length] at W0
      have W1 := hide (W0.mono (lo' := w.heap.size) (by omega))
      clear W0 T1
      go_wp2
      generalize wr.setCell ⟨w.heap.size + 1, 0, none⟩ (.slice q ts.length cap) = U at B0 Z0 W1 ⊢
      have z1 := Z0.out.cell 0 _ rfl
      exact bodyPost_ret (v := .agg #[.slice q ts.length cap]) (by simp [results, Try.results26, go_sem, z1]) rfl ⟨q, cap, cs, l, m, hh, rfl, W1.out, B0.out⟩
    · obtain ⟨t, et⟩ : ∃ t, ts[k]? = some t := ⟨_, List.getElem?_eq_getElem hlt⟩
      obtain ⟨rfl, hc⟩ := H4.out.resolve_left (fun e => by rw [e] at et; simp at et)
      obtain ⟨c0, c1, qx, cx, bx, qy, cy, b, c2, px, c3, py⟩ := (hc k t et).below CP.out.bw
      have FA := hide (HF.out t (List.mem_of_getElem? et))
      have ET := hide et
      have lk : ((k : Nat) : Int) < (ts.length : Nat) := by omega
      clear et hc
      have a0 := CP.out.a.cell 0 _ rfl
      have bA : Below wr.heap.size wr wr.drew := (Below.refl _ _).drew
      go_wp2_with fail
      have CPd := hide (CP.out.below bA)
      have PX := hide (px.below bA)
      have PY := hide (py.below bA)
      have C4 : Hid (wr.drew.cell? ⟨B, off + k * 4, none⟩ = some (.int .i64 t.kd) ∧ wr.drew.cell? ⟨B, off + k * 4 + 1, none⟩ = some (.int .i64 t.k) ∧ wr.drew.cell? ⟨B, off + k * 4 + 2, none⟩ = some (.slice qx t.x.length cx) ∧ wr.drew.cell? ⟨B, off + k * 4 + 3, none⟩ = some (.slice qy t.y.length cy)) := ⟨c0, c1, c2, c3⟩
      refine (wpIn_wide (n := 0)).1 ?_
      refine PhaseIn.region (S := fun w' => Rec (w.heap.size + 1 + 1) [.slice q k cap] w' ∧ Rec w.heap.size [.slice (some ⟨B, off, none⟩) ts.length cap0] w' ∧ w'.cell? ⟨B, off + k * 4, none⟩ = some (.int .i64 t.kd) ∧ w'.cell? ⟨B, off + k * 4 + 1, none⟩ = some (.int .i64 t.k) ∧ w'.cell? ⟨B, off + k * 4 + 2, none⟩ = some (.slice qx t.x.length cx) ∧ w'.cell? ⟨B, off + k * 4 + 3, none⟩ = some (.slice qy t.y.length cy)) 9 (by kernel_rfl) ?_
      generalize wr.drew = d1 at CPd PX PY C4 ⊢
      have hHeld := And.intro CPd.out.x (And.intro CPd.out.a C4.out)
      clear bA a0 c0 c1 c2 c3 px py CP C4
      refine PhaseIn.takeD (i := 0) (v := ?_) [0, 1, 9, 10, 11] 13 rfl (by rfl) (by kernel_rfl) (by kernel_rfl) (by kernel_rfl) (by kernel_rfl) (by kernel_rfl) (fun _ _ _ h => h) (Or.inl ⟨by kernel_rfl, ?_⟩) hHeld ?_
      rotate_left
      · intro w' hSw
        (try dsimp only at hSw)
        go_simp
        first | done | with_reducible rfl
      try simp only [Act.put, List.setIfInBounds_toArray, List.set]
      refine PhaseIn.takeD (i := 1) (v := ?_) [1, 9, 10, 11] 14 rfl (by rfl) (by kernel_rfl) (by kernel_rfl) (by kernel_rfl) (by kernel_rfl) (by kernel_rfl) (fun _ _ _ h => h) (Or.inl ⟨by kernel_rfl, ?_⟩) hHeld ?_
      rotate_left
      · intro w' hSw
        (try dsimp only at hSw)
        have z0 := hSw.1.cell 0 _ rfl
        go_simp
        first | done | with_reducible rfl
      try simp only [Act.put, List.setIfInBounds_toArray, List.set]
      refine PhaseIn.takeD (i := 2) (v := ?_) [2, 3, 5, 6, 7, 8, 9, 10, 11] 15 rfl (by rfl) (by kernel_rfl) (by kernel_rfl) (by kernel_rfl) (by kernel_rfl) (by kernel_rfl) (fun _ _ _ h => h) (Or.inl ⟨by kernel_rfl, ?_⟩) hHeld ?_
      rotate_left
      · intro w' hSw
        (try dsimp only at hSw)
        go_simp
        first | done | with_reducible rfl
      try simp only [Act.put, List.setIfInBounds_toArray, List.set]
      refine PhaseIn.takeD (i := 3) (v := ?_) [3, 5, 6, 7, 8, 9, 10, 11] 16 rfl (by rfl) (by kernel_rfl) (by kernel_rfl) (by kernel_rfl) (by kernel_rfl) (by kernel_rfl) (fun _ _ _ h => h) (Or.inl ⟨by kernel_rfl, ?_⟩) hHeld ?_
      rotate_left
      · intro w' hSw
        (try dsimp only at hSw)
        have z0 := hSw.2.1.cell 0 _ rfl
        go_simp
        first | done | with_reducible rfl
      try simp only [Act.put, List.setIfInBounds_toArray, List.set]
      refine PhaseIn.takeD (i := 4) (v := ?_) [4, 5, 6, 7, 8, 9, 10, 11] 17 rfl (by rfl) (by kernel_rfl) (by kernel_rfl) (by kernel_rfl) (by kernel_rfl) (by kernel_rfl) (fun _ _ _ h => h) (Or.inl ⟨by kernel_rfl, ?_⟩) hHeld ?_
      rotate_left
      · intro w' hSw
        (try dsimp only at hSw)
        go_simp
        first | done | with_reducible rfl
      try simp only [Act.put, List.setIfInBounds_toArray, List.set]
      refine PhaseIn.takeD (i := 5) (v := ?_) [5, 6, 7, 8, 9, 10, 11] 18 rfl (by rfl) (by kernel_rfl) (by kernel_rfl) (by kernel_rfl) (by kernel_rfl) (by kernel_rfl) (fun _ _ _ h => h) (Or.inl ⟨by kernel_rfl, ?_⟩) hHeld ?_
      rotate_left
      · intro w' hSw
        (try dsimp only at hSw)
        go_simp
        first | done | with_reducible rfl
      try simp only [Act.put, List.setIfInBounds_toArray, List.set]
      refine PhaseIn.takeD (i := 6) (v := ?_) [6, 7, 8, 9, 10, 11] 19 rfl (by rfl) (by kernel_rfl) (by kernel_rfl) (by kernel_rfl) (by kernel_rfl) (by kernel_rfl) (fun _ _ _ h => h) (Or.inl ⟨by kernel_rfl, ?_⟩) hHeld ?_
      rotate_left
      · intro w' hSw
        (try dsimp only at hSw)
        obtain ⟨_, _, z0, z1, z2, z3⟩ := hSw
        go_simp
        first | done | with_reducible rfl
      try simp only [Act.put, List.setIfInBounds_toArray, List.set]
      refine PhaseIn.one (i := 7) (by kernel_rfl) rfl (by kernel_rfl) (fun K hK => ?_)
      unfold Oper.wpIn
      refine ⟨fun _ _ => trivial, ?_⟩
      go_simp
      refine ⟨rfl, (callsIn_wide.2 (l5Twin t qx cx qy cy bx b _ PX.out PY.out FA.out)).mono ?_⟩
      rintro e u1 ⟨ax, nx, kx, ay, ny, ky, mid, rfl, WX, WY, m1, m2, hb⟩
      refine hK _ _ (fun _ => (And.intro (hHeld.1.below hb) (And.intro (hHeld.2.1.below hb) (And.intro (cell_below hb hHeld.2.2.1) (And.intro (cell_below hb hHeld.2.2.2.1) (And.intro (cell_below hb hHeld.2.2.2.2.1) (cell_below hb hHeld.2.2.2.2.2))))))) ?_
      replace hHeld := (And.intro (hHeld.1.below hb) (And.intro (hHeld.2.1.below hb) (And.intro (cell_below hb hHeld.2.2.1) (And.intro (cell_below hb hHeld.2.2.2.1) (And.intro (cell_below hb hHeld.2.2.2.2.1) (cell_below hb hHeld.2.2.2.2.2))))))
      replace WX := hide WX
      replace WY := hide WY
      have MM := hide (And.intro m1 m2)
      have HB1 := hide hb
      have C1 := hide (CPd.out.below hb)
      clear hK K hb m1 m2
      try simp only [Act.put, List.setIfInBounds_toArray, List.set]
      refine PhaseIn.one (i := 8) (by kernel_rfl) rfl (by kernel_rfl) (fun K hK => ?_)
      unfold Oper.wpIn
      refine ⟨fun _ _ => trivial, ?_⟩
      go_simp
      have bo : Below u1.heap.size u1 (u1.alloc (.cells #[.int .i64 t.kd, .int .i64 t.k, .slice ax nx kx, .slice ay ny ky] 42)) := (Below.refl _ _).alloc (Nat.le_refl _) _
      refine hK _ _ (fun _ => (And.intro (hHeld.1.below bo) (And.intro (hHeld.2.1.below bo) (And.intro (cell_below bo hHeld.2.2.1) (And.intro (cell_below bo hHeld.2.2.2.1) (And.intro (cell_below bo hHeld.2.2.2.2.1) (cell_below bo hHeld.2.2.2.2.2))))))) ?_
      have N := hide (Rec.new u1 [.int .i64 t.kd, .int .i64 t.k, .slice ax nx kx, .slice ay ny ky] 42)
      have C2 := hide (C1.out.below bo)
      clear hK K bo hHeld
      try simp only [Act.put, List.setIfInBounds_toArray, List.set]
      obtain ⟨G', cap', u3, hrun, ho, hg, hgl, gr⟩ := run_pushT (ty := 32) (w := u1.alloc (.cells #[.int .i64 t.kd, .int .i64 t.k, .slice ax nx kx, .slice ay ny ky] 42)) (by have := C2.out.tab.own; rwa [take_len hk] at this) (by rw [C2.out.tab.len, take_len hk]) (by omega) (by have := C2.out.x.lt; omega) ⟨u1.heap.size, 0, none⟩ t.kd t.k ax nx kx ay ny ky (by rw [Addr.add_lit]; exact N.out.cell 0 _ rfl) (by rw [Addr.add_lit]; exact N.out.cell 1 _ rfl) (by rw [Addr.add_lit]; exact N.out.cell 2 _ rfl) (by rw [Addr.add_lit]; exact N.out.cell 3 _ rfl)
      have CN := hide (CopyT.next CPd.out ET.out HB1.out WX.out WY.out MM.out.1 MM.out.2 ho hg gr)
      have X3 : Hid (Rec (w.heap.size + 1 + 1) [.slice q k cap] u3) := by
        rcases C2.out.tab.q_form with ⟨e1, _, _⟩ | ⟨G, e1⟩
        · exact C2.out.x.turn (B := (u1.alloc (.cells #[.int .i64 t.kd, .int .i64 t.k, .slice ax nx kx, .slice ay ny ky] 42)).heap.size) ⟨gr.os, gr.tape, gr.output, gr.size, fun j hj _ => gr.block j hj (by rw [e1]; simp [Value.ownBlock])⟩ (by have := C2.out.x.lt; omega)
        · have := (C2.out.tab.q_lt e1).1
          subst e1
          exact C2.out.x.turn (B := G) (Turn.of_grown gr) (by omega)
      clear ho hg hgl gr CPd HB1 WX WY MM C1 C2 N
      refine PhaseIn.one (i := 9) (by kernel_rfl) rfl (by kernel_rfl) (fun K hK => ?_)
      refine push_in _ _ rfl rfl rfl hrun (hK _ _ (fun h => absurd h (by omega)) ?_)
      clear hK K hrun
      try simp only [Act.put, List.setIfInBounds_toArray, List.set]
      refine PhaseIn.late (i := 10) (v := ?_) (by kernel_rfl) rfl 23 (by rfl) (by omega) (Or.inl ⟨by kernel_rfl, ?_⟩) ?_
      rotate_left
      · intro w' hSw
        go_simp
        first | done | with_reducible rfl
      try simp only [Act.put, List.setIfInBounds_toArray, List.set]
      have x0 := X3.out.cell 0 _ rfl
      have s0 := X3.out.soft 0
      refine PhaseIn.one (i := 11) (by kernel_rfl) rfl (by kernel_rfl) (fun K hK => ?_)
      unfold Oper.wpIn
      refine ⟨fun _ _ => trivial, ?_⟩
      go_simp
      refine hK _ _ (fun h => absurd h (by omega)) ?_
      clear hK K x0 s0 X3
      try simp only [Act.put, List.setIfInBounds_toArray, List.set]
      generalize u3.setCell ⟨w.heap.size + 1 + 1, 0, none⟩ (.slice (some ⟨G', 0, none⟩) (k + 1) cap') = u4 at CN ⊢
      refine PhaseIn.done (by kernel_rfl) ?_ _
      go_wp2
      exact ⟨⟨k + 1, by omega, by go_num, ⟨_, _, _, _, _, _, CN.out⟩⟩, by simp [intOf]; omega⟩
end Go.Proofs.Ytagfgbkclopoeaa.Tab
