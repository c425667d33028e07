/-
  The specification's l5Copy: atoms in new memory.
  One atom more: the specification's l5Put and TabPut.
-/
import Derived.Test.YtggilenddbobnaaGreatAl
import Derived.Test.YtggilenddbobnaaGreatJ15
namespace Go.Proofs.YtggilenddbobnaaGreat.Tab
set_option linter.unusedVariables false
set_option linter.unusedSimpArgs false
open Go.ChangeShapes Go.WideShapes Go.ChangeAt Go.RowKit IntS Pol Push
theorem OTab.mono {w : World} {lo lo' cap : Nat} {q : Option Addr} {cs : List C4} {l m h : Nat → Nat} {ts : List At} (H : OTab w lo q cap cs l m h ts) (hl : lo' ≤ lo) : OTab w lo' q cap cs l m h ts := by
 refine ⟨owns_mono H.own hl, H.len, fun i t hi => ?_, H.inc⟩
 obtain ⟨sx, sy, k1, k2, k3, k4, r⟩ := H.rows i t hi
 exact ⟨sx, sy, k1, k2, k3, Nat.le_trans hl k4, r⟩
set_option maxRecDepth 8000 in
set_option maxHeartbeats 8000000 in
theorem l5Copy (ts : List At) (B : Nat) (v : Value) (w : World) (h : TRow w B v ts) (hf : ∀ t ∈ ts, FineA t) (hl : ts.length ≤ 1000) :
 Calls Tryz.prog 22 #[.agg #[v]] w fun e w' => ∃ q cap cs l m h, e = .returned (.agg #[.slice q ts.length cap]) ∧ OTab w' w.heap.size q cap cs l m h ts ∧ Below w.heap.size w w' := by
 have T := Three.new w [v] [.slice none 0 0] [.slice none 0 0] 32 32 32
 have C0 : Hid (CopyT w v ts 0 none 0 [] (fun _ => 0) (fun _ => 0) (fun _ => 0) (((w.alloc (.cells #[v] 32)).alloc (.cells #[.slice none 0 0] 32)).alloc (.cells #[.slice none 0 0] 32))) := ⟨T.a, T.z, T.o, OTab.nil _ _, T.bw⟩
 have HF := hide hf
 obtain ⟨a, cap0, off, rfl, h2, h3, _, h4⟩ := h
 have H4 := hide h4
 unfold maxLen at h3
 clear T hf h4
 go_enter Tryz.func22, Tryz.ntmps22
 go_wp2
 generalize (((w.alloc (.cells #[.slice a ts.length cap0] 32)).alloc (.cells #[.slice none 0 0] 32)).alloc (.cells #[.slice none 0 0] 32)) = V at C0 ⊢
 go_loopw [4] (fun i wr => ∃ k : Nat, k ≤ ts.length ∧ i = .int .i64 k ∧ Hid (∃ q cap cs l m h, CopyT w (.slice a ts.length cap0) ts k q cap cs l m h wr)) (fun i _ => ts.length - (intOf i).toNat)
 case atStart => exact ⟨0, by omega, rfl, ⟨_, _, _, _, _, _, C0.out⟩⟩
 case round =>
  obtain ⟨k, hk, rfl, HC⟩ := hrel
  obtain ⟨q, cap, cs, l, m, hh, CP0⟩ := HC.out
  have CP := hide CP0
  clear CP0 HC C0
  by_cases hlt : k < ts.length
  case neg =>
   obtain rfl : k = ts.length := by omega
   have x0 := CP.out.x.cell 0 _ rfl
   have a0 := CP.out.a.cell 0 _ rfl
   have z0 := CP.out.z.cell 0 _ rfl
   have s0 := CP.out.z.soft 0
   have T1 : Turn (w.heap.size + 1) wr (wr.setCell ⟨w.heap.size + 1, 0, none⟩ (.slice q ts.length cap)) := (Turn.refl _ wr).setCell (p := ⟨w.heap.size + 1, 0, none⟩) rfl _
   have B0 := hide (CP.out.bw.trans (T1.below (by omega) CP.out.bw.size))
   have Z0 := hide (CP.out.z.set 0 (.slice q ts.length cap) (by simp) rfl)
   have W0 := CP.out.tab.turn T1 (Or.inl (by omega))
   rw [List.take_length] at W0
   have W1 := hide (W0.mono (lo' := w.heap.size) (by omega))
   clear W0 T1
   go_wp2
   generalize wr.setCell ⟨w.heap.size + 1, 0, none⟩ (.slice q ts.length cap) = U at B0 Z0 W1 ⊢
   have z1 := Z0.out.cell 0 _ rfl
   exact bodyPost_ret (v := .agg #[.slice q ts.length cap]) (by simp [results, Tryz.results22, go_sem, z1]) rfl ⟨q, cap, cs, l, m, hh, rfl, W1.out, B0.out⟩
  · obtain ⟨t, et⟩ : ∃ t, ts[k]? = some t := ⟨_, List.getElem?_eq_getElem hlt⟩
    obtain ⟨rfl, hc⟩ := H4.out.resolve_left (fun e => by rw [e] at et; simp at et)
    obtain ⟨c0, c1, qx, cx, bx, qy, cy, b, c2, px, c3, py⟩ := (hc k t et).below CP.out.bw
    have FA := hide (HF.out t (List.mem_of_getElem? et))
    have ET := hide et
    have lk : ((k : Nat) : Int) < (ts.length : Nat) := by omega
    clear et hc
    have a0 := CP.out.a.cell 0 _ rfl
    have bA : Below wr.heap.size wr wr.drew := (Below.refl _ _).drew
    go_wp2_with fail
    have CPd := hide (CP.out.below bA)
    have PX := hide (px.below bA)
    have PY := hide (py.below bA)
    have C4 : Hid (wr.drew.cell? ⟨B, off + k * 4, none⟩ = some (.int .i64 t.kd) ∧ wr.drew.cell? ⟨B, off + k * 4 + 1, none⟩ = some (.int .i64 t.k) ∧ wr.drew.cell? ⟨B, off + k * 4 + 2, none⟩ = some (.slice qx t.x.length cx) ∧ wr.drew.cell? ⟨B, off + k * 4 + 3, none⟩ = some (.slice qy t.y.length cy)) := ⟨c0, c1, c2, c3⟩
    refine (wpIn_wide (n := 0)).1 ?_
    refine PhaseIn.region (S := fun w' => Rec (w.heap.size + 1 + 1) [.slice q k cap] w' ∧ Rec w.heap.size [.slice (some ⟨B, off, none⟩) ts.length cap0] w' ∧ w'.cell? ⟨B, off + k * 4, none⟩ = some (.int .i64 t.kd) ∧ w'.cell? ⟨B, off + k * 4 + 1, none⟩ = some (.int .i64 t.k) ∧ w'.cell? ⟨B, off + k * 4 + 2, none⟩ = some (.slice qx t.x.length cx) ∧ w'.cell? ⟨B, off + k * 4 + 3, none⟩ = some (.slice qy t.y.length cy)) 9 (by kernel_rfl) ?_
    generalize wr.drew = d1 at CPd PX PY C4 ⊢
    have hHeld := And.intro CPd.out.x (And.intro CPd.out.a C4.out)
    clear bA a0 c0 c1 c2 c3 px py CP C4
    refine PhaseIn.takeE (i := 0) (v := ?_) [0, 1, 9, 10, 11] 13 rfl (by rfl) (by kernel_rfl) (fun _ _ _ h => h) (Or.inl ⟨by kernel_rfl, ?_⟩) hHeld ?_
    rotate_left
    · intro w' hSw
      (try dsimp only at hSw)
      go_simp
      first | done | with_reducible rfl
    try simp only [Act.put, sA, List.set]
    refine PhaseIn.takeE (i := 1) (v := ?_) [1, 9, 10, 11] 14 rfl (by rfl) (by kernel_rfl) (fun _ _ _ h => h) (Or.inl ⟨by kernel_rfl, ?_⟩) hHeld ?_
    rotate_left
    · intro w' hSw
      (try dsimp only at hSw)
      have z0 := hSw.1.cell 0 _ rfl
      go_simp
      first | done | with_reducible rfl
    try simp only [Act.put, sA, List.set]
    refine PhaseIn.takeE (i := 2) (v := ?_) [2, 3, 5, 6, 7, 8, 9, 10, 11] 15 rfl (by rfl) (by kernel_rfl) (fun _ _ _ h => h) (Or.inl ⟨by kernel_rfl, ?_⟩) hHeld ?_
    rotate_left
    · intro w' hSw
      (try dsimp only at hSw)
      go_simp
      first | done | with_reducible rfl
    try simp only [Act.put, sA, List.set]
    refine PhaseIn.takeE (i := 3) (v := ?_) [3, 5, 6, 7, 8, 9, 10, 11] 16 rfl (by rfl) (by kernel_rfl) (fun _ _ _ h => h) (Or.inl ⟨by kernel_rfl, ?_⟩) hHeld ?_
    rotate_left
    · intro w' hSw
      (try dsimp only at hSw)
      have z0 := hSw.2.1.cell 0 _ rfl
      go_simp
      first | done | with_reducible rfl
    try simp only [Act.put, sA, List.set]
    refine PhaseIn.takeE (i := 4) (v := ?_) [4, 5, 6, 7, 8, 9, 10, 11] 17 rfl (by rfl) (by kernel_rfl) (fun _ _ _ h => h) (Or.inl ⟨by kernel_rfl, ?_⟩) hHeld ?_
    rotate_left
    · intro w' hSw
      (try dsimp only at hSw)
      go_simp
      first | done | with_reducible rfl
    try simp only [Act.put, sA, List.set]
    refine PhaseIn.takeE (i := 5) (v := ?_) [5, 6, 7, 8, 9, 10, 11] 18 rfl (by rfl) (by kernel_rfl) (fun _ _ _ h => h) (Or.inl ⟨by kernel_rfl, ?_⟩) hHeld ?_
    rotate_left
    · intro w' hSw
      (try dsimp only at hSw)
      go_simp
      first | done | with_reducible rfl
    try simp only [Act.put, sA, List.set]
    refine PhaseIn.takeE (i := 6) (v := ?_) [6, 7, 8, 9, 10, 11] 19 rfl (by rfl) (by kernel_rfl) (fun _ _ _ h => h) (Or.inl ⟨by kernel_rfl, ?_⟩) hHeld ?_
    rotate_left
    · intro w' hSw
      (try dsimp only at hSw)
      obtain ⟨_, _, z0, z1, z2, z3⟩ := hSw
      go_simp
      first | done | with_reducible rfl
    try simp only [Act.put, sA, List.set]
    refine PhaseIn.one (i := 7) (by kernel_rfl) rfl (by kernel_rfl) (fun K hK => ?_)
    unfold Oper.wpIn
    refine ⟨fun _ _ => trivial, ?_⟩
    go_simp
    refine ⟨rfl, (callsIn_wide.2 (l5Twin t qx cx qy cy bx b _ PX.out PY.out FA.out)).mono ?_⟩
    rintro e u1 ⟨ax, nx, kx, ay, ny, ky, mid, rfl, WX, WY, m1, m2, hb⟩
    refine hK _ _ (fun _ => (And.intro (hHeld.1.below hb) (And.intro (hHeld.2.1.below hb) (And.intro (cell_below hb hHeld.2.2.1) (And.intro (cell_below hb hHeld.2.2.2.1) (And.intro (cell_below hb hHeld.2.2.2.2.1) (cell_below hb hHeld.2.2.2.2.2))))))) ?_
    replace hHeld := (And.intro (hHeld.1.below hb) (And.intro (hHeld.2.1.below hb) (And.intro (cell_below hb hHeld.2.2.1) (And.intro (cell_below hb hHeld.2.2.2.1) (And.intro (cell_below hb hHeld.2.2.2.2.1) (cell_below hb hHeld.2.2.2.2.2))))))
    replace WX := hide WX
    replace WY := hide WY
    have MM := hide (And.intro m1 m2)
    have HB1 := hide hb
    have C1 := hide (CPd.out.below hb)
    clear hK K hb m1 m2
    try simp only [Act.put, sA, List.set]
    refine PhaseIn.one (i := 8) (by kernel_rfl) rfl (by kernel_rfl) (fun K hK => ?_)
    unfold Oper.wpIn
    refine ⟨fun _ _ => trivial, ?_⟩
    go_simp
    have bo : Below u1.heap.size u1 (u1.alloc (.cells #[.int .i64 t.kd, .int .i64 t.k, .slice ax nx kx, .slice ay ny ky] 63)) := (Below.refl _ _).alloc (Nat.le_refl _) _
    refine hK _ _ (fun _ => (And.intro (hHeld.1.below bo) (And.intro (hHeld.2.1.below bo) (And.intro (cell_below bo hHeld.2.2.1) (And.intro (cell_below bo hHeld.2.2.2.1) (And.intro (cell_below bo hHeld.2.2.2.2.1) (cell_below bo hHeld.2.2.2.2.2))))))) ?_
    have N := hide (Rec.new u1 [.int .i64 t.kd, .int .i64 t.k, .slice ax nx kx, .slice ay ny ky] 63)
    have C2 := hide (C1.out.below bo)
    clear hK K bo hHeld
    try simp only [Act.put, sA, List.set]
    obtain ⟨G', cap', u3, hrun, ho, hg, hgl, gr⟩ := run_pushT (ty := 30) (w := u1.alloc (.cells #[.int .i64 t.kd, .int .i64 t.k, .slice ax nx kx, .slice ay ny ky] 63)) (by have := C2.out.tab.own; rwa [take_len hk] at this) (by rw [C2.out.tab.len, take_len hk]) (by omega) (by have := C2.out.x.lt; omega) ⟨u1.heap.size, 0, none⟩ t.kd t.k ax nx kx ay ny ky (by rw [Addr.add_lit]; exact N.out.cell 0 _ rfl) (by rw [Addr.add_lit]; exact N.out.cell 1 _ rfl) (by rw [Addr.add_lit]; exact N.out.cell 2 _ rfl) (by rw [Addr.add_lit]; exact N.out.cell 3 _ rfl)
    have CN := hide (CopyT.next CPd.out ET.out HB1.out WX.out WY.out MM.out.1 MM.out.2 ho hg gr)
    have X3 : Hid (Rec (w.heap.size + 1 + 1) [.slice q k cap] u3) := by
     rcases C2.out.tab.q_form with ⟨e1, _, _⟩ | ⟨G, e1⟩
     · exact C2.out.x.turn (B := (u1.alloc (.cells #[.int .i64 t.kd, .int .i64 t.k, .slice ax nx kx, .slice ay ny ky] 63)).heap.size) ⟨gr.os, gr.tape, gr.output, gr.size, fun j hj _ => gr.block j hj (by rw [e1]; simp [Value.ownBlock])⟩ (by have := C2.out.x.lt; omega)
     · have := (C2.out.tab.q_lt e1).1
       subst e1
       exact C2.out.x.turn (B := G) (Turn.of_grown gr) (by omega)
    clear ho hg hgl gr CPd HB1 WX WY MM C1 C2 N
    refine PhaseIn.one (i := 9) (by kernel_rfl) rfl (by kernel_rfl) (fun K hK => ?_)
    refine push_in _ _ rfl rfl rfl hrun (hK _ _ (fun h => absurd h (by omega)) ?_)
    clear hK K hrun
    try simp only [Act.put, sA, List.set]
    refine PhaseIn.late (i := 10) (v := ?_) (by kernel_rfl) rfl 23 (by rfl) (by omega) (Or.inl ⟨by kernel_rfl, ?_⟩) ?_
    rotate_left
    · intro w' hSw
      go_simp
      first | done | with_reducible rfl
    try simp only [Act.put, sA, List.set]
    have x0 := X3.out.cell 0 _ rfl
    have s0 := X3.out.soft 0
    refine PhaseIn.one (i := 11) (by kernel_rfl) rfl (by kernel_rfl) (fun K hK => ?_)
    unfold Oper.wpIn
    refine ⟨fun _ _ => trivial, ?_⟩
    go_simp
    refine hK _ _ (fun h => absurd h (by omega)) ?_
    clear hK K x0 s0 X3
    try simp only [Act.put, sA, List.set]
    generalize u3.setCell ⟨w.heap.size + 1 + 1, 0, none⟩ (.slice (some ⟨G', 0, none⟩) (k + 1) cap') = u4 at CN ⊢
    refine PhaseIn.done (by kernel_rfl) ?_ _
    go_wp2
    exact ⟨⟨k + 1, by omega, by go_num, ⟨_, _, _, _, _, _, CN.out⟩⟩, by simp [intOf]; omega⟩
end Go.Proofs.YtggilenddbobnaaGreat.Tab
namespace Go.Proofs.YtggilenddbobnaaGreat.Tab
set_option linter.unusedVariables false
set_option linter.unusedSimpArgs false
open Go.ChangeShapes Go.WideShapes Go.ChangeAt Go.RowKit IntS Pol Push
/-- Whether an atom is there. -/
def thereB (ts : List At) (a : At) : Bool := ts.any fun s => sameB s a
def putT (ts : List At) (a : At) : List At := if atomB a ts.length = true ∧ thereB ts a = false ∧ ts.length ≠ 200 then ts ++ [a] else ts
def putN (ts : List At) (a : At) : Int := if atomB a ts.length = true then (if thereB ts a = true then (ts.findIdx fun s => sameB s a) else if ts.length = 200 then -1 else ts.length) else -1
theorem put_bad {ts : List At} {a : At} (h : atomB a ts.length = false) : putT ts a = ts ∧ putN ts a = -1 := by
 unfold putT putN
 rw [h]
 simp
theorem put_there {ts : List At} {a s : At} {k : Nat} (h : atomB a ts.length = true) (hs : ts[k]? = some s) (he : sameB s a = true) (hno : ∀ (j : Nat) s', j < k → ts[j]? = some s' → sameB s' a = false) : putT ts a = ts ∧ putN ts a = k := by
 have ht : thereB ts a = true := List.any_eq_true.2 ⟨s, List.mem_of_getElem? hs, he⟩
 obtain ⟨hk, rfl⟩ := List.getElem?_eq_some_iff.1 hs
 have hi : (ts.findIdx fun s => sameB s a) = k := by
  refine (List.findIdx_eq hk).2 ⟨he, fun j hj => ?_⟩
  exact hno j _ hj (List.getElem?_eq_getElem (by omega))
 unfold putT putN
 rw [h, ht, hi]
 simp
theorem there_no {ts : List At} {a : At} (hno : ∀ (j : Nat) s', j < ts.length → ts[j]? = some s' → sameB s' a = false) : thereB ts a = false := by
 unfold thereB
 rw [List.any_eq_false]
 intro s hs
 obtain ⟨j, hj⟩ := List.getElem?_of_mem hs
 rw [hno j s (List.getElem?_eq_some_iff.1 hj).1 hj]
 decide
theorem put_full {ts : List At} {a : At} (h : atomB a ts.length = true) (hno : thereB ts a = false) (hl : ts.length = 200) : putT ts a = ts ∧ putN ts a = -1 := by
 unfold putT putN
 rw [h, hno, hl]
 simp
theorem put_new {ts : List At} {a : At} (h : atomB a ts.length = true) (hno : thereB ts a = false) (hl : ts.length ≠ 200) : putT ts a = ts ++ [a] ∧ putN ts a = ts.length := by
 unfold putT putN
 rw [h, hno]
 simp [hl]
theorem OTab.apart {w w' : World} {lo cap T : Nat} {q : Option Addr} {cs : List C4} {l m h : Nat → Nat} {ts : List At} (H : OTab w lo q cap cs l m h ts) (ht : Turn T w w') (hG : ∀ G, q = some ⟨G, 0, none⟩ → G ≠ T) (hR : ∀ i, i < ts.length → T < l i ∨ h i ≤ T) : OTab w' lo q cap cs l m h ts := by
 refine ⟨?_, H.len, fun i t hi => ?_, H.inc⟩
 · obtain ⟨h1, h0 | ⟨g, cap', cur, hv, hb, hh, rest⟩⟩ := H.own
   · exact ⟨h1, Or.inl h0⟩
   · have hg : g < w.heap.size := by rcases Nat.lt_or_ge g w.heap.size with h' | h'; exact h'; rw [Array.getElem?_eq_none h'] at hh; cases hh
     injection hv with e1 e2 e3
     exact ⟨h1, Or.inr ⟨g, cap', cur, by rw [e1, e2, e3], hb, (ht.block g hg (hG g e1)).trans hh, rest⟩⟩
 · obtain ⟨sx, sy, k1, k2, k3, k4, k5, k6, k7, k8⟩ := H.rows i t hi
   have := hR i (List.getElem?_eq_some_iff.1 hi).1
   exact ⟨sx, sy, k1, k2.keep (Keep.of_turn ht) (fun b h1 h2 (h3 : b = _) => by omega), k3.keep (Keep.of_turn ht) (fun b h1 h2 (h3 : b = _) => by omega), k4, k5, k6, Nat.le_trans k7 ht.size, k8⟩
theorem OTab.hi {w : World} {lo cap : Nat} {q : Option Addr} {cs : List C4} {l m h : Nat → Nat} {ts : List At} (H : OTab w lo q cap cs l m h ts) {i : Nat} (hi : i < ts.length) : h i ≤ w.heap.size := by
 obtain ⟨sx, sy, k1, k2, k3, k4, k5, k6, k7, k8⟩ := H.rows i _ (List.getElem?_eq_getElem hi)
 exact k7
/-- A block that is none of a table's. -/
def Away (b : Nat) (q : Option Addr) (l h : Nat → Nat) (n : Nat) : Prop := (∀ G, q = some ⟨G, 0, none⟩ → G ≠ b) ∧ ∀ i, i < n → b < l i ∨ h i ≤ b
def putP (ts : List At) (a : At) : List At := if tabB ts = true then putT ts a else []
def putK (ts : List At) (a : At) : Int := if tabB ts = true then putN ts a else -1
set_option maxRecDepth 8000 in
set_option maxHeartbeats 16000000 in
theorem l5Put (ts : List At) (a : At) (lo cap : Nat) (q : Option Addr) (cs : List C4) (l m hh : Nat → Nat) (qx : Option Addr) (cx : Nat) (qy : Option Addr) (cy bx b : Nat) (w : World) (H : OTab w lo q cap cs l m hh ts) (hlo : lo ≤ w.heap.size) (hx : PRow w bx (.slice qx a.x.length cx) a.x) (hy : PRow w b (.slice qy a.y.length cy) a.y) (hl : ts.length ≤ 200) :
 Calls Tryz.prog 48 #[.agg #[.slice q ts.length cap], .agg #[.int .i64 a.kd, .int .i64 a.k, .slice qx a.x.length cx, .slice qy a.y.length cy]] w fun e w' => ∃ q' cap' cs' l' m' h', e = .returned (.tuple #[.agg #[.slice q' (putT ts a).length cap'], .int .i64 (putN ts a)]) ∧ OTab w' lo q' cap' cs' l' m' h' (putT ts a) ∧ Keep (fun b => q = some ⟨b, 0, none⟩) w w' ∧ ∀ b', b' < w.heap.size → Away b' q l hh ts.length → Away b' q' l' h' (putT ts a).length := by
 have T := Three.new w [.slice q ts.length cap] [.int .i64 a.kd, .int .i64 a.k, .slice qx a.x.length cx, .slice qy a.y.length cy] [.slice none 0 0] 32 63 32
 have bn : Below w.heap.size w (((w.alloc (.cells #[.slice q ts.length cap] 32)).alloc (.cells #[.int .i64 a.kd, .int .i64 a.k, .slice qx a.x.length cx, .slice qy a.y.length cy] 63)).alloc (.cells #[.slice none 0 0] 32)) := T.bw
 obtain ⟨B, hT⟩ := H.read
 have hmx : ∃ cc, (cap = cc) ∧ ts.length ≤ cc ∧ cc ≤ maxLen := by
  obtain ⟨_, _, _, e, e2, e3, _⟩ := hT
  injection e with _ _ e4
  exact ⟨_, e4, e2, e3⟩
 obtain ⟨_, rfl, h2, h3⟩ := hmx
 unfold maxLen at h3
 have HT := hide (H.below bn)
 have TR := hide (hT.below bn)
 have HX := hide (hx.below bn)
 have HY := hide (hy.below bn)
 have T3 := hide T
 have HH : Hid (∀ i, i < ts.length → hh i ≤ w.heap.size) := fun i hi => H.hi hi
 have HG : Hid (∀ G, q = some ⟨G, 0, none⟩ → lo ≤ G ∧ G < w.heap.size) := fun G e => H.q_lt e
 clear T bn hx hy hT H
 go_enter Tryz.func48, Tryz.ntmps48
 go_wp2_with fail
 generalize (((w.alloc (.cells #[.slice q ts.length cap] 32)).alloc (.cells #[.int .i64 a.kd, .int .i64 a.k, .slice qx a.x.length cx, .slice qy a.y.length cy] 63)).alloc (.cells #[.slice none 0 0] 32)) = V at T3 HT TR HX HY ⊢
 have t0 := T3.out.a.cell 0 _ rfl
 have a0 := T3.out.z.cell 0 _ rfl
 have a1 := T3.out.z.cell 1 _ rfl
 have a2 := T3.out.z.cell 2 _ rfl
 have a3 := T3.out.z.cell 3 _ rfl
 go_wp2_with fail
 refine (l5Atom a (ts.length : Int) qx cx qy cy bx b _ HX.out HY.out).mono ?_
 rintro e u1 ⟨rfl, hb⟩
 clear t0 a0 a1 a2 a3
 replace T3 := hide (T3.out.below hb)
 replace HT := hide (HT.out.below hb)
 replace TR := hide (TR.out.below hb)
 replace HX := hide (HX.out.below hb)
 replace HY := hide (HY.out.below hb)
 clear hb
 by_cases e1 : atomB a ts.length = true
 case neg =>
  rw [Bool.not_eq_true] at e1
  have PE := hide (put_bad e1)
  rw [e1]
  clear e1
  have t0 := T3.out.a.cell 0 _ rfl
  have o0 := T3.out.o.cell 0 _ rfl
  have s0 := T3.out.o.soft 0
  have TN : Turn (w.heap.size + 1 + 1) u1 (u1.setCell ⟨w.heap.size + 1 + 1, 0, none⟩ (.slice q ts.length cap)) := (Turn.refl _ u1).setCell (p := ⟨w.heap.size + 1 + 1, 0, none⟩) rfl _
  have ZF := hide (T3.out.o.set 0 (.slice q ts.length cap) (by simp) rfl)
  have BF : Hid (Keep (fun b => q = some ⟨b, 0, none⟩) w (u1.setCell ⟨w.heap.size + 1 + 1, 0, none⟩ (.slice q ts.length cap))) := Keep.of_below (T3.out.bw.trans (TN.below (by omega) T3.out.bw.size))
  have OF := hide (HT.out.apart TN (fun G e => by have := (HG.out G e).2; omega) (fun i hi => Or.inr (by have := HH.out i hi; omega)))
  clear TN T3 HT TR HX HY
  go_wp2
  generalize u1.setCell ⟨w.heap.size + 1 + 1, 0, none⟩ (.slice q ts.length cap) = y9 at ZF BF OF ⊢
  have z9 := ZF.out.cell 0 _ rfl
  rw [PE.out.1, PE.out.2]
  first | exact bodyPost_ret (v := .tuple #[.agg #[.slice q ts.length cap], .int .i64 (-1)]) (by simp [results, Tryz.results48, go_sem, z9]) rfl ⟨q, cap, cs, l, m, hh, rfl, OF.out, BF.out, fun _ _ h => h⟩ | exact bodyPost_ret (v := .tuple #[.agg #[.slice q ts.length cap], .int .i64 (-1)]) (by simp [results, Tryz.results48, go_sem, z9]) rfl ⟨q, cap, rfl, cs, l, m, hh, OF.out, BF.out, fun _ _ h => h⟩
 have E1 := hide e1
 rw [e1]
 clear e1
 go_wp2
 go_loopw [6] (fun i wr => ∃ k : Nat, k ≤ ts.length ∧ i = .int .i64 k ∧ Hid (∀ (j : Nat) s, j < k → ts[j]? = some s → sameB s a = false) ∧ Hid (Below u1.heap.size u1 wr)) (fun i _ => ts.length - (intOf i).toNat)
 case atStart => exact ⟨0, by omega, rfl, (fun j s hj _ => absurd hj (by omega)), Below.refl _ _⟩
 case round =>
  obtain ⟨k, hk, rfl, HN, HB⟩ := hrel
  replace T3 := hide (T3.out.below HB.out)
  replace HT := hide (HT.out.below HB.out)
  replace TR := hide (TR.out.below HB.out)
  replace HX := hide (HX.out.below HB.out)
  replace HY := hide (HY.out.below HB.out)
  have t0 := T3.out.a.cell 0 _ rfl
  by_cases hlt : k < ts.length
  · obtain ⟨s, et⟩ : ∃ s, ts[k]? = some s := ⟨_, List.getElem?_eq_getElem hlt⟩
    have TR2 := TR.out
    obtain ⟨q0, cap0, off, e0, _, _, _, h4⟩ := TR2
    injection e0 with e01 _ e03
    subst e01 e03
    obtain ⟨rfl, hc⟩ := h4.resolve_left (fun e => by rw [e] at et; simp at et)
    obtain ⟨c0, c1, qx', cx', bx', qy', cy', b', c2, px, c3, py⟩ := hc k s et
    have ET := hide et
    have lk : ((k : Nat) : Int) < (ts.length : Nat) := by omega
    clear et hc
    have bA : Below wr.heap.size wr wr.drew := (Below.refl _ _).drew
    go_wp2_with fail
    have PX := hide (px.below bA)
    have PY := hide (py.below bA)
    have C4 : Hid (wr.drew.cell? ⟨B, off + k * 4, none⟩ = some (.int .i64 s.kd) ∧ wr.drew.cell? ⟨B, off + k * 4 + 1, none⟩ = some (.int .i64 s.k) ∧ wr.drew.cell? ⟨B, off + k * 4 + 2, none⟩ = some (.slice qx' s.x.length cx') ∧ wr.drew.cell? ⟨B, off + k * 4 + 3, none⟩ = some (.slice qy' s.y.length cy')) := ⟨c0, c1, c2, c3⟩
    have HB1 := hide (HB.out.trans (bA.mono HB.out.size))
    replace T3 := hide (T3.out.below bA)
    replace HT := hide (HT.out.below bA)
    replace TR := hide (TR.out.below bA)
    replace HX := hide (HX.out.below bA)
    replace HY := hide (HY.out.below bA)
    refine (wpIn_wide (n := 0)).1 ?_
    refine PhaseIn.region (S := fun w' => Rec w.heap.size [.slice (some ⟨B, off, none⟩) ts.length cap] w' ∧ Rec (w.heap.size + 1) [.int .i64 a.kd, .int .i64 a.k, .slice qx a.x.length cx, .slice qy a.y.length cy] w' ∧ w'.cell? ⟨B, off + k * 4, none⟩ = some (.int .i64 s.kd) ∧ w'.cell? ⟨B, off + k * 4 + 1, none⟩ = some (.int .i64 s.k) ∧ w'.cell? ⟨B, off + k * 4 + 2, none⟩ = some (.slice qx' s.x.length cx') ∧ w'.cell? ⟨B, off + k * 4 + 3, none⟩ = some (.slice qy' s.y.length cy')) 7 (by kernel_rfl) ?_
    generalize wr.drew = d1 at T3 HT TR HX HY PX PY C4 HB1 ⊢
    have hHeld := And.intro T3.out.a (And.intro T3.out.z C4.out)
    clear bA t0 c0 c1 c2 c3 px py C4 HB
    refine PhaseIn.takeE (i := 0) (v := ?_) [0, 1, 3, 4, 6] 21 rfl (by rfl) (by kernel_rfl) (fun _ _ _ h => h) (Or.inl ⟨by kernel_rfl, ?_⟩) hHeld ?_
    rotate_left
    · intro w' hSw
      (try dsimp only at hSw)
      go_simp
      first | done | with_reducible rfl
    try simp only [Act.put, sA, List.set]
    refine PhaseIn.takeE (i := 1) (v := ?_) [1, 3, 4, 6] 22 rfl (by rfl) (by kernel_rfl) (fun _ _ _ h => h) (Or.inl ⟨by kernel_rfl, ?_⟩) hHeld ?_
    rotate_left
    · intro w' hSw
      (try dsimp only at hSw)
      have z0 := hSw.1.cell 0 _ rfl
      go_simp
      first | done | with_reducible rfl
    try simp only [Act.put, sA, List.set]
    refine PhaseIn.takeE (i := 2) (v := ?_) [2, 3, 4, 6] 23 rfl (by rfl) (by kernel_rfl) (fun _ _ _ h => h) (Or.inl ⟨by kernel_rfl, ?_⟩) hHeld ?_
    rotate_left
    · intro w' hSw
      (try dsimp only at hSw)
      go_simp
      first | done | with_reducible rfl
    try simp only [Act.put, sA, List.set]
    refine PhaseIn.takeE (i := 3) (v := ?_) [3, 4, 6] 24 rfl (by rfl) (by kernel_rfl) (fun _ _ _ h => h) (Or.inl ⟨by kernel_rfl, ?_⟩) hHeld ?_
    rotate_left
    · intro w' hSw
      (try dsimp only at hSw)
      go_simp
      first | done | with_reducible rfl
    try simp only [Act.put, sA, List.set]
    refine PhaseIn.takeE (i := 4) (v := ?_) [4, 6] 25 rfl (by rfl) (by kernel_rfl) (fun _ _ _ h => h) (Or.inl ⟨by kernel_rfl, ?_⟩) hHeld ?_
    rotate_left
    · intro w' hSw
      (try dsimp only at hSw)
      obtain ⟨_, _, z0, z1, z2, z3⟩ := hSw
      go_simp
      first | done | with_reducible rfl
    try simp only [Act.put, sA, List.set]
    refine PhaseIn.takeE (i := 5) (v := ?_) [5, 6] 26 rfl (by rfl) (by kernel_rfl) (fun _ _ _ h => h) (Or.inl ⟨by kernel_rfl, ?_⟩) hHeld ?_
    rotate_left
    · intro w' hSw
      (try dsimp only at hSw)
      have z0 := hSw.2.1.cell 0 _ rfl; have z1 := hSw.2.1.cell 1 _ rfl; have z2 := hSw.2.1.cell 2 _ rfl; have z3 := hSw.2.1.cell 3 _ rfl
      go_simp
      first | done | with_reducible rfl
    try simp only [Act.put, sA, List.set]
    refine PhaseIn.one (i := 6) (by kernel_rfl) rfl (by kernel_rfl) (fun K hK => ?_)
    unfold Oper.wpIn
    refine ⟨fun _ _ => trivial, ?_⟩
    go_simp
    refine ⟨rfl, (callsIn_wide.2 (l5Same s a qx' qx cx' cx qy' qy cy' cy bx' bx b' b _ PX.out PY.out HX.out HY.out)).mono ?_⟩
    rintro e u2 ⟨rfl, hb⟩
    refine hK _ _ (fun _ => And.intro (hHeld.1.below hb) (And.intro (hHeld.2.1.below hb) (And.intro (cell_below hb hHeld.2.2.1) (And.intro (cell_below hb hHeld.2.2.2.1) (And.intro (cell_below hb hHeld.2.2.2.2.1) (cell_below hb hHeld.2.2.2.2.2)))))) ?_
    replace T3 := hide (T3.out.below hb)
    replace HT := hide (HT.out.below hb)
    replace TR := hide (TR.out.below hb)
    replace HX := hide (HX.out.below hb)
    replace HY := hide (HY.out.below hb)
    have HB2 := hide (HB1.out.trans (hb.mono HB1.out.size))
    clear hK K hb hHeld HB1 PX PY
    try simp only [Act.put, sA, List.set]
    refine PhaseIn.done (by kernel_rfl) ?_ _
    by_cases eb : sameB s a = true
    · have PE := hide (put_there E1.out ET.out eb HN.out)
      rw [eb]
      clear eb HN E1 ET
      have t0 := T3.out.a.cell 0 _ rfl
      have o0 := T3.out.o.cell 0 _ rfl
      have s0 := T3.out.o.soft 0
      have TN : Turn (w.heap.size + 1 + 1) u2 (u2.setCell ⟨w.heap.size + 1 + 1, 0, none⟩ (.slice (some ⟨B, off, none⟩) ts.length cap)) := (Turn.refl _ u2).setCell (p := ⟨w.heap.size + 1 + 1, 0, none⟩) rfl _
      have ZF := hide (T3.out.o.set 0 (.slice (some ⟨B, off, none⟩) ts.length cap) (by simp) rfl)
      have BF : Hid (Keep (fun b => some (⟨B, off, none⟩ : Addr) = some ⟨b, 0, none⟩) w (u2.setCell ⟨w.heap.size + 1 + 1, 0, none⟩ (.slice (some ⟨B, off, none⟩) ts.length cap))) := Keep.of_below (T3.out.bw.trans (TN.below (by omega) T3.out.bw.size))
      have OF := hide (HT.out.apart TN (fun G e => by have := (HG.out G e).2; omega) (fun i hi => Or.inr (by have := HH.out i hi; omega)))
      clear TN T3 HT TR HX HY
      go_wp2
      generalize u2.setCell ⟨w.heap.size + 1 + 1, 0, none⟩ (.slice (some ⟨B, off, none⟩) ts.length cap) = y9 at ZF BF OF ⊢
      have z9 := ZF.out.cell 0 _ rfl
      rw [PE.out.1, PE.out.2]
      exact bodyPost_ret (v := .tuple #[.agg #[.slice (some ⟨B, off, none⟩) ts.length cap], .int .i64 (k : Int)]) (by simp [results, Tryz.results48, go_sem, z9]) rfl ⟨_, cap, cs, l, m, hh, rfl, OF.out, BF.out, fun _ _ h => h⟩
    · rw [Bool.not_eq_true] at eb
      have HN2 : Hid (∀ (j : Nat) s', j < k + 1 → ts[j]? = some s' → sameB s' a = false) := fun j s' hj hs => by
       by_cases e : j = k
       · subst e
         have := ET.out.symm.trans hs
         cases this
         exact eb
       · exact HN.out j s' (by omega) hs
      rw [eb]
      clear eb
      go_wp2
      exact ⟨⟨k + 1, by omega, by go_num, HN2, HB2⟩, by simp [intOf]; omega⟩
  · obtain rfl : k = ts.length := by omega
    have E2 : Hid (thereB ts a = false) := there_no HN.out
    have lk : ¬ ((ts.length : Nat) : Int) < (ts.length : Nat) := by omega
    clear HN
    by_cases e200 : ts.length = 200
    · have PE := hide (put_full E1.out E2.out e200)
      have f200 : (((ts.length : Nat) : Int) == 200) = true := beq_iff_eq.2 (by omega)
      clear E1 E2 e200
      have t0 := T3.out.a.cell 0 _ rfl
      have o0 := T3.out.o.cell 0 _ rfl
      have s0 := T3.out.o.soft 0
      have TN : Turn (w.heap.size + 1 + 1) wr (wr.setCell ⟨w.heap.size + 1 + 1, 0, none⟩ (.slice q ts.length cap)) := (Turn.refl _ wr).setCell (p := ⟨w.heap.size + 1 + 1, 0, none⟩) rfl _
      have ZF := hide (T3.out.o.set 0 (.slice q ts.length cap) (by simp) rfl)
      have BF : Hid (Keep (fun b => q = some ⟨b, 0, none⟩) w (wr.setCell ⟨w.heap.size + 1 + 1, 0, none⟩ (.slice q ts.length cap))) := Keep.of_below (T3.out.bw.trans (TN.below (by omega) T3.out.bw.size))
      have OF := hide (HT.out.apart TN (fun G e => by have := (HG.out G e).2; omega) (fun i hi => Or.inr (by have := HH.out i hi; omega)))
      clear TN T3 HT TR HX HY
      go_wp2
      generalize wr.setCell ⟨w.heap.size + 1 + 1, 0, none⟩ (.slice q ts.length cap) = y9 at ZF BF OF ⊢
      have z9 := ZF.out.cell 0 _ rfl
      rw [PE.out.1, PE.out.2]
      first | exact bodyPost_ret (v := .tuple #[.agg #[.slice q ts.length cap], .int .i64 (-1)]) (by simp [results, Tryz.results48, go_sem, z9]) rfl ⟨q, cap, cs, l, m, hh, rfl, OF.out, BF.out, fun _ _ h => h⟩ | exact bodyPost_ret (v := .tuple #[.agg #[.slice q ts.length cap], .int .i64 (-1)]) (by simp [results, Tryz.results48, go_sem, z9]) rfl ⟨q, cap, rfl, cs, l, m, hh, OF.out, BF.out, fun _ _ h => h⟩
    · have PE := hide (put_new E1.out E2.out e200)
      have f200 : (((ts.length : Nat) : Int) == 200) = false := beq_eq_false_iff_ne.2 (by omega)
      have FA := hide (fine_of E1.out)
      clear E1 E2 e200
      have bA : Below wr.heap.size wr wr.drew := (Below.refl _ _).drew
      go_wp2_with fail
      replace T3 := hide (T3.out.below bA)
      replace HT := hide (HT.out.below bA)
      replace HX := hide (HX.out.below bA)
      replace HY := hide (HY.out.below bA)
      refine (wpIn_wide (n := 0)).1 ?_
      refine PhaseIn.region (S := fun w' => Rec w.heap.size [.slice q ts.length cap] w' ∧ Rec (w.heap.size + 1) [.int .i64 a.kd, .int .i64 a.k, .slice qx a.x.length cx, .slice qy a.y.length cy] w') 5 (by kernel_rfl) ?_
      generalize wr.drew = d1 at T3 HT HX HY ⊢
      have hHeld := And.intro T3.out.a T3.out.z
      clear bA t0 HB TR
      refine PhaseIn.takeE (i := 0) (v := ?_) [0, 1, 5, 6, 7] 35 rfl (by rfl) (by kernel_rfl) (fun _ _ _ h => h) (Or.inl ⟨by kernel_rfl, ?_⟩) hHeld ?_
      rotate_left
      · intro w' hSw
        (try dsimp only at hSw)
        go_simp
        first | done | with_reducible rfl
      try simp only [Act.put, sA, List.set]
      refine PhaseIn.takeE (i := 1) (v := ?_) [1, 5, 6, 7] 36 rfl (by rfl) (by kernel_rfl) (fun _ _ _ h => h) (Or.inl ⟨by kernel_rfl, ?_⟩) hHeld ?_
      rotate_left
      · intro w' hSw
        (try dsimp only at hSw)
        have z0 := hSw.1.cell 0 _ rfl
        go_simp
        first | done | with_reducible rfl
      try simp only [Act.put, sA, List.set]
      refine PhaseIn.takeE (i := 2) (v := ?_) [2, 3, 4, 5, 6, 7] 37 rfl (by rfl) (by kernel_rfl) (fun _ _ _ h => h) (Or.inl ⟨by kernel_rfl, ?_⟩) hHeld ?_
      rotate_left
      · intro w' hSw
        (try dsimp only at hSw)
        have z0 := hSw.2.cell 0 _ rfl; have z1 := hSw.2.cell 1 _ rfl; have z2 := hSw.2.cell 2 _ rfl; have z3 := hSw.2.cell 3 _ rfl
        go_simp
        first | done | with_reducible rfl
      try simp only [Act.put, sA, List.set]
      refine PhaseIn.one (i := 3) (by kernel_rfl) rfl (by kernel_rfl) (fun K hK => ?_)
      unfold Oper.wpIn
      refine ⟨fun _ _ => trivial, ?_⟩
      go_simp
      refine ⟨rfl, (callsIn_wide.2 (l5Twin a qx cx qy cy bx b _ HX.out HY.out FA.out)).mono ?_⟩
      rintro e u2 ⟨ax, nx, kx, ay, ny, ky, mid, rfl, WX, WY, m1, m2, hb⟩
      refine hK _ _ (fun _ => And.intro (hHeld.1.below hb) (hHeld.2.below hb)) ?_
      replace hHeld := And.intro (hHeld.1.below hb) (hHeld.2.below hb)
      replace WX := hide WX
      replace WY := hide WY
      have MM : Hid (w.heap.size + 1 + 1 < d1.heap.size ∧ d1.heap.size ≤ mid ∧ mid ≤ u2.heap.size) := ⟨T3.out.o.lt, m1, m2⟩
      replace T3 := hide (T3.out.below hb)
      replace HT := hide (HT.out.below hb)
      clear hK K hb m1 m2
      try simp only [Act.put, sA, List.set]
      refine PhaseIn.one (i := 4) (by kernel_rfl) rfl (by kernel_rfl) (fun K hK => ?_)
      unfold Oper.wpIn
      refine ⟨fun _ _ => trivial, ?_⟩
      go_simp
      have bo : Below u2.heap.size u2 (u2.alloc (.cells #[.int .i64 a.kd, .int .i64 a.k, .slice ax nx kx, .slice ay ny ky] 63)) := (Below.refl _ _).alloc (Nat.le_refl _) _
      refine hK _ _ (fun _ => And.intro (hHeld.1.below bo) (hHeld.2.below bo)) ?_
      have N := hide (Rec.new u2 [.int .i64 a.kd, .int .i64 a.k, .slice ax nx kx, .slice ay ny ky] 63)
      replace T3 := hide (T3.out.below bo)
      replace HT := hide (HT.out.below bo)
      replace WX := hide (WX.out.below bo)
      replace WY := hide (WY.out.below bo)
      have SA : Hid ((u2.alloc (.cells #[.int .i64 a.kd, .int .i64 a.k, .slice ax nx kx, .slice ay ny ky] 63)).heap.size = u2.heap.size + 1) := by simp [Hid]
      clear hK K bo hHeld
      try simp only [Act.put, sA, List.set]
      obtain ⟨G', cap', u3, hrun, ho, hg, hgl, gr⟩ := run_pushT (ty := 30) (w := u2.alloc (.cells #[.int .i64 a.kd, .int .i64 a.k, .slice ax nx kx, .slice ay ny ky] 63)) HT.out.own HT.out.len (by omega) (by have := SA.out; have := MM.out; omega) ⟨u2.heap.size, 0, none⟩ a.kd a.k ax nx kx ay ny ky (by rw [Addr.add_lit]; exact N.out.cell 0 _ rfl) (by rw [Addr.add_lit]; exact N.out.cell 1 _ rfl) (by rw [Addr.add_lit]; exact N.out.cell 2 _ rfl) (by rw [Addr.add_lit]; exact N.out.cell 3 _ rfl)
      have ON := hide (OTab.next HT.out WX.out WY.out (by have := MM.out; omega) MM.out.2.1 MM.out.2.2 (by have := SA.out; omega) (fun i hi => by have := HH.out i hi; have := MM.out; omega) (fun G e => by have := (HG.out G e).2; have := MM.out; omega) ho hg gr)
      have GN : Hid (lo ≤ G' ∧ (G' < w.heap.size ∨ u2.heap.size < G')) := by
       have h1 := owns_lt ho
       refine ⟨h1.1, ?_⟩
       rcases hg with hg | hg
       · rcases HT.out.q_form with ⟨e1, _, _⟩ | ⟨G, e1⟩
         · rw [e1] at hg; simp [Value.ownBlock] at hg
         · have h2 := (HG.out G e1).2
           rw [e1] at hg
           simp [Value.ownBlock] at hg
           exact Or.inl (by omega)
       · exact Or.inr (by have := SA.out; omega)
      have TT : ∃ Tb, Turn Tb (u2.alloc (.cells #[.int .i64 a.kd, .int .i64 a.k, .slice ax nx kx, .slice ay ny ky] 63)) u3 ∧ (Tb < w.heap.size ∨ u2.heap.size < Tb) ∧ lo ≤ Tb ∧ (q = some ⟨Tb, 0, none⟩ ∨ w.heap.size ≤ Tb) := by
       rcases HT.out.q_form with ⟨e1, _, _⟩ | ⟨G, e1⟩
       · exact ⟨(u2.alloc (.cells #[.int .i64 a.kd, .int .i64 a.k, .slice ax nx kx, .slice ay ny ky] 63)).heap.size, ⟨gr.os, gr.tape, gr.output, gr.size, fun j hj _ => gr.block j hj (by rw [e1]; simp [Value.ownBlock])⟩, Or.inr (by have := SA.out; omega), by have := SA.out; have := MM.out; omega, Or.inr (by have := SA.out; have := MM.out; omega)⟩
       · have h2 := HG.out G e1
         subst e1
         exact ⟨G, Turn.of_grown gr, Or.inl h2.2, h2.1, Or.inl rfl⟩
      have AW : Hid (∀ b', b' < w.heap.size → Away b' q l hh ts.length → Away b' (some ⟨G', 0, none⟩) (fun i => if i < ts.length then l i else d1.heap.size) (fun i => if i < ts.length then hh i else u2.heap.size) (ts ++ [a]).length) := fun b' hb' h => by
       refine ⟨fun G e => ?_, fun i hi => ?_⟩
       · obtain rfl : G' = G := by injection e with e1; injection e1
         rcases hg with hg | hg
         · rcases HT.out.q_form with ⟨e1, _, _⟩ | ⟨G, e1⟩
           · rw [e1] at hg; simp [Value.ownBlock] at hg
           · have h3 := h.1 G e1
             rw [e1] at hg
             simp [Value.ownBlock] at hg
             omega
         · have := SA.out; have := MM.out; omega
       · by_cases e : i < ts.length
         · simp only [if_pos e]
           exact h.2 i e
         · simp only [if_neg e]
           exact Or.inl (by have := MM.out; omega)
      obtain ⟨Tb, tn, tb, tl, tq⟩ := TT
      have TA := hide (T3.out.a.turn tn (by have := MM.out; omega))
      have TO := hide (T3.out.o.turn tn (by have := MM.out; omega))
      have BW : Hid (Keep (fun b => q = some ⟨b, 0, none⟩) w u3) := Keep.turn (Keep.of_below T3.out.bw) tn (fun j hj hn e => by subst e; rcases tq with tq | tq; exact hn tq; omega)
      clear ho hg hgl gr tn tb tl tq HT WX WY N T3 HX HY
      refine PhaseIn.one (i := 5) (by kernel_rfl) rfl (by kernel_rfl) (fun K hK => ?_)
      refine push_in _ _ rfl rfl rfl hrun (hK _ _ (fun h => absurd h (by omega)) ?_)
      clear hK K hrun
      try simp only [Act.put, sA, List.set]
      refine PhaseIn.late (i := 6) (v := ?_) (by kernel_rfl) rfl 41 (by rfl) (by omega) (Or.inl ⟨by kernel_rfl, ?_⟩) ?_
      rotate_left
      · intro w' hSw
        go_simp
        first | done | with_reducible rfl
      try simp only [Act.put, sA, List.set]
      have x0 := TA.out.cell 0 _ rfl
      have s0 := TA.out.soft 0
      refine PhaseIn.one (i := 7) (by kernel_rfl) rfl (by kernel_rfl) (fun K hK => ?_)
      unfold Oper.wpIn
      refine ⟨fun _ _ => trivial, ?_⟩
      go_simp
      refine hK _ _ (fun h => absurd h (by omega)) ?_
      clear hK K x0 s0
      try simp only [Act.put, sA, List.set]
      have t4 : Turn w.heap.size u3 (u3.setCell ⟨w.heap.size, 0, none⟩ (.slice (some ⟨G', 0, none⟩) (ts.length + 1) cap')) := (Turn.refl _ u3).setCell (p := ⟨w.heap.size, 0, none⟩) rfl _
      replace TA := hide (TA.out.set 0 (.slice (some ⟨G', 0, none⟩) (ts.length + 1) cap') (by simp) rfl)
      replace TO := hide (TO.out.turn t4 (by omega))
      replace BW := hide (BW.out.turn t4 (fun j hj hn e => by omega))
      replace ON := hide (ON.out.apart t4 (fun G e => by injection e with e1; injection e1 with e2; have := GN.out; have := MM.out; omega) (fun i hi => by by_cases e : i < ts.length; (simp only [if_pos e]; exact Or.inr (HH.out i e)); (simp only [if_neg e]; exact Or.inl (by have := MM.out; omega))))
      clear t4
      generalize u3.setCell ⟨w.heap.size, 0, none⟩ (.slice (some ⟨G', 0, none⟩) (ts.length + 1) cap') = u4 at TA TO BW ON ⊢
      refine PhaseIn.done (by kernel_rfl) ?_ _
      go_wp2_with fail
      refine (wpIn_wide (n := 0)).1 ?_
      have bA : Below u4.heap.size u4 u4.drew := (Below.refl _ _).drew
      replace TA := hide (TA.out.below bA)
      replace TO := hide (TO.out.below bA)
      replace ON := hide (ON.out.below bA)
      replace BW := hide (BW.out.trans (Keep.of_below bA))
      refine PhaseIn.region (S := fun w' => Rec w.heap.size [(.slice (some ⟨G', 0, none⟩) (ts.length + 1) cap')] w' ∧ True) 7 (by kernel_rfl) ?_
      generalize u4.drew = d4 at TA TO ON BW ⊢
      have hHeld : Rec w.heap.size [(.slice (some ⟨G', 0, none⟩) (ts.length + 1) cap')] d4 ∧ True := ⟨TA.out, trivial⟩
      clear bA
      have wl : IntKind.i64.wrap ((ts.length : Nat) : Int) = (ts.length : Nat) := IntWalk.i64_in _ ⟨by omega, by omega⟩
      refine PhaseIn.takeE (i := 0) (v := ?_) [0, 5, 6] 42 rfl (by rfl) (by kernel_rfl) (fun _ _ _ h => h) (Or.inl ⟨by kernel_rfl, ?_⟩) hHeld ?_
      rotate_left
      · intro w' hSw
        (try dsimp only at hSw)
        have z0 := hSw.1.cell 0 _ rfl
        go_simp
        first | done | with_reducible rfl | simp [wl]
      try simp only [Act.put, sA, List.set]
      refine PhaseIn.takeE (i := 1) (v := ?_) [1, 2, 3, 4, 6] 43 rfl (by rfl) (by kernel_rfl) (fun _ _ _ h => h) (Or.inl ⟨by kernel_rfl, ?_⟩) hHeld ?_
      rotate_left
      · intro w' hSw
        (try dsimp only at hSw)
        go_simp
        first | done | with_reducible rfl | simp [wl]
      try simp only [Act.put, sA, List.set]
      refine PhaseIn.takeE (i := 2) (v := ?_) [2, 3, 4, 6] 44 rfl (by rfl) (by kernel_rfl) (fun _ _ _ h => h) (Or.inl ⟨by kernel_rfl, ?_⟩) hHeld ?_
      rotate_left
      · intro w' hSw
        (try dsimp only at hSw)
        have z0 := hSw.1.cell 0 _ rfl
        go_simp
        first | done | with_reducible rfl | simp [wl]
      try simp only [Act.put, sA, List.set]
      refine PhaseIn.takeE (i := 3) (v := ?_) [3, 4, 6] 45 rfl (by rfl) (by kernel_rfl) (fun _ _ _ h => h) (Or.inl ⟨by kernel_rfl, ?_⟩) hHeld ?_
      rotate_left
      · intro w' hSw
        (try dsimp only at hSw)
        go_simp
        first | done | with_reducible rfl | simp [wl]
      try simp only [Act.put, sA, List.set]
      refine PhaseIn.takeE (i := 4) (v := .int .i64 (ts.length : Int)) [4, 6] 46 rfl (by rfl) (by kernel_rfl) (fun _ _ _ h => h) (Or.inl ⟨by kernel_rfl, ?_⟩) hHeld ?_
      · intro w' hSw
        (try dsimp only at hSw)
        have wl2 := wl
        go_simp
        first | done | with_reducible rfl | simp [wl]
      try simp only [Act.put, sA, List.set]
      have x0 := TO.out.cell 0 _ rfl
      have s0 := TO.out.soft 0
      refine PhaseIn.one (i := 5) (by kernel_rfl) rfl (by kernel_rfl) (fun K hK => ?_)
      unfold Oper.wpIn
      refine ⟨fun _ _ => trivial, ?_⟩
      go_simp
      have t5 : Turn (w.heap.size + 1 + 1) d4 (d4.setCell ⟨w.heap.size + 1 + 1, 0, none⟩ (.slice (some ⟨G', 0, none⟩) (ts.length + 1) cap')) := (Turn.refl _ d4).setCell (p := ⟨w.heap.size + 1 + 1, 0, none⟩) rfl _
      have hHeld2 : Rec w.heap.size [(.slice (some ⟨G', 0, none⟩) (ts.length + 1) cap')] (d4.setCell ⟨w.heap.size + 1 + 1, 0, none⟩ (.slice (some ⟨G', 0, none⟩) (ts.length + 1) cap')) ∧ True := ⟨TA.out.turn t5 (by omega), trivial⟩
      refine hK _ _ (fun _ => hHeld2) ?_
      replace TO := hide (TO.out.set 0 (.slice (some ⟨G', 0, none⟩) (ts.length + 1) cap') (by simp) rfl)
      replace BW := hide (BW.out.turn t5 (fun j hj hn e => by omega))
      replace ON := hide (ON.out.apart t5 (fun G e => by injection e with e1; injection e1 with e2; have := GN.out; have := MM.out; omega) (fun i hi => by by_cases e : i < ts.length; (simp only [if_pos e]; exact Or.inr (by have := HH.out i e; omega)); (simp only [if_neg e]; exact Or.inl (by have := MM.out; omega))))
      clear hK K x0 s0 t5 hHeld TA
      try simp only [Act.put, sA, List.set]
      generalize d4.setCell ⟨w.heap.size + 1 + 1, 0, none⟩ (.slice (some ⟨G', 0, none⟩) (ts.length + 1) cap') = y9 at TO BW ON hHeld2 ⊢
      refine PhaseIn.takeE (i := 6) (v := ?_) [6] 5 rfl (by rfl) (by kernel_rfl) (fun _ _ _ h => h) (Or.inl ⟨by kernel_rfl, ?_⟩) hHeld2 ?_
      rotate_left
      · intro w' hSw
        (try dsimp only at hSw)
        go_simp
        first | done | with_reducible rfl
      try simp only [Act.put, sA, List.set]
      refine PhaseIn.done (by kernel_rfl) ?_ _
      have z9 := TO.out.cell 0 _ rfl
      clear hHeld2
      go_wp2
      rw [PE.out.1, PE.out.2]
      exact bodyPost_ret (v := .tuple #[.agg #[(.slice (some ⟨G', 0, none⟩) (ts.length + 1) cap')], .int .i64 (ts.length : Int)]) (by simp [results, Tryz.results48, go_sem, z9]) rfl ⟨_, cap', _, _, _, _, by rw [List.length_append]; rfl, ON.out, BW.out, AW.out⟩
end Go.Proofs.YtggilenddbobnaaGreat.Tab
