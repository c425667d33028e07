/-
  The laws' own markTabAtom.
-/
import Derived.Test.YtagfgbkclopoeaaTabPh
namespace Go.Proofs.Ytagfgbkclopoeaa.Tab
set_option linter.unusedVariables false
open Go.ChangeShapes Go.WideShapes Go.ChangeAt Go.RowKit IntS Pol
set_option maxRecDepth 8000 in
set_option maxHeartbeats 8000000 in
theorem markTabAtom (t : At) (k : Int) (lo mid hi : Nat) (qx : Option Addr) (cx : Nat) (qy : Option Addr) (cy : Nat) (w : World) (hx : WPoly w lo mid (.slice qx t.x.length cx) t.x) (hy : WPoly w mid hi (.slice qy t.y.length cy) t.y) (h1 : lo ≤ mid) (h2 : mid ≤ hi) (hh : hi ≤ w.heap.size) (hs : szA t ≤ 1000000000) (k0 : 0 ≤ k) (k1 : k ≤ 10000000000) :
    Calls Try.prog 14 #[.agg #[.int .i64 t.kd, .int .i64 t.k, .slice qx t.x.length cx, .slice qy t.y.length cy], .int .i64 k] w fun e w' => e = .returned (.int .i64 (k + offs t.x t.x.length + offs t.y t.y.length)) ∧ WPoly w' lo mid (.slice qx t.x.length cx) (markP t.x k) ∧ WPoly w' mid hi (.slice qy t.y.length cy) (markP t.y (k + offs t.x t.x.length)) ∧ Keep (fun b => lo ≤ b ∧ b < hi) w w' := by
  have XS : Hid (t.x.length + tot t.x ≤ 1000000000) := show _ ≤ _ by unfold szA at hs; omega
  have YS : Hid (t.y.length + tot t.y ≤ 1000000000) := show _ ≤ _ by unfold szA at hs; omega
  have XO : 0 ≤ offs t.x t.x.length ∧ offs t.x t.x.length ≤ 1000000000 := ⟨by rw [offs_full]; omega, by rw [offs_full]; have := XS.out; omega⟩
  have bV : Below w.heap.size w (w.alloc (.cells #[.int .i64 t.kd, .int .i64 t.k, .slice qx t.x.length cx, .slice qy t.y.length cy] 42)) := (Below.refl _ _).alloc (Nat.le_refl _) _
  have R := hide (Rec.new w [.int .i64 t.kd, .int .i64 t.k, .slice qx t.x.length cx, .slice qy t.y.length cy] 42)
  have HX := hide (hx.below bV)
  have HY := hide (hy.below bV)
  have KW : Hid (Keep (fun b => lo ≤ b ∧ b < hi) w (w.alloc (.cells #[.int .i64 t.kd, .int .i64 t.k, .slice qx t.x.length cx, .slice qy t.y.length cy] 42))) := Keep.of_below bV
  obtain ⟨k2, e2⟩ : ∃ k2, k + offs t.x t.x.length = k2 := ⟨_, rfl⟩
  rw [e2]
  have E2 := hide e2
  have b2 : 0 ≤ k2 ∧ k2 ≤ 20000000000 := by omega
  clear bV hx hy hs e2 XO
  go_enter Try.func14, Try.ntmps14
  go_wp2_with fail
  generalize w.alloc (.cells #[.int .i64 t.kd, .int .i64 t.k, .slice qx t.x.length cx, .slice qy t.y.length cy] 42) = V at R HX HY KW ⊢
  refine (markTrmPoly t.x k lo mid _ _ HX.out XS.out k0 (by omega)).mono ?_
  rintro e u ⟨rfl, M, hk⟩
  rw [E2.out]
  replace R := hide (R.out.keep hk (by omega))
  replace HY := hide (HY.out.keep hk (fun b h3 h4 h5 => by omega))
  replace KW := hide (KW.out.trans (hk.mono (fun b _ h => ⟨h.1, by have := h.2; omega⟩)))
  have MX := hide M
  clear hk M HX
  have c3 := R.out.cell 3 _ rfl
  go_wp2_with fail
  refine (markTrmPoly t.y k2 mid hi _ _ HY.out YS.out (by omega) (by omega)).mono ?_
  rintro e u2 ⟨rfl, M, hk⟩
  replace MX := hide (MX.out.keep hk (fun b h3 h4 h5 => by omega))
  replace KW := hide (KW.out.trans (hk.mono (fun b _ h => ⟨by have := h.1; omega, h.2⟩)))
  have MY := hide M
  clear hk M HY R c3
  go_wp2
  go_ret
  exact ⟨rfl, MX.out, MY.out, KW.out⟩
end Go.Proofs.Ytagfgbkclopoeaa.Tab
