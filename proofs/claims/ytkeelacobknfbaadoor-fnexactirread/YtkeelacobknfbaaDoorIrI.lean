/-
  The program's makesWord, fitsWord, fits; what its tables of shapes hold.
-/
import Derived.Test.YtkeelacobknfbaaDoorIrK
import Derived.OpenShut
import Derived.LaidMore
namespace Go.Proofs.YtkeelacobknfbaaDoor.Ir
set_option linter.unusedVariables false
set_option linter.unusedSimpArgs false
open Go.ChangeShapes Go.WideShapes Go.ChangeAt Go.RowKit IntS Mch
theorem makesWord (k : Int) (w : World) : Calls Tryd.prog 83 #[.int .i64 k] w fun e w' => e = .returned (.bool (mkB k)) ∧ w' = w := by
  by_cases h1 : k = 1
  · subst h1
    have HD : Hid (mkB 1 = true) := rfl
    go_enter Tryd.func83, Tryd.ntmps83
    go_wp2
    go_ret
    exact ⟨ret_bool HD.out.symm, rfl⟩
  by_cases h2 : k = 2
  · subst h2
    have HD : Hid (mkB 2 = true) := rfl
    go_enter Tryd.func83, Tryd.ntmps83
    go_wp2
    go_ret
    exact ⟨ret_bool HD.out.symm, rfl⟩
  by_cases h3 : k = 3
  · subst h3
    have HD : Hid (mkB 3 = true) := rfl
    go_enter Tryd.func83, Tryd.ntmps83
    go_wp2
    go_ret
    exact ⟨ret_bool HD.out.symm, rfl⟩
  by_cases h4 : k = 4
  · subst h4
    have HD : Hid (mkB 4 = true) := rfl
    go_enter Tryd.func83, Tryd.ntmps83
    go_wp2
    go_ret
    exact ⟨ret_bool HD.out.symm, rfl⟩
  by_cases h6 : k = 6
  · subst h6
    have HD : Hid (mkB 6 = true) := rfl
    go_enter Tryd.func83, Tryd.ntmps83
    go_wp2
    go_ret
    exact ⟨ret_bool HD.out.symm, rfl⟩
  have g1 : (k == 1) = false := beq_eq_false_iff_ne.2 h1
  have g2 : (k == 2) = false := beq_eq_false_iff_ne.2 h2
  have g3 : (k == 3) = false := beq_eq_false_iff_ne.2 h3
  have g4 : (k == 4) = false := beq_eq_false_iff_ne.2 h4
  have g6 : (k == 6) = false := beq_eq_false_iff_ne.2 h6
  have HD : Hid (mkB k = false) := show _ = _ by unfold mkB; rw [decide_eq_false (by omega), decide_eq_false (by omega)]; rfl
  clear h1 h2 h3 h4 h6
  go_enter Tryd.func83, Tryd.ntmps83
  go_wp2
  go_ret
  exact ⟨ret_bool HD.out.symm, rfl⟩
/-- Whether a place is as it should be, where a word is to be had, or none. -/
def fwB (has : Bool) (p : Int) (ah : List Opn) : Bool := if has then valB ah p else decide (p = 0)
set_option maxHeartbeats 2000000 in
theorem fitsWord (has : Bool) (k : Int) (ops : List Opn) (B : Nat) (v : Value) (w : World) (h : ORow w B v ops) :
    Calls Tryd.prog 68 #[.bool has, .int .i64 k, v] w fun e w' => e = .returned (.bool (fwB has k ops)) ∧ w' = w := by
  obtain ⟨a, cap, off, rfl, h2, h3, hz, h4⟩ := h
  unfold maxLen at h3
  clear hz
  cases has with
  | false =>
    by_cases e : k = 0
    · subst e
      have HD : Hid (fwB false 0 ops = true) := rfl
      clear h4
      go_enter Tryd.func68, Tryd.ntmps68
      go_wp2
      go_ret
      exact ⟨ret_bool HD.out.symm, rfl⟩
    · have HD : Hid (fwB false k ops = false) := show _ = _ by unfold fwB; simp [e]
      have e2 : (k == 0) = false := beq_eq_false_iff_ne.2 e
      clear h4 e
      go_enter Tryd.func68, Tryd.ntmps68
      go_wp2
      go_ret
      exact ⟨ret_bool HD.out.symm, rfl⟩
  | true =>
    by_cases h0 : 0 ≤ k
    · by_cases h1 : k < ops.length
      · obtain ⟨m, rfl⟩ : ∃ m : Nat, k = m := ⟨k.toNat, by omega⟩
        obtain ⟨o, et⟩ : ∃ o, ops[m]? = some o := ⟨_, List.getElem?_eq_getElem (by omega)⟩
        obtain ⟨rfl, hc⟩ := h4.resolve_left (fun e => by rw [e] at et; simp at et)
        obtain ⟨c0, -⟩ := hc m o et
        have HD : Hid (fwB true m ops = mkB o.kd) := show _ = _ by unfold fwB; rw [if_pos rfl]; exact val_at et
        have lk : ((m : Nat) : Int) < (ops.length : Nat) := by omega
        clear hc et h4
        go_enter Tryd.func68, Tryd.ntmps68
        go_wp2_with fail
        refine (makesWord o.kd _).mono ?_
        rintro e u ⟨rfl, rfl⟩
        go_wp2
        go_ret
        exact ⟨ret_bool HD.out.symm, rfl⟩
      · have HD : Hid (fwB true k ops = false) := show _ = _ by unfold fwB; rw [if_pos rfl]; exact val_far (by omega)
        clear h4
        go_enter Tryd.func68, Tryd.ntmps68
        go_wp2
        go_ret
        exact ⟨ret_bool HD.out.symm, rfl⟩
    · have HD : Hid (fwB true k ops = false) := show _ = _ by unfold fwB; rw [if_pos rfl]; exact val_neg (by omega)
      clear h4
      go_enter Tryd.func68, Tryd.ntmps68
      go_wp2
      go_ret
      exact ⟨ret_bool HD.out.symm, rfl⟩
/-- What an operation, or an End, has. -/
structure Sh where
  x : Bool
  y : Bool
  a : Bool
  l : Int
  m : Int
def lastOf (a : Bool) (size : Int) : Int := if a then size - 1 else 0
def fitB (s : Sh) (o : Opn) (ah : List Opn) (size : Int) : Bool := fwB s.x o.x ah && fwB s.y o.y ah && decide (s.l ≤ o.k) && decide (o.k ≤ s.m) && decide (0 ≤ o.t) && decide (o.t ≤ lastOf s.a size)
set_option maxRecDepth 8000 in
set_option maxHeartbeats 8000000 in
theorem fits (s : Sh) (o : Opn) (ops : List Opn) (B : Nat) (v : Value) (size : Int) (w : World) (h : ORow w B v ops) (s1 : 1 ≤ size) (s8 : size ≤ 8) :
    Calls Tryd.prog 46 #[.agg #[.bool s.x, .bool s.y, .bool s.a, .int .i64 s.l, .int .i64 s.m], .agg #[.int .i64 o.kd, .int .i64 o.x, .int .i64 o.y, .int .i64 o.k, .int .i64 o.t], v, .int .i64 size] w fun e w' => e = .returned (.bool (fitB s o ops size)) ∧ Below w.heap.size w w' := by
  obtain ⟨sx, sy, sa, sl, sm⟩ := s
  obtain ⟨kd, x, y, k, t⟩ := o
  simp only []
  have BW : Below w.heap.size w ((w.alloc (.cells #[.bool sx, .bool sy, .bool sa, .int .i64 sl, .int .i64 sm] 67)).alloc (.cells #[.int .i64 kd, .int .i64 x, .int .i64 y, .int .i64 k, .int .i64 t] 51)) := ((Below.refl _ _).alloc (Nat.le_refl _) _).alloc (by simp) _
  have H := hide (h.below BW)
  replace BW := hide BW
  clear h
  have EQ : fitB ⟨sx, sy, sa, sl, sm⟩ ⟨kd, x, y, k, t⟩ ops size = (fwB sx x ops && fwB sy y ops && decide (sl ≤ k) && decide (k ≤ sm) && decide (0 ≤ t) && decide (t ≤ lastOf sa size)) := rfl
  generalize fitB ⟨sx, sy, sa, sl, sm⟩ ⟨kd, x, y, k, t⟩ ops size = Z at EQ ⊢
  have HE := hide EQ
  clear EQ
  obtain ⟨la, el⟩ : ∃ la, lastOf sa size = la := ⟨_, rfl⟩
  rw [el] at HE
  have HL := hide el
  clear el
  cases sa with
  | true =>
    have hl : la = size - 1 := by have := HL.out; unfold lastOf at this; simp at this; omega
    subst hl
    clear HL
    by_cases e0 : fwB sx x ops = true
    · have _h := e0
      clear _h
      by_cases e1 : fwB sy y ops = true
      · have _h := e1
        clear _h
        by_cases e2 : sl ≤ k
        · have _h := e2
          clear _h
          by_cases e3 : k ≤ sm
          · have _h := e3
            clear _h
            by_cases e4 : 0 ≤ t
            · have _h := e4
              clear _h
              by_cases e5 : t ≤ size - 1
              · have _h := e5
                clear _h
                have HD : Hid (Z = true) := show _ = _ by rw [HE.out]; simp [e0, e1, e2, e3, e4, e5]
                clear HE
                go_enter Tryd.func46, Tryd.ntmps46
                go_wp2_with fail
                refine (fitsWord sx x ops B _ _ H.out).mono ?_
                rintro e u0 ⟨rfl, rfl⟩
                rw [e0]
                go_wp2_with fail
                refine (fitsWord sy y ops B _ _ H.out).mono ?_
                rintro e u1 ⟨rfl, rfl⟩
                rw [e1]
                go_wp2
                go_ret
                exact ret_boolw HD.out.symm BW.out
              · have _h := e5
                clear _h
                have HD : Hid (Z = false) := show _ = _ by rw [HE.out]; simp [e0, e1, e2, e3, e4, e5]
                clear HE
                go_enter Tryd.func46, Tryd.ntmps46
                go_wp2_with fail
                refine (fitsWord sx x ops B _ _ H.out).mono ?_
                rintro e u0 ⟨rfl, rfl⟩
                rw [e0]
                go_wp2_with fail
                refine (fitsWord sy y ops B _ _ H.out).mono ?_
                rintro e u1 ⟨rfl, rfl⟩
                rw [e1]
                go_wp2
                go_ret
                exact ret_boolw ((decide_eq_false (Int.not_le.2 e5)).trans HD.out.symm) BW.out
            · have _h := e4
              clear _h
              have HD : Hid (Z = false) := show _ = _ by rw [HE.out]; simp [e0, e1, e2, e3, e4]
              clear HE
              go_enter Tryd.func46, Tryd.ntmps46
              go_wp2_with fail
              refine (fitsWord sx x ops B _ _ H.out).mono ?_
              rintro e u0 ⟨rfl, rfl⟩
              rw [e0]
              go_wp2_with fail
              refine (fitsWord sy y ops B _ _ H.out).mono ?_
              rintro e u1 ⟨rfl, rfl⟩
              rw [e1]
              go_wp2
              go_ret
              exact ret_boolw HD.out.symm BW.out
          · have _h := e3
            clear _h
            have HD : Hid (Z = false) := show _ = _ by rw [HE.out]; simp [e0, e1, e2, e3]
            clear HE
            go_enter Tryd.func46, Tryd.ntmps46
            go_wp2_with fail
            refine (fitsWord sx x ops B _ _ H.out).mono ?_
            rintro e u0 ⟨rfl, rfl⟩
            rw [e0]
            go_wp2_with fail
            refine (fitsWord sy y ops B _ _ H.out).mono ?_
            rintro e u1 ⟨rfl, rfl⟩
            rw [e1]
            go_wp2
            go_ret
            exact ret_boolw HD.out.symm BW.out
        · have _h := e2
          clear _h
          have HD : Hid (Z = false) := show _ = _ by rw [HE.out]; simp [e0, e1, e2]
          clear HE
          go_enter Tryd.func46, Tryd.ntmps46
          go_wp2_with fail
          refine (fitsWord sx x ops B _ _ H.out).mono ?_
          rintro e u0 ⟨rfl, rfl⟩
          rw [e0]
          go_wp2_with fail
          refine (fitsWord sy y ops B _ _ H.out).mono ?_
          rintro e u1 ⟨rfl, rfl⟩
          rw [e1]
          go_wp2
          go_ret
          exact ret_boolw HD.out.symm BW.out
      · rw [Bool.not_eq_true] at e1
        have HD : Hid (Z = false) := show _ = _ by rw [HE.out]; simp [e0, e1]
        clear HE
        go_enter Tryd.func46, Tryd.ntmps46
        go_wp2_with fail
        refine (fitsWord sx x ops B _ _ H.out).mono ?_
        rintro e u0 ⟨rfl, rfl⟩
        rw [e0]
        go_wp2_with fail
        refine (fitsWord sy y ops B _ _ H.out).mono ?_
        rintro e u1 ⟨rfl, rfl⟩
        rw [e1]
        go_wp2
        go_ret
        exact ret_boolw HD.out.symm BW.out
    · rw [Bool.not_eq_true] at e0
      have HD : Hid (Z = false) := show _ = _ by rw [HE.out]; simp [e0]
      clear HE
      go_enter Tryd.func46, Tryd.ntmps46
      go_wp2_with fail
      refine (fitsWord sx x ops B _ _ H.out).mono ?_
      rintro e u0 ⟨rfl, rfl⟩
      rw [e0]
      go_wp2
      go_ret
      exact ret_boolw HD.out.symm BW.out
  | false =>
    have hl : la = 0 := by have := HL.out; unfold lastOf at this; simp at this; omega
    subst hl
    clear HL
    by_cases e0 : fwB sx x ops = true
    · have _h := e0
      clear _h
      by_cases e1 : fwB sy y ops = true
      · have _h := e1
        clear _h
        by_cases e2 : sl ≤ k
        · have _h := e2
          clear _h
          by_cases e3 : k ≤ sm
          · have _h := e3
            clear _h
            by_cases e4 : 0 ≤ t
            · have _h := e4
              clear _h
              by_cases e5 : t ≤ 0
              · have _h := e5
                clear _h
                have HD : Hid (Z = true) := show _ = _ by rw [HE.out]; simp [e0, e1, e2, e3, e4, e5]
                clear HE
                go_enter Tryd.func46, Tryd.ntmps46
                go_wp2_with fail
                refine (fitsWord sx x ops B _ _ H.out).mono ?_
                rintro e u0 ⟨rfl, rfl⟩
                rw [e0]
                go_wp2_with fail
                refine (fitsWord sy y ops B _ _ H.out).mono ?_
                rintro e u1 ⟨rfl, rfl⟩
                rw [e1]
                go_wp2
                go_ret
                exact ret_boolw HD.out.symm BW.out
              · have _h := e5
                clear _h
                have HD : Hid (Z = false) := show _ = _ by rw [HE.out]; simp [e0, e1, e2, e3, e4, e5]
                clear HE
                go_enter Tryd.func46, Tryd.ntmps46
                go_wp2_with fail
                refine (fitsWord sx x ops B _ _ H.out).mono ?_
                rintro e u0 ⟨rfl, rfl⟩
                rw [e0]
                go_wp2_with fail
                refine (fitsWord sy y ops B _ _ H.out).mono ?_
                rintro e u1 ⟨rfl, rfl⟩
                rw [e1]
                go_wp2
                go_ret
                exact ret_boolw ((decide_eq_false (Int.not_le.2 e5)).trans HD.out.symm) BW.out
            · have _h := e4
              clear _h
              have HD : Hid (Z = false) := show _ = _ by rw [HE.out]; simp [e0, e1, e2, e3, e4]
              clear HE
              go_enter Tryd.func46, Tryd.ntmps46
              go_wp2_with fail
              refine (fitsWord sx x ops B _ _ H.out).mono ?_
              rintro e u0 ⟨rfl, rfl⟩
              rw [e0]
              go_wp2_with fail
              refine (fitsWord sy y ops B _ _ H.out).mono ?_
              rintro e u1 ⟨rfl, rfl⟩
              rw [e1]
              go_wp2
              go_ret
              exact ret_boolw HD.out.symm BW.out
          · have _h := e3
            clear _h
            have HD : Hid (Z = false) := show _ = _ by rw [HE.out]; simp [e0, e1, e2, e3]
            clear HE
            go_enter Tryd.func46, Tryd.ntmps46
            go_wp2_with fail
            refine (fitsWord sx x ops B _ _ H.out).mono ?_
            rintro e u0 ⟨rfl, rfl⟩
            rw [e0]
            go_wp2_with fail
            refine (fitsWord sy y ops B _ _ H.out).mono ?_
            rintro e u1 ⟨rfl, rfl⟩
            rw [e1]
            go_wp2
            go_ret
            exact ret_boolw HD.out.symm BW.out
        · have _h := e2
          clear _h
          have HD : Hid (Z = false) := show _ = _ by rw [HE.out]; simp [e0, e1, e2]
          clear HE
          go_enter Tryd.func46, Tryd.ntmps46
          go_wp2_with fail
          refine (fitsWord sx x ops B _ _ H.out).mono ?_
          rintro e u0 ⟨rfl, rfl⟩
          rw [e0]
          go_wp2_with fail
          refine (fitsWord sy y ops B _ _ H.out).mono ?_
          rintro e u1 ⟨rfl, rfl⟩
          rw [e1]
          go_wp2
          go_ret
          exact ret_boolw HD.out.symm BW.out
      · rw [Bool.not_eq_true] at e1
        have HD : Hid (Z = false) := show _ = _ by rw [HE.out]; simp [e0, e1]
        clear HE
        go_enter Tryd.func46, Tryd.ntmps46
        go_wp2_with fail
        refine (fitsWord sx x ops B _ _ H.out).mono ?_
        rintro e u0 ⟨rfl, rfl⟩
        rw [e0]
        go_wp2_with fail
        refine (fitsWord sy y ops B _ _ H.out).mono ?_
        rintro e u1 ⟨rfl, rfl⟩
        rw [e1]
        go_wp2
        go_ret
        exact ret_boolw HD.out.symm BW.out
    · rw [Bool.not_eq_true] at e0
      have HD : Hid (Z = false) := show _ = _ by rw [HE.out]; simp [e0]
      clear HE
      go_enter Tryd.func46, Tryd.ntmps46
      go_wp2_with fail
      refine (fitsWord sx x ops B _ _ H.out).mono ?_
      rintro e u0 ⟨rfl, rfl⟩
      rw [e0]
      go_wp2
      go_ret
      exact ret_boolw HD.out.symm BW.out
def opL : List Sh := [⟨false, false, false, 0, 0⟩, ⟨false, false, false, 0, 65535⟩, ⟨false, false, false, 0, 3⟩, ⟨true, true, false, 1, 5⟩, ⟨true, false, true, 0, 0⟩, ⟨true, true, true, 0, 0⟩, ⟨false, false, true, 0, 0⟩, ⟨true, false, true, 0, 0⟩, ⟨true, false, false, 0, 3⟩]
def enL : List Sh := [⟨false, false, false, 0, 0⟩, ⟨false, false, false, 0, 65535⟩, ⟨true, false, false, 0, 0⟩, ⟨true, true, false, 0, 65535⟩, ⟨true, true, false, 0, 65535⟩]
theorem shape_op {m : Nat} {s : Sh} {o : Opn} (hs : opL[m]? = some s) (h1 : 1 ≤ m) (ho : o.kd = m) (ah : List Opn) (size : Int) : fitB s o ah size = opB ah o size := by
  obtain ⟨kd, x, y, k, t⟩ := o
  simp only [] at ho
  subst ho
  have h9 : m < 9 := (List.getElem?_eq_some_iff.1 hs).1
  have : m = 1 ∨ m = 2 ∨ m = 3 ∨ m = 4 ∨ m = 5 ∨ m = 6 ∨ m = 7 ∨ m = 8 := by omega
  rcases this with rfl | rfl | rfl | rfl | rfl | rfl | rfl | rfl <;> (obtain rfl := Option.some.inj hs; unfold fitB opB fwB lastOf inI; simp only []; generalize valB ah x = p; generalize valB ah y = q; rw [Bool.eq_iff_iff]; cases p <;> cases q <;> simp <;> omega)
theorem shape_en {m : Nat} {s : Sh} {x y k : Int} (hs : enL[m]? = some s) (h1 : 1 ≤ m) (ops : List Opn) (size : Int) : fitB s ⟨0, x, y, k, 0⟩ ops size = endB ops m x y k := by
  have h9 : m < 5 := (List.getElem?_eq_some_iff.1 hs).1
  have : m = 1 ∨ m = 2 ∨ m = 3 ∨ m = 4 := by omega
  rcases this with rfl | rfl | rfl | rfl <;> (obtain rfl := Option.some.inj hs; unfold fitB endB fwB lastOf inI; simp only []; generalize valB ops x = p; generalize valB ops y = q; rw [Bool.eq_iff_iff]; cases p <;> cases q <;> simp <;> omega)
def ShAt (w : World) (B p : Nat) (s : Sh) : Prop := w.cell? ⟨B, p, none⟩ = some (.bool s.x) ∧ w.cell? ⟨B, p + 1, none⟩ = some (.bool s.y) ∧ w.cell? ⟨B, p + 2, none⟩ = some (.bool s.a) ∧ w.cell? ⟨B, p + 3, none⟩ = some (.int .i64 s.l) ∧ w.cell? ⟨B, p + 4, none⟩ = some (.int .i64 s.m)
theorem ShAt.below {w w' : World} {B p : Nat} {s : Sh} (h : ShAt w B p s) (hb : Below w.heap.size w w') : ShAt w' B p s := ⟨cell_below hb h.1, cell_below hb h.2.1, cell_below hb h.2.2.1, cell_below hb h.2.2.2.1, cell_below hb h.2.2.2.2⟩
/-- A variable that holds a table of shapes. -/
structure Tb (w : World) (g : Nat) (L : List Sh) : Prop where
  ex : ∃ b o c, L.length ≤ c ∧ c ≤ maxLen ∧ w.cell? ⟨g, 0, none⟩ = some (.slice (some ⟨b, o, none⟩) L.length c) ∧ ∀ (k : Nat) s, L[k]? = some s → ShAt w b (o + k * 5) s
theorem Tb.below {w w' : World} {g : Nat} {L : List Sh} (h : Tb w g L) (hb : Below w.heap.size w w') : Tb w' g L := by
  obtain ⟨b, o, c, h1, h2, h3, h4⟩ := h
  exact ⟨b, o, c, h1, h2, cell_below hb h3, fun k s hs => (h4 k s hs).below hb⟩
def dsh (s : Sh) : DataW Unit := .agg [.lit (.bool s.x), .lit (.bool s.y), .lit (.bool s.a), .lit (.int .i64 s.l), .lit (.int .i64 s.m)]
theorem laidVars_mem {P : Program} {w : World} : ∀ {laid : List (String × DataW Unit)} {ps : List MemPlace}, DataW.LaidVars P w laid ps → ∀ {n : String} {d : DataW Unit}, (n, d) ∈ laid →
    ∃ g t cs fuel p, P.globalNamed n = some g ∧ (P.globals[g]?).map (·.type) = some t ∧ w.var? P n = some cs ∧ DataW.trod (fun _ => ()) P w 0 (fun _ => true) false fuel t cs.toList = some (d, p)
  | [], _, _, _, _, hm => by cases hm
  | (n', d') :: r, ps, h, n, d, hm => by
    obtain ⟨g, t, cs, fuel, p, q, h1, h2, h3, h4, h5, _⟩ := h
    rcases List.mem_cons.1 hm with e | hm
    · obtain ⟨rfl, rfl⟩ := Prod.mk.inj e
      exact ⟨g, t, cs, fuel, p, h1, h2, h3, h4⟩
    · exact laidVars_mem h5 hm
theorem laid_mem {P : Program} {w : World} {laid : List (String × DataW Unit)} (h : laidMet P laid w) {n : String} {d : DataW Unit} (hm : (n, d) ∈ laid) :
    ∃ g t cs fuel p, P.globalNamed n = some g ∧ (P.globals[g]?).map (·.type) = some t ∧ w.var? P n = some cs ∧ DataW.trod (fun _ => ()) P w 0 (fun _ => true) false fuel t cs.toList = some (d, p) := by
  obtain ⟨ps, h, _⟩ := h
  exact laidVars_mem h hm
theorem var_cell {w : World} {n : String} {g : Nat} {cs : Array Value} {v : Value} (hg : Tryd.prog.globalNamed n = some g) (h : w.var? Tryd.prog n = some cs) (hc : cs.toList = [v]) : w.cell? ⟨g, 0, none⟩ = some v := by
  rw [World.var?_cell hg h 0]
  have : cs = #[v] := by apply Array.ext'; simpa using hc
  subst this
  rfl
set_option maxRecDepth 8000 in
theorem shapes_of {w : World} {fuel : Nat} {cs : List Value} {p : List MemPlace} (L : List Sh) (hne : 0 < L.length) (h : DataW.trod (fun _ => ()) Tryd.prog w 0 (fun _ => true) false fuel 68 cs = some (.slice (L.map dsh) [], p)) :
    ∃ b o c, L.length ≤ c ∧ c ≤ maxLen ∧ cs = [.slice (some ⟨b, o, none⟩) L.length c] ∧ ∀ (k : Nat) s, L[k]? = some s → ShAt w b (o + k * 5) s := by
  have e5 : Tryd.prog.cellsOf 67 = 5 := by kernel_rfl
  have e1 : Tryd.prog.cellsOf 3 = 1 := by kernel_rfl
  have eb : Tryd.prog.cellsOf 4 = 1 := by kernel_rfl
  rcases Go.Deep.open_slice Tryd.underlying68 h with ⟨_, h0⟩ | ⟨a, len, cap, m, n, D, Pl, rfl, _, hl, hm, hmm, hx, hc⟩
  · simp at h0
  · simp only [Prod.mk.injEq, DataW.slice.injEq] at hx
    obtain ⟨⟨h1, _⟩, _⟩ := hx
    have hlen : L.length = len := by have := congrArg List.length h1; simpa using this
    have hm2 : len ≤ m := by rw [hmm]; split <;> omega
    have at_ (k : Nat) (s : Sh) (hk : L[k]? = some s) : w.cell? (a.add (k * 5)) = some (.bool s.x) ∧ w.cell? (a.add (k * 5 + 1)) = some (.bool s.y) ∧ w.cell? (a.add (k * 5 + 2)) = some (.bool s.a) ∧ w.cell? (a.add (k * 5 + 3)) = some (.int .i64 s.l) ∧ w.cell? (a.add (k * 5 + 4)) = some (.int .i64 s.m) := by
      have hkl : k < len := by rw [← hlen]; exact (List.getElem?_eq_some_iff.1 hk).1
      have h3 := congrArg (·[k]?) h1
      simp [hk, hkl] at h3
      obtain ⟨xs, q1, q2⟩ := hc k (by omega)
      rw [e5] at q1
      obtain ⟨q3, q4⟩ := Shape.cells_at q1
      rw [← h3] at q2
      obtain ⟨ys, _, _, q5, _, q6, q7⟩ := DataW.trod_struct Tryd.underlying67 q2
      obtain ⟨v0, v1, v2, v3, v4, rfl⟩ := fiveL q3
      have q6' : ys.length = 5 := q6
      match ys, q6' with
      | [y0, y1, y2, y3, y4], _ =>
        simp only [dsh, List.map_cons, List.map_nil, Prod.mk.injEq, DataW.agg.injEq, List.cons.injEq, and_true] at q5
        obtain ⟨⟨r0, r1, r2, r3, r4⟩, _⟩ := q5
        have f0 := q7 0 _ rfl
        have f1 := q7 1 _ rfl
        have f2 := q7 2 _ rfl
        have f3 := q7 3 _ rfl
        have f4 := q7 4 _ rfl
        obtain ⟨b0, g0, k0⟩ := DataW.trod_bool Tryd.underlying4 f0
        obtain ⟨b1, g1, k1⟩ := DataW.trod_bool Tryd.underlying4 f1
        obtain ⟨b2, g2, k2⟩ := DataW.trod_bool Tryd.underlying4 f2
        obtain ⟨b3, g3, k3, _⟩ := DataW.trod_int Tryd.underlying3 f3
        obtain ⟨b4, g4, k4, _⟩ := DataW.trod_int Tryd.underlying3 f4
        simp [e1, eb] at g0 g1 g2 g3 g4
        subst k0 k1 k2 k3 k4 g0 g1 g2 g3 g4
        simp only [DataW.lit.injEq, Lit.bool.injEq, Lit.int.injEq, true_and] at r0 r1 r2 r3 r4
        subst r0 r1 r2 r3 r4
        refine ⟨?_, ?_, ?_, ?_, ?_⟩
        · exact (congrArg w.cell? (Shape.add_add a (k * 5) 0)).symm.trans (q4 0 (by omega))
        · exact (congrArg w.cell? (Shape.add_add a (k * 5) 1)).symm.trans (q4 1 (by omega))
        · exact (congrArg w.cell? (Shape.add_add a (k * 5) 2)).symm.trans (q4 2 (by omega))
        · exact (congrArg w.cell? (Shape.add_add a (k * 5) 3)).symm.trans (q4 3 (by omega))
        · exact (congrArg w.cell? (Shape.add_add a (k * 5) 4)).symm.trans (q4 4 (by omega))
    obtain ⟨b, o, spot⟩ := a
    obtain ⟨s0, hs0⟩ : ∃ s, L[0]? = some s := ⟨_, List.getElem?_eq_getElem hne⟩
    have hspot : spot = none := by simpa [Addr.add] using World.cell?_spot (at_ 0 s0 hs0).1
    subst hspot
    refine ⟨b, o, cap, by omega, hm, by rw [hlen], fun k s hk => ?_⟩
    obtain ⟨t0, t1, t2, t3, t4⟩ := at_ k s hk
    rw [Go.WideShapes.add_plain] at t0 t1 t2 t3 t4
    exact ⟨t0, by rw [Nat.add_assoc]; exact t1, by rw [Nat.add_assoc]; exact t2, by rw [Nat.add_assoc]; exact t3, by rw [Nat.add_assoc]; exact t4⟩
theorem tb_op {w : World} {laid : List (String × DataW Unit)} (h : laidMet Tryd.prog laid w) (hn : ("loop.example/latimer/impl.opShapes", .slice (opL.map dsh) []) ∈ laid) : Tb w 0 opL := by
  obtain ⟨g, t, cs, fuel, p, hg, ht, hvar, hd⟩ := laid_mem h hn
  obtain rfl := Option.some.inj ((show Tryd.prog.globalNamed "loop.example/latimer/impl.opShapes" = some 0 by kernel_rfl).symm.trans hg)
  obtain rfl := Option.some.inj ((show (Tryd.prog.globals[(0 : Nat)]?).map (·.type) = some 68 by kernel_rfl).symm.trans ht)
  obtain ⟨b, o, c, h1, h2, h3, h4⟩ := shapes_of opL (by decide) hd
  exact ⟨b, o, c, h1, h2, var_cell hg hvar h3, h4⟩
theorem tb_en {w : World} {laid : List (String × DataW Unit)} (h : laidMet Tryd.prog laid w) (hn : ("loop.example/latimer/impl.endShapes", .slice (enL.map dsh) []) ∈ laid) : Tb w 1 enL := by
  obtain ⟨g, t, cs, fuel, p, hg, ht, hvar, hd⟩ := laid_mem h hn
  obtain rfl := Option.some.inj ((show Tryd.prog.globalNamed "loop.example/latimer/impl.endShapes" = some 1 by kernel_rfl).symm.trans hg)
  obtain rfl := Option.some.inj ((show (Tryd.prog.globals[(1 : Nat)]?).map (·.type) = some 68 by kernel_rfl).symm.trans ht)
  obtain ⟨b, o, c, h1, h2, h3, h4⟩ := shapes_of enL (by decide) hd
  exact ⟨b, o, c, h1, h2, var_cell hg hvar h3, h4⟩
end Go.Proofs.YtkeelacobknfbaaDoor.Ir
