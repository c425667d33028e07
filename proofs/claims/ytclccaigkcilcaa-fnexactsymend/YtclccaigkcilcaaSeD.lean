/-
  How code goes on: the program's askedPlace, knownPlace, plainest.
-/
import Derived.Test.YtclccaigkcilcaaSeB
namespace Go.Proofs.Ytclccaigkcilcaa.Dt
set_option linter.unusedVariables false
set_option linter.unusedSimpArgs false
open Go.ChangeShapes Go.WideShapes Go.ChangeAt Go.RowKit IntS Pol
/-- The one place where code that asks goes on, as the program finds it. -/
def askD (rel a5 bh nx ny o : Int) (bx by' : Bool) : Int × Bool := if o ≠ 0 ∧ ¬ (bx = true ∧ by' = true) then (0, false) else if Wrd.wrel rel nx ny = true then (a5, true) else (bh, true)
def knownD (a2 a5 bh nx ny o : Int) (bx by' : Bool) : Int × Bool := if a2 = 2 then (nx, bx) else if a2 = 3 then askD 1 a5 bh nx ny o bx by' else if a2 = 4 then askD 2 a5 bh nx ny o bx by' else (0, false)
def plainD (k : Int × Bool) (a2 o : Int) : Nat × Int := if k.2 = true then (1, k.1) else if a2 = 3 ∧ 0 < o then (2, 0) else (0, 0)
theorem lexI_self : ∀ a : List Int, lexI a a = 0
  | [] => rfl
  | x :: a => by
    show (if x < x then -1 else if x < x then 1 else lexI a a) = 0
    rw [if_neg (by omega), if_neg (by omega), lexI_self a]
theorem lexI_zero : ∀ {a b : List Int}, lexI a b = 0 → a = b
  | [], [], _ => rfl
  | [], _ :: _, h => by simp [lexI] at h
  | _ :: _, [], h => by simp [lexI] at h
  | x :: a, y :: b, h => by
    unfold lexI at h
    by_cases e2 : x < y
    · rw [if_pos e2] at h; omega
    · rw [if_neg e2] at h
      by_cases e3 : y < x
      · rw [if_pos e3] at h; omega
      · rw [if_neg e3] at h
        rw [lexI_zero h, show x = y by omega]
theorem ordA_none {a b : List Int} (h : ordA a b = 0) : a = b := by
  unfold ordA at h
  by_cases e1 : a.length < b.length
  · rw [if_pos e1] at h; omega
  · rw [if_neg e1] at h
    by_cases e2 : b.length < a.length
    · rw [if_pos e2] at h; omega
    · rw [if_neg e2] at h
      exact lexI_zero h
theorem ordM_none : ∀ {a b : List Mono}, ordM a b = 0 → a = b
  | [], [], _ => rfl
  | [], _ :: _, h => by simp [ordM] at h
  | _ :: _, [], h => by simp [ordM] at h
  | x :: a, y :: b, h => by
    unfold ordM at h
    by_cases e1 : ordA x.2 y.2 = 0
    · rw [if_neg (fun h => h e1)] at h
      by_cases e2 : x.1 < y.1
      · rw [if_pos e2] at h; omega
      · rw [if_neg e2] at h
        by_cases e3 : y.1 < x.1
        · rw [if_pos e3] at h; omega
        · rw [if_neg e3] at h
          have h4 := ordM_none h
          have h5 := ordA_none e1
          obtain ⟨c, u⟩ := x
          obtain ⟨d, v⟩ := y
          simp only at *
          have : c = d := by omega
          rw [this, h5, h4]
    · rw [if_pos e1] at h
      exact absurd h e1
theorem ordM_same : ∀ a : List Mono, ordM a a = 0
  | [] => rfl
  | x :: a => by
    unfold ordM
    rw [if_neg (fun h => h (by unfold ordA; rw [if_neg (by omega), if_neg (by omega), lexI_self])), if_neg (by omega), if_neg (by omega), ordM_same a]
theorem ordP_none {a b : List Mono} (h : ordP a b = 0) : a = b := by
  unfold ordP at h
  by_cases e1 : a.length < b.length
  · rw [if_pos e1] at h; omega
  · rw [if_neg e1] at h
    by_cases e2 : b.length < a.length
    · rw [if_pos e2] at h; omega
    · rw [if_neg e2] at h
      exact ordM_none h
theorem ordP_refl (a : List Mono) : ordP a a = 0 := by
  unfold ordP
  rw [if_neg (by omega), if_neg (by omega), ordM_same]
/-- What a sum that is a word is. -/
theorem num_form {p : List Mono} (h : (numP p).2 = true) : (p = [] ∧ (numP p).1 = 0) ∨ ∃ c, p = [(c, [])] ∧ (numP p).1 = c ∧ 1 ≤ c ∧ c ≤ 65535 := by
  unfold numP at h ⊢
  by_cases e : okP p = false
  · rw [if_pos e] at h; cases h
  · rw [if_neg e] at h ⊢
    match p, h, e with
    | [], _, _ => exact Or.inl ⟨rfl, rfl⟩
    | [(c, [])], _, e =>
      refine Or.inr ⟨c, rfl, rfl, ?_⟩
      have e2 : okP [(c, [])] = true := by revert e; cases okP [(c, [])] <;> simp
      simp [okP, Pol.partAt, monoB] at e2
      omega
    | (c, x :: r) :: rest, h, _ => simp at h
    | (c, []) :: y :: rest, h, _ => simp at h
theorem num_word (p : List Mono) : 0 ≤ (numP p).1 ∧ (numP p).1 < 65536 := by
  cases h : (numP p).2 with
  | true =>
    rcases num_form h with ⟨_, e⟩ | ⟨c, _, e, h1, h2⟩ <;> omega
  | false =>
    have : (numP p).1 = 0 := by
      unfold numP at h ⊢
      by_cases e : okP p = false
      · rw [if_pos e]
      · rw [if_neg e] at h ⊢
        match p, h with
        | [], h => cases h
        | [(c, [])], h => cases h
        | (c, x :: r) :: rest, _ => rfl
        | (c, []) :: y :: rest, _ => rfl
    omega
theorem num_both {p r : List Mono} (h : (numP p).2 = true) (h' : (numP r).2 = true) : (numP p).1 = (numP r).1 ↔ ordP p r = 0 := by
  constructor
  · intro e
    rcases num_form h with ⟨e1, e2⟩ | ⟨c, e1, e2, h1, h2⟩ <;> rcases num_form h' with ⟨e3, e4⟩ | ⟨d, e3, e4, h3, h4⟩
    · rw [e1, e3]; exact ordP_refl _
    · omega
    · omega
    · rw [e1, e3, show c = d by omega]; exact ordP_refl _
  · intro e
    rw [ordP_none e]
theorem known_eq (a2 a5 bh : Int) (p r : List Mono) : plainD (knownD a2 a5 bh (numP p).1 (numP r).1 (ordP p r) (numP p).2 (numP r).2) a2 (ordP p r) = endD a2 a5 bh (numP p).1 (numP r).1 (ordP p r) (numP p).2 (numP r).2 := by
  have wx := num_word p
  have wy := num_word r
  have FB := num_both (p := p) (r := r)
  have FE : ordP p r = 0 → (numP p).1 = (numP r).1 := fun e => by rw [ordP_none e]
  have w1 : Wrd.wrel 1 (numP p).1 (numP r).1 = decide ((numP p).1 = (numP r).1) := Wrd.wrel1 wx wy
  have w2 : Wrd.wrel 2 (numP p).1 (numP r).1 = decide ((numP p).1 < (numP r).1) := by
    unfold Wrd.wrel
    rw [Wrd.wok_t wx.1 wx.2, Wrd.wok_t wy.1 wy.2]
    simp
  unfold knownD endD askD ifD
  rw [w1, w2]
  generalize (numP p).1 = nx at *
  generalize (numP r).1 = ny at *
  generalize (numP p).2 = bx at *
  generalize (numP r).2 = bY at *
  generalize ordP p r = o at *
  unfold plainD
  by_cases e2 : a2 = 2
  · subst e2
    cases bx <;> simp
  by_cases e3 : a2 = 3
  · subst e3
    by_cases e0 : o = 0
    · have := FE e0
      subst e0 this
      simp
    · cases bx with
      | false => simp [e0]
      | true =>
        cases bY with
        | false => simp [e0]
        | true =>
          have ne : ¬ nx = ny := fun e => e0 ((FB rfl rfl).1 e)
          simp [e0, ne]
  by_cases e4 : a2 = 4
  · subst e4
    by_cases e0 : o = 0
    · have := FE e0
      subst e0 this
      simp
    · cases bx with
      | false => simp [e0]
      | true =>
        cases bY with
        | false => simp [e0]
        | true =>
          by_cases el : nx < ny
          · simp [e0, el]
          · simp [e0, el]
  · simp [e2, e3, e4]
set_option maxRecDepth 8000 in
set_option maxHeartbeats 8000000 in
theorem askedPlace (q0 : Option Addr) (n0 c0 : Nat) (q1 : Option Addr) (n1 c1 : Nat) (a2 : Int) (q3 : Option Addr) (n3 c3 : Nat) (q4 : Option Addr) (n4 c4 : Nat) (a5 : Int) (rel : Int) (bh : Int) (p r : List Mono) (w : World) (hx : polyK.rd w (.slice q3 n3 c3) p) (hy : polyK.rd w (.slice q4 n4 c4) r) :
    Calls Try.prog 79 #[.agg #[.slice q0 n0 c0, .slice q1 n1 c1, .int .i64 a2, .slice q3 n3 c3, .slice q4 n4 c4, .int .i64 a5], .int .i64 rel, .int .i64 bh] w fun e w' => e = .returned (.tuple #[.int .i64 (askD rel a5 bh (numP p).1 (numP r).1 (ordP p r) (numP p).2 (numP r).2).1, .bool (askD rel a5 bh (numP p).1 (numP r).1 (ordP p r) (numP p).2 (numP r).2).2]) ∧ Below w.heap.size w w' := by
  obtain ⟨nx, enx⟩ : ∃ z, (numP p).1 = z := ⟨_, rfl⟩
  obtain ⟨ny, eny⟩ : ∃ z, (numP r).1 = z := ⟨_, rfl⟩
  obtain ⟨bx, ebx⟩ : ∃ z, (numP p).2 = z := ⟨_, rfl⟩
  obtain ⟨bY, eby⟩ : ∃ z, (numP r).2 = z := ⟨_, rfl⟩
  obtain ⟨od, eod⟩ : ∃ z, ordP p r = z := ⟨_, rfl⟩
  rw [enx, eny, ebx, eby, eod]
  have NX := hide (And.intro enx ebx)
  have NY := hide (And.intro eny eby)
  have OO := hide eod
  clear enx eny ebx eby eod
  obtain ⟨C, eC⟩ : ∃ C, askD rel a5 bh nx ny od bx bY = C := ⟨_, rfl⟩
  rw [eC]
  have EC := hide eC
  clear eC
  have R0 := (Rec.new w [.slice q0 n0 c0, .slice q1 n1 c1, .int .i64 a2, .slice q3 n3 c3, .slice q4 n4 c4, .int .i64 a5] 37)
  have b0 : Below w.heap.size w (w.alloc (.cells #[.slice q0 n0 c0, .slice q1 n1 c1, .int .i64 a2, .slice q3 n3 c3, .slice q4 n4 c4, .int .i64 a5] 37)) := (Below.refl _ _).alloc (Nat.le_refl _) _
  have RS := hide R0
  have BW := hide b0
  clear R0 b0
  have HX := hide (polyK.rb hx BW.out)
  have HY := hide (polyK.rb hy BW.out)
  clear hx hy
  go_enter Try.func79, Try.ntmps79
  go_wp2_with fail
  generalize (w.alloc (.cells #[.slice q0 n0 c0, .slice q1 n1 c1, .int .i64 a2, .slice q3 n3 c3, .slice q4 n4 c4, .int .i64 a5] 37)) = W0 at RS BW HX HY ⊢
  refine (implNumD p _ _ HX.out).mono ?_
  rintro e u1 ⟨rfl, hb⟩
  rw [NX.out.1, NX.out.2]
  replace HX := hide (polyK.rb HX.out hb)
  replace HY := hide (polyK.rb HY.out hb)
  replace RS := hide (RS.out.below hb)
  replace BW := hide (BW.out.trans (hb.mono BW.out.size))
  clear hb
  have z0 := RS.out.cell 0 _ rfl
  have z1 := RS.out.cell 1 _ rfl
  have z2 := RS.out.cell 2 _ rfl
  have z3 := RS.out.cell 3 _ rfl
  have z4 := RS.out.cell 4 _ rfl
  have z5 := RS.out.cell 5 _ rfl
  go_wp2_with fail
  refine (implNumD r _ _ HY.out).mono ?_
  rintro e u2 ⟨rfl, hb⟩
  rw [NY.out.1, NY.out.2]
  clear z0 z1 z2 z3 z4 z5
  replace HX := hide (polyK.rb HX.out hb)
  replace HY := hide (polyK.rb HY.out hb)
  replace RS := hide (RS.out.below hb)
  replace BW := hide (BW.out.trans (hb.mono BW.out.size))
  clear hb
  have z0 := RS.out.cell 0 _ rfl
  have z1 := RS.out.cell 1 _ rfl
  have z2 := RS.out.cell 2 _ rfl
  have z3 := RS.out.cell 3 _ rfl
  have z4 := RS.out.cell 4 _ rfl
  have z5 := RS.out.cell 5 _ rfl
  go_wp2_with fail
  refine (implOrdD p r _ _ _ HX.out HY.out).mono ?_
  rintro e u3 ⟨rfl, hb⟩
  rw [OO.out]
  clear z0 z1 z2 z3 z4 z5
  replace HX := hide (polyK.rb HX.out hb)
  replace HY := hide (polyK.rb HY.out hb)
  replace RS := hide (RS.out.below hb)
  replace BW := hide (BW.out.trans (hb.mono BW.out.size))
  clear hb
  have z0 := RS.out.cell 0 _ rfl
  have z1 := RS.out.cell 1 _ rfl
  have z2 := RS.out.cell 2 _ rfl
  have z3 := RS.out.cell 3 _ rfl
  have z4 := RS.out.cell 4 _ rfl
  have z5 := RS.out.cell 5 _ rfl
  by_cases e0 : od = 0
  case pos =>
    subst e0
    go_wp2_with fail
    refine (Wrd.implRel rel nx ny _).mono ?_
    rintro e u4 ⟨rfl, eu⟩
    subst eu
    obtain ⟨wr, ewr⟩ : ∃ b, Wrd.wrel rel nx ny = b := ⟨_, rfl⟩
    rw [ewr]
    have EW := hide ewr
    clear ewr
    cases wr with
    | true =>
      obtain rfl : (a5, true) = C := (show _ = _ from by unfold askD; simp [(show (0 : Int) = 0 from rfl), EW.out]).trans EC.out
      clear EC NX NY OO HX HY RS
      go_wp2
      exact bodyPost_ret (v := .tuple #[.int .i64 a5, .bool true]) (by simp [results, Try.results79, go_sem]) rfl ⟨rfl, BW.out⟩
    | false =>
      obtain rfl : (bh, true) = C := (show _ = _ from by unfold askD; simp [(show (0 : Int) = 0 from rfl), EW.out]).trans EC.out
      clear EC NX NY OO HX HY RS
      go_wp2
      exact bodyPost_ret (v := .tuple #[.int .i64 bh, .bool true]) (by simp [results, Try.results79, go_sem]) rfl ⟨rfl, BW.out⟩
  have b0 : (od != 0) = true := by simpa using e0
  cases bx with
  | false =>
    obtain rfl : (0, false) = C := (show _ = _ from by unfold askD; simp [e0]).trans EC.out
    clear EC NX NY OO HX HY RS
    go_wp2
    exact bodyPost_ret (v := .tuple #[.int .i64 0, .bool false]) (by simp [results, Try.results79, go_sem]) rfl ⟨rfl, BW.out⟩
  | true =>
  cases bY with
  | false =>
    obtain rfl : (0, false) = C := (show _ = _ from by unfold askD; simp [e0]).trans EC.out
    clear EC NX NY OO HX HY RS
    go_wp2
    exact bodyPost_ret (v := .tuple #[.int .i64 0, .bool false]) (by simp [results, Try.results79, go_sem]) rfl ⟨rfl, BW.out⟩
  | true =>
    go_wp2_with fail
    refine (Wrd.implRel rel nx ny _).mono ?_
    rintro e u4 ⟨rfl, eu⟩
    subst eu
    obtain ⟨wr, ewr⟩ : ∃ b, Wrd.wrel rel nx ny = b := ⟨_, rfl⟩
    rw [ewr]
    have EW := hide ewr
    clear ewr
    cases wr with
    | true =>
      obtain rfl : (a5, true) = C := (show _ = _ from by unfold askD; simp [e0, EW.out]).trans EC.out
      clear EC NX NY OO HX HY RS
      go_wp2
      exact bodyPost_ret (v := .tuple #[.int .i64 a5, .bool true]) (by simp [results, Try.results79, go_sem]) rfl ⟨rfl, BW.out⟩
    | false =>
      obtain rfl : (bh, true) = C := (show _ = _ from by unfold askD; simp [e0, EW.out]).trans EC.out
      clear EC NX NY OO HX HY RS
      go_wp2
      exact bodyPost_ret (v := .tuple #[.int .i64 bh, .bool true]) (by simp [results, Try.results79, go_sem]) rfl ⟨rfl, BW.out⟩
set_option maxRecDepth 8000 in
set_option maxHeartbeats 8000000 in
theorem knownPlace (q0 : Option Addr) (n0 c0 : Nat) (q1 : Option Addr) (n1 c1 : Nat) (a2 : Int) (q3 : Option Addr) (n3 c3 : Nat) (q4 : Option Addr) (n4 c4 : Nat) (a5 : Int) (bh : Int) (p r : List Mono) (w : World) (hx : polyK.rd w (.slice q3 n3 c3) p) (hy : polyK.rd w (.slice q4 n4 c4) r) :
    Calls Try.prog 60 #[.agg #[.slice q0 n0 c0, .slice q1 n1 c1, .int .i64 a2, .slice q3 n3 c3, .slice q4 n4 c4, .int .i64 a5], .int .i64 bh] w fun e w' => e = .returned (.tuple #[.int .i64 (knownD a2 a5 bh (numP p).1 (numP r).1 (ordP p r) (numP p).2 (numP r).2).1, .bool (knownD a2 a5 bh (numP p).1 (numP r).1 (ordP p r) (numP p).2 (numP r).2).2]) ∧ Below w.heap.size w w' := by
  obtain ⟨C, eC⟩ : ∃ C, knownD a2 a5 bh (numP p).1 (numP r).1 (ordP p r) (numP p).2 (numP r).2 = C := ⟨_, rfl⟩
  rw [eC]
  have EC := hide eC
  clear eC
  have R0 := (Rec.new w [.slice q0 n0 c0, .slice q1 n1 c1, .int .i64 a2, .slice q3 n3 c3, .slice q4 n4 c4, .int .i64 a5] 37)
  have b0 : Below w.heap.size w (w.alloc (.cells #[.slice q0 n0 c0, .slice q1 n1 c1, .int .i64 a2, .slice q3 n3 c3, .slice q4 n4 c4, .int .i64 a5] 37)) := (Below.refl _ _).alloc (Nat.le_refl _) _
  have RS := hide R0
  have BW := hide b0
  clear R0 b0
  have HX := hide (polyK.rb hx BW.out)
  have HY := hide (polyK.rb hy BW.out)
  clear hx hy
  go_enter Try.func60, Try.ntmps60
  by_cases e2 : a2 = 2
  case pos =>
    subst e2
    replace EC : Hid (numP p = C) := (show _ = _ from by unfold knownD; simp).trans EC.out
    go_wp2_with fail
    refine (implNumD p _ _ HX.out).mono ?_
    rintro e u1 ⟨rfl, hb⟩
    have EC2 := EC.out
    have BW2 := hide (BW.out.trans (hb.mono BW.out.size))
    subst EC2
    obtain ⟨v1, e1⟩ : ∃ z, (numP p).1 = z := ⟨_, rfl⟩
    obtain ⟨v2, e2'⟩ : ∃ z, (numP p).2 = z := ⟨_, rfl⟩
    rw [e1, e2']
    have E1 := hide e1
    have E2 := hide e2'
    clear EC hb BW RS HX HY e1 e2'
    go_wp2
    exact bodyPost_ret (v := .tuple #[.int .i64 v1, .bool v2]) (by simp [results, Try.results60, go_sem]) rfl ⟨by rw [E1.out, E2.out], BW2.out⟩
  have b2 : (a2 == 2) = false := by simpa using e2
  by_cases e3 : a2 = 3
  case pos =>
    subst e3
    replace EC : Hid (askD 1 a5 bh (numP p).1 (numP r).1 (ordP p r) (numP p).2 (numP r).2 = C) := (show _ = _ from by unfold knownD; simp).trans EC.out
    go_wp2_with fail
    refine (askedPlace q0 n0 c0 q1 n1 c1 3 q3 n3 c3 q4 n4 c4 a5 1 bh p r _ HX.out HY.out).mono ?_
    rintro e u1 ⟨rfl, hb⟩
    have EC2 := EC.out
    have BW2 := hide (BW.out.trans (hb.mono BW.out.size))
    subst EC2
    obtain ⟨v1, e1⟩ : ∃ z, (askD 1 a5 bh (numP p).1 (numP r).1 (ordP p r) (numP p).2 (numP r).2).1 = z := ⟨_, rfl⟩
    obtain ⟨v2, e2'⟩ : ∃ z, (askD 1 a5 bh (numP p).1 (numP r).1 (ordP p r) (numP p).2 (numP r).2).2 = z := ⟨_, rfl⟩
    rw [e1, e2']
    have E1 := hide e1
    have E2 := hide e2'
    clear EC hb BW RS HX HY e1 e2'
    go_wp2
    exact bodyPost_ret (v := .tuple #[.int .i64 v1, .bool v2]) (by simp [results, Try.results60, go_sem]) rfl ⟨by rw [E1.out, E2.out], BW2.out⟩
  have b3 : (a2 == 3) = false := by simpa using e3
  by_cases e4 : a2 = 4
  case pos =>
    subst e4
    replace EC : Hid (askD 2 a5 bh (numP p).1 (numP r).1 (ordP p r) (numP p).2 (numP r).2 = C) := (show _ = _ from by unfold knownD; simp).trans EC.out
    go_wp2_with fail
    refine (askedPlace q0 n0 c0 q1 n1 c1 4 q3 n3 c3 q4 n4 c4 a5 2 bh p r _ HX.out HY.out).mono ?_
    rintro e u1 ⟨rfl, hb⟩
    have EC2 := EC.out
    have BW2 := hide (BW.out.trans (hb.mono BW.out.size))
    subst EC2
    obtain ⟨v1, e1⟩ : ∃ z, (askD 2 a5 bh (numP p).1 (numP r).1 (ordP p r) (numP p).2 (numP r).2).1 = z := ⟨_, rfl⟩
    obtain ⟨v2, e2'⟩ : ∃ z, (askD 2 a5 bh (numP p).1 (numP r).1 (ordP p r) (numP p).2 (numP r).2).2 = z := ⟨_, rfl⟩
    rw [e1, e2']
    have E1 := hide e1
    have E2 := hide e2'
    clear EC hb BW RS HX HY e1 e2'
    go_wp2
    exact bodyPost_ret (v := .tuple #[.int .i64 v1, .bool v2]) (by simp [results, Try.results60, go_sem]) rfl ⟨by rw [E1.out, E2.out], BW2.out⟩
  have b4 : (a2 == 4) = false := by simpa using e4
  obtain rfl : (0, false) = C := (show _ = _ from by unfold knownD; rw [if_neg e2, if_neg e3, if_neg e4]).trans EC.out
  clear EC RS HX HY
  go_wp2
  exact bodyPost_ret (v := .tuple #[.int .i64 0, .bool false]) (by simp [results, Try.results60, go_sem]) rfl ⟨rfl, BW.out⟩
set_option maxRecDepth 8000 in
set_option maxHeartbeats 8000000 in
theorem plainest (q0 : Option Addr) (n0 c0 : Nat) (q1 : Option Addr) (n1 c1 : Nat) (a2 : Int) (q3 : Option Addr) (n3 c3 : Nat) (q4 : Option Addr) (n4 c4 : Nat) (a5 : Int) (bh : Int) (p r : List Mono) (w : World) (hx : polyK.rd w (.slice q3 n3 c3) p) (hy : polyK.rd w (.slice q4 n4 c4) r) :
    Calls Try.prog 37 #[.agg #[.slice q0 n0 c0, .slice q1 n1 c1, .int .i64 a2, .slice q3 n3 c3, .slice q4 n4 c4, .int .i64 a5], .int .i64 bh] w fun e w' => e = .returned (.agg (cellD (endD a2 a5 bh (numP p).1 (numP r).1 (ordP p r) (numP p).2 (numP r).2) q0 n0 c0 q1 n1 c1 a2 q3 n3 c3 q4 n4 c4 a5).toArray) ∧ Below w.heap.size w w' := by
  rw [← known_eq]
  obtain ⟨K, eK⟩ : ∃ C, knownD a2 a5 bh (numP p).1 (numP r).1 (ordP p r) (numP p).2 (numP r).2 = C := ⟨_, rfl⟩
  obtain ⟨od, eod⟩ : ∃ z, ordP p r = z := ⟨_, rfl⟩
  rw [eK, eod]
  have EK := hide eK
  have OO := hide eod
  obtain ⟨C, eC⟩ : ∃ C, cellD (plainD K a2 od) q0 n0 c0 q1 n1 c1 a2 q3 n3 c3 q4 n4 c4 a5 = C := ⟨_, rfl⟩
  rw [eC]
  have EC := hide eC
  clear eC eK eod
  obtain ⟨kp, kb⟩ := K
  have R0 := (Rec.new w [.slice q0 n0 c0, .slice q1 n1 c1, .int .i64 a2, .slice q3 n3 c3, .slice q4 n4 c4, .int .i64 a5] 37).alloc (.cells #[.slice none 0 0, .slice none 0 0, .int .i64 0, .slice none 0 0, .slice none 0 0, .int .i64 0] 37)
  have R1 := Rec.new (w.alloc (.cells #[.slice q0 n0 c0, .slice q1 n1 c1, .int .i64 a2, .slice q3 n3 c3, .slice q4 n4 c4, .int .i64 a5] 37)) [.slice none 0 0, .slice none 0 0, .int .i64 0, .slice none 0 0, .slice none 0 0, .int .i64 0] 37
  rw [show (w.alloc (.cells #[.slice q0 n0 c0, .slice q1 n1 c1, .int .i64 a2, .slice q3 n3 c3, .slice q4 n4 c4, .int .i64 a5] 37)).heap.size = w.heap.size + 1 by simp] at R1
  have b0 : Below w.heap.size w ((w.alloc (.cells #[.slice q0 n0 c0, .slice q1 n1 c1, .int .i64 a2, .slice q3 n3 c3, .slice q4 n4 c4, .int .i64 a5] 37)).alloc (.cells #[.slice none 0 0, .slice none 0 0, .int .i64 0, .slice none 0 0, .slice none 0 0, .int .i64 0] 37)) := ((Below.refl _ _).alloc (Nat.le_refl _) _).alloc (by simp) _
  have RS := hide R0
  have RZ := hide R1
  have BW := hide b0
  clear R0 R1 b0
  have HX := hide (polyK.rb hx BW.out)
  have HY := hide (polyK.rb hy BW.out)
  clear hx hy
  go_enter Try.func37, Try.ntmps37
  go_wp2_with fail
  generalize ((w.alloc (.cells #[.slice q0 n0 c0, .slice q1 n1 c1, .int .i64 a2, .slice q3 n3 c3, .slice q4 n4 c4, .int .i64 a5] 37)).alloc (.cells #[.slice none 0 0, .slice none 0 0, .int .i64 0, .slice none 0 0, .slice none 0 0, .int .i64 0] 37)) = W0 at RS BW HX HY RZ ⊢
  refine (knownPlace q0 n0 c0 q1 n1 c1 a2 q3 n3 c3 q4 n4 c4 a5 bh p r _ HX.out HY.out).mono ?_
  rintro e u1 ⟨rfl, hb⟩
  rw [EK.out]
  replace HX := hide (polyK.rb HX.out hb)
  replace HY := hide (polyK.rb HY.out hb)
  replace RS := hide (RS.out.below hb)
  replace RZ := hide (RZ.out.below hb)
  replace BW := hide (BW.out.trans (hb.mono BW.out.size))
  clear hb
  have z0 := RS.out.cell 0 _ rfl
  have z1 := RS.out.cell 1 _ rfl
  have z2 := RS.out.cell 2 _ rfl
  have z3 := RS.out.cell 3 _ rfl
  have z4 := RS.out.cell 4 _ rfl
  have z5 := RS.out.cell 5 _ rfl
  clear EK
  cases kb with
  | true =>
    obtain rfl : [.slice q0 n0 c0, .slice q1 n1 c1, .int .i64 1, .slice none 0 0, .slice none 0 0, .int .i64 kp] = C := (show _ = _ from by unfold cellD plainD; simp).trans EC.out
    clear EC OO HX HY
    go_wp2_with (refine putSymSym_2 rfl rfl _ _ rfl w.heap.size 2 _ RS.out (by simp) rfl _ rfl ?_; intro p25 RB TB; refine Hid.out ?_)
    replace RS : Hid (Rec w.heap.size [.slice q0 n0 c0, .slice q1 n1 c1, .int .i64 1, .slice q3 n3 c3, .slice q4 n4 c4, .int .i64 a5] p25) := RB
    replace RZ := hide (RZ.out.turn TB.out (by omega))
    replace BW := hide (BW.out.trans (TB.out.below (Nat.le_refl _) BW.out.size))
    clear RB TB
    refine hide ?_
    go_wp2_with (refine putSymSym_3 rfl rfl _ _ rfl w.heap.size 3 _ RS.out (by simp) rfl _ _ _ rfl ?_; intro p26 RB TB; refine Hid.out ?_)
    replace RS : Hid (Rec w.heap.size [.slice q0 n0 c0, .slice q1 n1 c1, .int .i64 1, .slice none 0 0, .slice q4 n4 c4, .int .i64 a5] p26) := RB
    replace RZ := hide (RZ.out.turn TB.out (by omega))
    replace BW := hide (BW.out.trans (TB.out.below (Nat.le_refl _) BW.out.size))
    clear RB TB
    refine hide ?_
    go_wp2_with (refine putSymSym_3 rfl rfl _ _ rfl w.heap.size 4 _ RS.out (by simp) rfl _ _ _ rfl ?_; intro p27 RB TB; refine Hid.out ?_)
    replace RS : Hid (Rec w.heap.size [.slice q0 n0 c0, .slice q1 n1 c1, .int .i64 1, .slice none 0 0, .slice none 0 0, .int .i64 a5] p27) := RB
    replace RZ := hide (RZ.out.turn TB.out (by omega))
    replace BW := hide (BW.out.trans (TB.out.below (Nat.le_refl _) BW.out.size))
    clear RB TB
    refine hide ?_
    go_wp2_with (refine putSymSym_2 rfl rfl _ _ rfl w.heap.size 5 _ RS.out (by simp) rfl _ rfl ?_; intro p28 RB TB; refine Hid.out ?_)
    replace RS : Hid (Rec w.heap.size [.slice q0 n0 c0, .slice q1 n1 c1, .int .i64 1, .slice none 0 0, .slice none 0 0, .int .i64 kp] p28) := RB
    replace RZ := hide (RZ.out.turn TB.out (by omega))
    replace BW := hide (BW.out.trans (TB.out.below (Nat.le_refl _) BW.out.size))
    clear RB TB
    refine hide ?_
    clear z0 z1 z2 z3 z4 z5
    have z0 := RS.out.cell 0 _ rfl
    have z1 := RS.out.cell 1 _ rfl
    have z2 := RS.out.cell 2 _ rfl
    have z3 := RS.out.cell 3 _ rfl
    have z4 := RS.out.cell 4 _ rfl
    have z5 := RS.out.cell 5 _ rfl
    go_wp2_with (refine laySymSym rfl rfl _ _ rfl (w.heap.size + 1) _ _ _ _ _ _ RZ.out rfl _ _ _ _ _ _ _ _ _ _ _ _ _ _ rfl ?_; intro p29 RB TB; refine Hid.out ?_)
    replace BW := hide (BW.out.trans (TB.out.below (by omega) BW.out.size))
    clear TB
    refine hide ?_
    have y0 := RB.out.cell 0 _ rfl
    have y1 := RB.out.cell 1 _ rfl
    have y2 := RB.out.cell 2 _ rfl
    have y3 := RB.out.cell 3 _ rfl
    have y4 := RB.out.cell 4 _ rfl
    have y5 := RB.out.cell 5 _ rfl
    go_wp2
    exact bodyPost_ret (v := .agg #[.slice q0 n0 c0, .slice q1 n1 c1, .int .i64 1, .slice none 0 0, .slice none 0 0, .int .i64 kp]) (by simp [results, Try.results37, go_sem, y0, y1, y2, y3, y4, y5]) rfl ⟨rfl, BW.out⟩
  | false =>
  by_cases e3 : a2 = 3
  case neg =>
    have b3 : (a2 == 3) = false := by simpa using e3
    obtain rfl : [.slice q0 n0 c0, .slice q1 n1 c1, .int .i64 a2, .slice q3 n3 c3, .slice q4 n4 c4, .int .i64 a5] = C := (show _ = _ from by unfold cellD plainD; simp [e3]).trans EC.out
    clear EC OO HX HY
    go_wp2_with (refine laySymSym rfl rfl _ _ rfl (w.heap.size + 1) _ _ _ _ _ _ RZ.out rfl _ _ _ _ _ _ _ _ _ _ _ _ _ _ rfl ?_; intro p30 RB TB; refine Hid.out ?_)
    replace BW := hide (BW.out.trans (TB.out.below (by omega) BW.out.size))
    clear TB
    refine hide ?_
    have y0 := RB.out.cell 0 _ rfl
    have y1 := RB.out.cell 1 _ rfl
    have y2 := RB.out.cell 2 _ rfl
    have y3 := RB.out.cell 3 _ rfl
    have y4 := RB.out.cell 4 _ rfl
    have y5 := RB.out.cell 5 _ rfl
    go_wp2
    exact bodyPost_ret (v := .agg #[.slice q0 n0 c0, .slice q1 n1 c1, .int .i64 a2, .slice q3 n3 c3, .slice q4 n4 c4, .int .i64 a5]) (by simp [results, Try.results37, go_sem, y0, y1, y2, y3, y4, y5]) rfl ⟨rfl, BW.out⟩
  subst e3
  go_wp2_with fail
  refine (implOrdD p r _ _ _ HX.out HY.out).mono ?_
  rintro e u2 ⟨rfl, hb⟩
  rw [OO.out]
  clear z0 z1 z2 z3 z4 z5
  replace HX := hide (polyK.rb HX.out hb)
  replace HY := hide (polyK.rb HY.out hb)
  replace RS := hide (RS.out.below hb)
  replace RZ := hide (RZ.out.below hb)
  replace BW := hide (BW.out.trans (hb.mono BW.out.size))
  clear hb
  have z0 := RS.out.cell 0 _ rfl
  have z1 := RS.out.cell 1 _ rfl
  have z2 := RS.out.cell 2 _ rfl
  have z3 := RS.out.cell 3 _ rfl
  have z4 := RS.out.cell 4 _ rfl
  have z5 := RS.out.cell 5 _ rfl
  by_cases ep : 0 < od
  case neg =>
    have bp : ¬ od > 0 := ep
    obtain rfl : [.slice q0 n0 c0, .slice q1 n1 c1, .int .i64 3, .slice q3 n3 c3, .slice q4 n4 c4, .int .i64 a5] = C := (show _ = _ from by unfold cellD plainD; simp [ep]).trans EC.out
    clear EC OO HX HY
    go_wp2_with (refine laySymSym rfl rfl _ _ rfl (w.heap.size + 1) _ _ _ _ _ _ RZ.out rfl _ _ _ _ _ _ _ _ _ _ _ _ _ _ rfl ?_; intro p31 RB TB; refine Hid.out ?_)
    replace BW := hide (BW.out.trans (TB.out.below (by omega) BW.out.size))
    clear TB
    refine hide ?_
    have y0 := RB.out.cell 0 _ rfl
    have y1 := RB.out.cell 1 _ rfl
    have y2 := RB.out.cell 2 _ rfl
    have y3 := RB.out.cell 3 _ rfl
    have y4 := RB.out.cell 4 _ rfl
    have y5 := RB.out.cell 5 _ rfl
    go_wp2
    exact bodyPost_ret (v := .agg #[.slice q0 n0 c0, .slice q1 n1 c1, .int .i64 3, .slice q3 n3 c3, .slice q4 n4 c4, .int .i64 a5]) (by simp [results, Try.results37, go_sem, y0, y1, y2, y3, y4, y5]) rfl ⟨rfl, BW.out⟩
  have bp : od > 0 := ep
  obtain rfl : [.slice q0 n0 c0, .slice q1 n1 c1, .int .i64 3, .slice q4 n4 c4, .slice q3 n3 c3, .int .i64 a5] = C := (show _ = _ from by unfold cellD plainD; simp [ep]).trans EC.out
  clear EC OO HX HY
  go_wp2_with (refine putSymSym_3 rfl rfl _ _ rfl w.heap.size 3 _ RS.out (by simp) rfl _ _ _ rfl ?_; intro p32 RB TB; refine Hid.out ?_)
  replace RS : Hid (Rec w.heap.size [.slice q0 n0 c0, .slice q1 n1 c1, .int .i64 3, .slice q4 n4 c4, .slice q4 n4 c4, .int .i64 a5] p32) := RB
  replace RZ := hide (RZ.out.turn TB.out (by omega))
  replace BW := hide (BW.out.trans (TB.out.below (Nat.le_refl _) BW.out.size))
  clear RB TB
  refine hide ?_
  go_wp2_with (refine putSymSym_3 rfl rfl _ _ rfl w.heap.size 4 _ RS.out (by simp) rfl _ _ _ rfl ?_; intro p33 RB TB; refine Hid.out ?_)
  replace RS : Hid (Rec w.heap.size [.slice q0 n0 c0, .slice q1 n1 c1, .int .i64 3, .slice q4 n4 c4, .slice q3 n3 c3, .int .i64 a5] p33) := RB
  replace RZ := hide (RZ.out.turn TB.out (by omega))
  replace BW := hide (BW.out.trans (TB.out.below (Nat.le_refl _) BW.out.size))
  clear RB TB
  refine hide ?_
  clear z0 z1 z2 z3 z4 z5
  have z0 := RS.out.cell 0 _ rfl
  have z1 := RS.out.cell 1 _ rfl
  have z2 := RS.out.cell 2 _ rfl
  have z3 := RS.out.cell 3 _ rfl
  have z4 := RS.out.cell 4 _ rfl
  have z5 := RS.out.cell 5 _ rfl
  go_wp2_with (refine laySymSym rfl rfl _ _ rfl (w.heap.size + 1) _ _ _ _ _ _ RZ.out rfl _ _ _ _ _ _ _ _ _ _ _ _ _ _ rfl ?_; intro p34 RB TB; refine Hid.out ?_)
  replace BW := hide (BW.out.trans (TB.out.below (by omega) BW.out.size))
  clear TB
  refine hide ?_
  have y0 := RB.out.cell 0 _ rfl
  have y1 := RB.out.cell 1 _ rfl
  have y2 := RB.out.cell 2 _ rfl
  have y3 := RB.out.cell 3 _ rfl
  have y4 := RB.out.cell 4 _ rfl
  have y5 := RB.out.cell 5 _ rfl
  go_wp2
  exact bodyPost_ret (v := .agg #[.slice q0 n0 c0, .slice q1 n1 c1, .int .i64 3, .slice q4 n4 c4, .slice q3 n3 c3, .int .i64 a5]) (by simp [results, Try.results37, go_sem, y0, y1, y2, y3, y4, y5]) rfl ⟨rfl, BW.out⟩
end Go.Proofs.Ytclccaigkcilcaa.Dt
