/-
  A drawn region at which a call that leaves the world as it is may be taken first.
-/
import Derived.Test.YtkeelacobknfbaaDoorPhaseTw
namespace Go.Proofs.YtkeelacobknfbaaDoor.PhaseIn
open Go
section
variable {P : Program} {ops : Array Oper} {Q : Exit → Act → World → Prop} {md : Region.Mode} {S : World → Prop} {n : Nat}
theorem put_opY {j : Nat} {oi oj : Oper} {v : Value} (Y : Act → Prop) (hst : ∀ b b' : Act, Y b → execOp b'.eval oi = execOp b.eval oi → Region.wanted oi (yielded ops b'.tmps) = Region.wanted oi (yielded ops b.tmps) → Y b') (hj : ops[j]? = some oj) (hap : oi.apart ops oj = true) (hsi : ∀ cs b, oi.op ≠ .select cs b) (hsj : ∀ cs b, oj.op ≠ .select cs b)
    (hQ : ∀ c a w, Q (.panic c) (a.put oi.dst v) w → Q (.panic c) a w) {K : Act → World → Prop} {a : Act} {w : World} (hy : Y a) (h : wpOpIn Fence.wide 0 P ops Q j K (a.put oi.dst v) w) :
    wpOpIn Fence.wide 0 P ops Q j (fun a' w' => Y a' ∧ K (a'.put oi.dst v) w') a w := by
  obtain ⟨d1, d2, d3⟩ := Oper.apart_spec hap
  have stays : ∀ b : Act, Y b → ∀ u, Y (b.put oj.dst u) := fun b hb u => hst _ _ hb (execOp_put oi hsi b oj.dst u d3) (wanted_put oi b oj.dst u d3)
  have next : ∀ u w', K ((a.put oi.dst v).put oj.dst u) w' → Y (a.put oj.dst u) ∧ K ((a.put oj.dst u).put oi.dst v) w' := fun u w' hk => ⟨stays a hy u, by rw [← Act.put_comm a v u d2]; exact hk⟩
  unfold wpOpIn at h ⊢
  simp only [hj] at h ⊢
  rw [wanted_put oj a oi.dst v d1] at h
  by_cases hw : Region.wanted oj (yielded ops a.tmps) = true
  · rw [if_pos hw] at h ⊢
    unfold Oper.wpIn at h ⊢
    refine ⟨fun _ _ => trivial, ?_⟩
    have h2 := h.2
    rw [show Fence.wide.round = none from rfl, Oper.semAt_none, execOp_put oj hsj a oi.dst v d1] at h2
    rw [show Fence.wide.round = none from rfl, Oper.semAt_none]
    generalize (execOp a.eval oj).run P w = r at h2 ⊢
    match r, h2 with
    | .ok (.value u) w', h2 => exact next u w' h2
    | .ok .skip w', h2 => exact next undef w' h2
    | .ok (.defer d) w', h2 =>
      have hd : Y { a with defers := d :: a.defers } := hst _ _ hy rfl rfl
      refine ⟨stays _ hd _, ?_⟩
      rw [← Act.put_comm _ v undef d2, ← Act.put_defers]
      exact h2
    | .ok (.enter f args) w', h2 =>
      refine ⟨h2.1, h2.2.mono fun e w'' he => ?_⟩
      match e, he with
      | .returned u, he => exact next u w'' he
      | .panicked c, he => exact hQ _ _ _ he
      | .outgrown, he => exact he
    | .ok (.row row args) w', h2 => exact ⟨h2.1, h2.2.mono fun u w'' he => next u w'' he⟩
    | .ok (.round l f tmps assign body) w', h2 =>
      refine ⟨h2.1, h2.2.mono fun e w'' he => ?_⟩
      match e, he with
      | .returned u, he => exact next u w'' he
      | .panicked c, he => exact hQ _ _ _ he
      | .outgrown, he => exact he
    | .halt (.panic u) w', h2 => exact hQ _ _ _ h2
  · rw [if_neg hw] at h ⊢
    exact ⟨fun _ _ => trivial, next undef w h.2⟩
theorem firstY {i : Nat} {oi : Oper} {v : Value} {B : List Nat} (Y : Act → Prop) (hst : ∀ b b' : Act, Y b → execOp b'.eval oi = execOp b.eval oi → Region.wanted oi (yielded ops b'.tmps) = Region.wanted oi (yielded ops b.tmps) → Y b') (hop : ∀ (a : Act) (K : Act → World → Prop) (w : World), Y a → S w → K (a.put oi.dst v) w → wpOpIn Fence.wide 0 P ops Q i K a w) (hi : ops[i]? = some oi) (hw : blocks md ops n i B = true) (hsel : ∀ (j : Nat) (o : Oper) cs b, ops[j]? = some o → o.op ≠ .select cs b)
    (hQ : ∀ c a w, Q (.panic c) (a.put oi.dst v) w → Q (.panic c) a w) :
    ∀ (fuel : Nat) (listed : Array Bool) (a : Act) (w : World),
      (∀ j oj, ops[j]? = some oj → j ≠ i → listed.getD j true = false → (∀ e ∈ oj.after, Region.binds md e = true → e.on ≠ i) → oi.apart ops oj = true) →
      (∀ b ∈ B, listed.getD b false = false) → i ∈ Region.ready md ops listed → Y a → S w →
      wpAnyW P md ops Q S n fuel (listed.setIfInBounds i true) (a.put oi.dst v) w → wpAnyW P md ops Q S n (fuel + 1) listed a w := by
  intro fuel
  induction fuel with
  | zero =>
    intro listed a w _ _ hr hy hS H
    refine ⟨fun h => (by rw [h] at hr; cases hr), fun j hj => ?_⟩
    by_cases hji : j = i
    · subst hji; exact hop _ _ _ hy hS ⟨fun _ => hS, H⟩
    · have := ready_mono hj hji
      rw [H.1] at this
      cases this
  | succ fuel ih =>
    intro listed a w hfree hB hr hy hS H
    refine ⟨fun h => (by rw [h] at hr; cases hr), fun j hj => ?_⟩
    by_cases hji : j = i
    · subst hji; exact hop _ _ _ hy hS ⟨fun _ => hS, H⟩
    · have h1 := H.2 j (ready_mono hj hji)
      obtain ⟨hjun, oj, hoj, hall⟩ := mem_ready.1 hj
      have hnot : ∀ e ∈ oj.after, Region.binds md e = true → e.on ≠ i := fun e he hb heq => by
        have h1 := hall e he hb
        rw [heq] at h1
        exact unlisted hr h1
      have hjs : j < ops.size := (Array.getElem?_eq_some_iff.1 hoj).1
      have hbl := List.all_eq_true.1 hw j (List.mem_range.2 hjs)
      simp only [hoj, Bool.and_eq_true, Bool.or_eq_true, beq_iff_eq, Bool.not_eq_true', decide_eq_true_eq] at hbl
      have hno : ¬ waitsOn md B oj = true := fun h => waits_no h hall hB
      have hjn : j < n := hbl.2.resolve_right hno
      have hjB : j ∉ B := fun h => by
        rcases hbl.1 with (h2 | h2) | h2
        · exact hji h2
        · rw [List.contains_iff_mem.2 h] at h2; cases h2
        · exact hno h2
      have h2 := put_opY Y hst hoj (hfree j oj hoj hji hjun hnot) (fun cs b => hsel i oi cs b hi) (fun cs b => hsel j oj cs b hoj) hQ hy h1
      have hfree' : ∀ k ok, ops[k]? = some ok → k ≠ i → (listed.setIfInBounds j true).getD k true = false →
          (∀ e ∈ ok.after, Region.binds md e = true → e.on ≠ i) → oi.apart ops ok = true := fun k ok hk hki hun hno => by
        refine hfree k ok hk hki ?_ hno
        by_cases hjk : j = k
        · subst hjk; exact hjun
        · rw [getD_set_ne true hjk] at hun; exact hun
      have hB' : ∀ b ∈ B, (listed.setIfInBounds j true).getD b false = false := fun b hb => by
        have hne : j ≠ b := fun e => hjB (by rw [e]; exact hb)
        rw [getD_set_ne false hne]
        exact hB b hb
      refine wpOpIn_mono (fun a' w' h3 => ⟨h3.2.1, ih (listed.setIfInBounds j true) a' w' hfree' hB' (ready_mono hr (Ne.symm hji)) h3.1 (h3.2.1 hjn) ?_⟩) h2
      rw [Array.setIfInBounds_comm _ _ hji]
      exact h3.2.2
/-- A call that, in every world that meets S, tells v and leaves that world as it is. -/
def CallsIf (P : Program) (ops : Array Oper) (S : World → Prop) (o : Oper) (v : Value) (a : Act) : Prop :=
  Region.wanted o (yielded ops a.tmps) = true ∧ ∀ w, S w → ∃ f args, (execOp a.eval o).run P w = .ok (.enter f args) w ∧ Calls P f args w (fun e w' => e = .returned v ∧ w' = w)
theorem calls_op {i : Nat} {o : Oper} {v : Value} {a : Act} (hi : ops[i]? = some o) (hy : CallsIf P ops S o v a) {K : Act → World → Prop} {w : World} (hS : S w) (h : K (a.put o.dst v) w) : wpOpIn Fence.wide 0 P ops Q i K a w := by
  unfold wpOpIn
  simp only [hi]
  rw [if_pos hy.1]
  unfold Oper.wpIn
  refine ⟨fun _ _ => trivial, ?_⟩
  obtain ⟨f, args, hx, hc⟩ := hy.2 w hS
  rw [show Fence.wide.round = none from rfl, Oper.semAt_none, hx]
  exact ⟨fun h => (by cases h), (callsIn_wide.2 hc).mono (fun e w'' he => by obtain ⟨rfl, rfl⟩ := he; exact h)⟩
/-- Take the call of number i first; B: it, and those that wait for it. -/
theorem takeC {i : Nat} {oi : Oper} {v : Value} {fuel : Nat} {listed : Array Bool} {a : Act} {w : World} (B : List Nat) (d : Nat) (f : FuncId) (args : Array Value) (hi : ops[i]? = some oi) (hd : oi.dst = some d) (hw : blocks md ops n i B = true) (hB : (B.all fun b => !listed.getD b false) = true)
    (hs : Region.noSelect ops = true) (hf : Region.free md ops listed i = true) (hr : (Region.ready md ops listed).contains i = true)
    (hQ : ∀ c a w, Q (.panic c) (a.put (some d) v) w → Q (.panic c) a w) (hwt : Region.wanted oi (yielded ops a.tmps) = true) (hx : ∀ w, S w → (execOp a.eval oi).run P w = .ok (.enter f args) w)
    (hc : ∀ w, S w → Calls P f args w (fun e w' => e = .returned v ∧ w' = w)) (hS : S w)
    (h : wpAnyW P md ops Q S n fuel (listed.setIfInBounds i true) (a.put (some d) v) w) : wpAnyW P md ops Q S n (fuel + 1) listed a w := by
  rw [← hd] at h
  refine firstY (v := v) (CallsIf P ops S oi v) (fun b b' hb h1 h2 => ⟨h2.trans hb.1, fun w hw => by rw [h1]; exact hb.2 w hw⟩) (fun a K w hy hS hk => calls_op hi hy hS hk) hi hw (Region.noSelect_spec hs) (fun c a w h => hQ c a w (by rw [← hd]; exact h)) fuel listed a w (Region.free_spec hi hf) (fun b hb => by simpa using List.all_eq_true.1 hB b hb) (by simpa using hr) ⟨hwt, fun w hw => ⟨f, args, hx w hw, hc w hw⟩⟩ hS h
end
end Go.Proofs.YtkeelacobknfbaaDoor.PhaseIn
