/-
  A drawn region at which one operation that is free of all others (a box that is made) may come up anywhere along a chain of calls: layer by layer.
-/
import Derived.Test.YtckhfpaicnjknaaPhaseDg
namespace Go.Proofs.Ytckhfpaicnjknaa.PhaseIn
open Go
section
variable {P : Program} {ops : Array Oper} {Q : Exit → Act → World → Prop} {md : Region.Mode} {S : World → Prop} {n : Nat}
def left1 (b : Bool) : Nat := if b then 0 else 1
def free1 (z : Nat) (b : Bool) : List Nat := if b then [] else [z]
theorem layer1 {F : Nat} (c z : Nat) (oc oz : Oper) (hc0 : ops[c]? = some oc) (hz0 : ops[z]? = some oz) (gc : oc.guard = none) (gz : oz.guard = none)
    (L : Bool → Array Bool) (I J : Bool → Act → World → Prop)
    (hr : ∀ b, Region.ready md ops (L b) = c :: free1 z b) (lz : (L false).setIfInBounds z true = L true)
    (next : ∀ b a w, J b a w → wpAnyW P md ops Q S n (F + left1 b) ((L b).setIfInBounds c true) a w)
    (hc : ∀ b a w (K : Act → World → Prop), I b a w → (∀ a' w', S w' → J b a' w' → K a' w') → Oper.wpIn Fence.wide 0 P oc a w K Q)
    (hz : ∀ a w (K : Act → World → Prop), I false a w → (∀ a' w', S w' → I true a' w' → K a' w') → Oper.wpIn Fence.wide 0 P oz a w K Q) :
    ∀ b a w, I b a w → wpAnyW P md ops Q S n (F + left1 b + 1) (L b) a w := by
  have call (b : Bool) (a : Act) (w : World) (h : I b a w) : ∃ o, ops[c]? = some o ∧ Region.wanted o (yielded ops a.tmps) = true ∧ ∀ K : Act → World → Prop, (∀ a' w', S w' → wpAnyW P md ops Q S n (F + left1 b) ((L b).setIfInBounds c true) a' w' → K a' w') → Oper.wpIn Fence.wide 0 P o a w K Q :=
    ⟨oc, hc0, wanted_none gc, fun K hK => hc b a w K h (fun a' w' h1 h2 => hK a' w' h1 (next b a' w' h2))⟩
  have t : ∀ a w, I true a w → wpAnyW P md ops Q S n (F + left1 true + 1) (L true) a w := fun a w h =>
    any_list [c] (hr true) (by simp) (fun i hi => by
      obtain rfl : i = c := by simpa using hi
      exact call true a w h)
  have f : ∀ a w, I false a w → wpAnyW P md ops Q S n (F + left1 false + 1) (L false) a w := fun a w h =>
    any_list [c, z] (hr false) (by simp) (fun i hi => by
      have hi2 : i = c ∨ i = z := by simpa using hi
      rcases hi2 with rfl | rfl
      · exact call false a w h
      · exact ⟨oz, hz0, wanted_none gz, fun K hK => hz a w K h (fun a' w' h1 h2 => hK a' w' h1 (by rw [lz]; exact t a' w' h2))⟩)
  intro b a w h
  cases b
  · exact f a w h
  · exact t a w h
theorem last1 {F : Nat} (z : Nat) (oz : Oper) (hz0 : ops[z]? = some oz) (gz : oz.guard = none)
    (L : Bool → Array Bool) (I : Bool → Act → World → Prop)
    (hr : Region.ready md ops (L false) = [z]) (lz : (L false).setIfInBounds z true = L true)
    (hz : ∀ a w (K : Act → World → Prop), I false a w → (∀ a' w', S w' → I true a' w' → K a' w') → Oper.wpIn Fence.wide 0 P oz a w K Q)
    (fin : ∀ a w, I true a w → wpAnyW P md ops Q S n F (L true) a w) :
    ∀ b a w, I b a w → wpAnyW P md ops Q S n (F + left1 b) (L b) a w := by
  have f : ∀ a w, I false a w → wpAnyW P md ops Q S n (F + left1 false) (L false) a w := fun a w h =>
    any_list [z] hr (by simp) (fun i hi => by
      obtain rfl : i = z := by simpa using hi
      exact ⟨oz, hz0, wanted_none gz, fun K hK => hz a w K h (fun a' w' h1 h2 => hK a' w' h1 (by rw [lz]; exact fin a' w' h2))⟩)
  intro b a w h
  cases b
  · exact f a w h
  · exact fin a w h
theorem thru1 {F : Nat} (L L4 : Bool → Array Bool) (J' J : Bool → Act → World → Prop) (lst : ∀ b a w, J b a w → wpAnyW P md ops Q S n (F + left1 b) (L4 b) a w)
    (tk : ∀ b a w, J' b a w → (∀ a', J b a' w → wpAnyW P md ops Q S n (F + left1 b) (L4 b) a' w) → wpAnyW P md ops Q S n (F + left1 b + 1) (L b) a w) :
    ∀ b a w, J' b a w → wpAnyW P md ops Q S n (F + left1 b + 1) (L b) a w := fun b a w h => tk b a w h (fun a' h' => lst b a' w h')
end
end Go.Proofs.Ytckhfpaicnjknaa.PhaseIn
