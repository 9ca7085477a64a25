/- Plain mathematics of chapter 1's searches and loops: no program is named here. -/
import Derived.Test.YtalnellimbehoaaGreatDoorMath
namespace Go.Proofs.YtalnellimbehoaaGreatDoor
open Go.RowKit
set_option linter.unusedVariables false

/-- the first Up from one on that is at the top in time -/
def upF (d n y : Int) : Nat → Int → Int × Bool
  | 0, _ => (0, false)
  | f + 1, up => if n ≤ far up d y then (up, true) else upF d n y f (up + 1)
theorem upF_yes {d n y up : Int} {f : Nat} (h : n ≤ far up d y) : upF d n y (f + 1) up = (up, true) := by unfold upF; rw [if_pos h]
theorem upF_no {d n y up : Int} {f : Nat} (h : ¬ n ≤ far up d y) : upF d n y (f + 1) up = upF d n y f (up + 1) := by rw [upF, if_neg h]
/-- the first Down from one on, downwards, that is at the top in time -/
def dnF (u n y : Int) : Nat → Int → Int × Bool
  | 0, _ => (0, false)
  | f + 1, d => if n ≤ far u d y then (d, true) else dnF u n y f (d - 1)
theorem dnF_yes {u n y d : Int} {f : Nat} (h : n ≤ far u d y) : dnF u n y (f + 1) d = (d, true) := by unfold dnF; rw [if_pos h]
theorem dnF_no {u n y d : Int} {f : Nat} (h : ¬ n ≤ far u d y) : dnF u n y (f + 1) d = dnF u n y f (d - 1) := by rw [dnF, if_neg h]
end Go.Proofs.YtalnellimbehoaaGreatDoor
