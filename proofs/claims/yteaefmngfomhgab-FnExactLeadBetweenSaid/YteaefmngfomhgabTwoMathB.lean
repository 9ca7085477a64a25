/- Plain mathematics of chapter 2 (walkers), the second part: no program is named here. -/
import Derived.Test.YteaefmngfomhgabTwoMath
namespace Go.Proofs.Yteaefmngfomhgab
open Go.RowKit
set_option linter.unusedVariables false
/-- two speeds -/
def neB (s r : Int) : Bool := decide (s ≠ r)
end Go.Proofs.Yteaefmngfomhgab
