/- Plain mathematics of chapter 2 (walkers), the second part: no program is named here. -/
import Derived.Test.YteaefmngfomhgaaTwoMath
namespace Go.Proofs.Yteaefmngfomhgaa
open Go.RowKit
set_option linter.unusedVariables false
/-- two speeds -/
def neB (s r : Int) : Bool := decide (s ≠ r)
end Go.Proofs.Yteaefmngfomhgaa
