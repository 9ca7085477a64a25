/- Plain mathematics of chapter 2 (walkers), the second part: no program is named here. -/
import Derived.Test.YtikfblbfodacaaaTwoMath
namespace Go.Proofs.Ytikfblbfodacaaa
open Go.RowKit
set_option linter.unusedVariables false
/-- two speeds -/
def neB (s r : Int) : Bool := decide (s ≠ r)
end Go.Proofs.Ytikfblbfodacaaa
