/- The library's comparison of integers, by its contract. -/
import Derived.Test.YtjfmmdblfhgelaaProg
import Derived.Test.YtjfmmdblfhgelaaMath
import Derived.Test.YtjfmmdblfhgelaaTwoMath
import Derived.WalkKit
import Derived.WalkSpells
import Derived.WalkLawsBesides
import Derived.Lib.Hide
import Derived.Deep.LoopGhost
namespace Go.Proofs.Ytjfmmdblfhgelaa
open Go.RowKit
set_option linter.unusedVariables false
set_option linter.unusedSimpArgs false
def cmpI (x y : Int) : Int := if x < y then -1 else if y < x then 1 else 0
def orI (a b : Int) : Int := if a = 0 then b else a
theorem or_cmp {a b c d : Int} : (0 < orI (cmpI a b) (cmpI c d)) ↔ (b < a ∨ (a = b ∧ d < c)) := by
  unfold orI cmpI; (repeat' split) <;> omega
theorem cmpI_lt {x y : Int} : cmpI x y < 0 ↔ x < y := by unfold cmpI; (repeat' split) <;> omega
theorem cmpI_eq {x y : Int} : cmpI x y = 0 ↔ x = y := by unfold cmpI; (repeat' split) <;> omega
end Go.Proofs.Ytjfmmdblfhgelaa
