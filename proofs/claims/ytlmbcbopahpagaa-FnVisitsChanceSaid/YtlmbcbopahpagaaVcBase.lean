/- What the pieces of the walk of the named law of chances share: the tail of a piece of code. -/
import Derived.Test.YtlmbcbopahpagaaProg
import Derived.Test.YtlmbcbopahpagaaSlices
import Derived.Deep.Cut
import Derived.Deep.CutRange
import Derived.WalkKit
import Derived.ProofKit
import Derived.Below
import Derived.Lib.SmallJoins
import Derived.Lib.Hide
namespace Go.Proofs.Ytlmbcbopahpagaa
open Go.ChangeShapes Go.WideShapes Go.ChangeAt Go.RowKit Go.Joins
set_option linter.unusedVariables false
set_option linter.unusedSimpArgs false
namespace fnVisitsChance
theorem hbs {w a b : World} (H : Hid (Below w.heap.size w a)) (hb : Below a.heap.size a b) : Hid (Below w.heap.size w b) := Lib.hid (H.out.trans (hb.mono H.out.size))
/-- the first region of a piece of code -/
def lead : Code → Option Nat
  | .region n _ _ => some n
  | .seq a _ => lead a
  | _ => none
/-- the greatest piece of code that begins with the region n -/
def tailAt (n : Nat) : Code → Option Code
  | .seq a b => if lead a = some n then some (.seq a b) else match tailAt n a with
    | some c => some c
    | none => tailAt n b
  | .loop c => tailAt n c
  | .block _ c => tailAt n c
  | .scope c => tailAt n c
  | .cond _ a b => match tailAt n a with
    | some c => some c
    | none => tailAt n b
  | _ => none
noncomputable def code29 : Code := ((Try.f3.body.bind (tailAt 29)).getD .skip)
noncomputable def code49 : Code := ((Try.f3.body.bind (tailAt 49)).getD .skip)
end fnVisitsChance
end Go.Proofs.Ytlmbcbopahpagaa
