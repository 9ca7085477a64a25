/- Puzzles (chapter 9): questions to which each riddle has an answer, by contracts. -/
import Derived.Test.YtnnokfecjdmjpabPzAsk
import Derived.WalkKit
import Derived.WalkSpells
import Derived.WalkLawsBesides
import Derived.Lib.Hide
import Derived.Shelf.Abstract
namespace Go.Proofs.Ytnnokfecjdmjpab
open Go.RowKit
set_option linter.unusedVariables false
set_option linter.unusedSimpArgs false
end Go.Proofs.Ytnnokfecjdmjpab
