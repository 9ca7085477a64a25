/- areAll at int by a contract, over any function value that leaves the world as it is. -/
import Derived.Test.YtikfblbfodacaaaProg
import Derived.Test.YtikfblbfodacaaaAreAll0
import Derived.Test.YtikfblbfodacaaaSlices
import Derived.WalkKit
import Derived.WalkSpells
import Derived.WalkLawsBesides
import Derived.Lib.Hide
import Derived.Deep.LoopGhost
import Derived.Deep.QuietTactic
import Derived.Deep.RegionWith
import Derived.Deep.RegionHeld3
import Derived.BigQuiet
import Derived.Shelf.Abstract
namespace Go.Proofs.Ytikfblbfodacaaa
open Go.RowKit
set_option linter.unusedVariables false
set_option linter.unusedSimpArgs false
end Go.Proofs.Ytikfblbfodacaaa
