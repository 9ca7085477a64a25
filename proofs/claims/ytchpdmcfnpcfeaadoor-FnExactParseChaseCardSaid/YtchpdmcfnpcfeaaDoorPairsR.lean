/- Slices of runners (structs of two integers): what a slice reads as, what it owns; the laws' own helpers toRunnerS, eqRunnerS, markRunnerS by contracts. -/
import Derived.Test.YtchpdmcfnpcfeaaDoorProg
import Derived.Test.YtchpdmcfnpcfeaaDoorTwoWalks
import Derived.Test.YtchpdmcfnpcfeaaDoorThrWalks
import Derived.Test.YtchpdmcfnpcfeaaDoorPairs0
import Derived.WalkKit
import Derived.WalkSpells
import Derived.WalkLawsBesides
import Derived.Lib.Hide
import Derived.Deep.LoopGhost
import Derived.Deep.QuietTactic
import Derived.Deep.RegionHeld3
import Derived.BigQuiet
namespace Go.Proofs.YtchpdmcfnpcfeaaDoor
open Go.RowKit
set_option linter.unusedVariables false
set_option linter.unusedSimpArgs false

end Go.Proofs.YtchpdmcfnpcfeaaDoor
