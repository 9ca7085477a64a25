/- Slices of snails (structs of two integers): what a slice reads as, what it owns; the laws' own helpers toSnailS, eqSnailS, markSnailS by contracts. -/
import Derived.Test.YtpmnnfojmnmohaaDoorProg
import Derived.Test.YtpmnnfojmnmohaaDoorTwoWalks
import Derived.Test.YtpmnnfojmnmohaaDoorOneWalks
import Derived.Test.YtpmnnfojmnmohaaDoorPairs0
import Derived.WalkKit
import Derived.WalkSpells
import Derived.WalkLawsBesides
import Derived.Lib.Hide
import Derived.Deep.LoopGhost
import Derived.Deep.QuietTactic
import Derived.Deep.RegionHeld3
import Derived.BigQuiet
namespace Go.Proofs.YtpmnnfojmnmohaaDoor
open Go.RowKit
set_option linter.unusedVariables false
set_option linter.unusedSimpArgs false

end Go.Proofs.YtpmnnfojmnmohaaDoor
