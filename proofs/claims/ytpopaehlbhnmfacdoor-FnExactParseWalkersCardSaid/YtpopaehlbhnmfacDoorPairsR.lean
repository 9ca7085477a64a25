/- Slices of runners (structs of two integers): what a slice reads as, what it owns; the laws' own helpers toRunnerS, eqRunnerS, markRunnerS by contracts. -/
import Derived.Test.YtpopaehlbhnmfacDoorProg
import Derived.Test.YtpopaehlbhnmfacDoorTwoWalks
import Derived.Test.YtpopaehlbhnmfacDoorThrWalks
import Derived.Test.YtpopaehlbhnmfacDoorPairs0
import Derived.WalkKit
import Derived.WalkSpells
import Derived.WalkLawsBesides
import Derived.Lib.Hide
import Derived.Deep.LoopGhost
import Derived.Deep.QuietTactic
import Derived.Deep.RegionHeld3
import Derived.BigQuiet
namespace Go.Proofs.YtpopaehlbhnmfacDoor
open Go.RowKit
set_option linter.unusedVariables false
set_option linter.unusedSimpArgs false

end Go.Proofs.YtpopaehlbhnmfacDoor
