/- Puzzles (chapter 9): the model's pzSolved and pzWithout by contracts. -/
import Derived.Test.YtpmnnfojmnmohaaDoorPzSpec
import Derived.Test.YtpmnnfojmnmohaaDoorPzApp
import Derived.WalkKit
import Derived.WalkSpells
import Derived.WalkLawsBesides
import Derived.Lib.Hide
import Derived.Deep.LoopGhost
import Derived.Deep.QuietTactic
import Derived.Deep.RegionWith
import Derived.Deep.RegionHeld3
import Derived.BigQuiet
namespace Go.Proofs.YtpmnnfojmnmohaaDoor
open Go.RowKit
set_option linter.unusedVariables false
set_option linter.unusedSimpArgs false
end Go.Proofs.YtpmnnfojmnmohaaDoor
