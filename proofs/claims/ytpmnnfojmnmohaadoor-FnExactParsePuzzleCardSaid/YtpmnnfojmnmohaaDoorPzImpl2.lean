/- Puzzles (chapter 9): the program's riddles without a clue, copied, needless clues, how many are left, the best clue, harder puzzles. -/
import Derived.Test.YtpmnnfojmnmohaaDoorPzImpl
import Derived.Test.YtpmnnfojmnmohaaDoorPzPart
import Derived.Test.YtpmnnfojmnmohaaDoorPzSpec5
import Derived.WalkKit
import Derived.WalkSpells
import Derived.WalkLawsBesides
import Derived.Lib.Hide
import Derived.Lib.SliceRun
import Derived.Deep.LoopGhost
import Derived.Deep.QuietTactic
import Derived.Deep.RegionWith
import Derived.Deep.RegionLaw
import Derived.Deep.RegionHeld3
import Derived.BigQuiet
namespace Go.Proofs.YtpmnnfojmnmohaaDoor
open Go.RowKit
set_option linter.unusedVariables false
set_option linter.unusedSimpArgs false
end Go.Proofs.YtpmnnfojmnmohaaDoor
