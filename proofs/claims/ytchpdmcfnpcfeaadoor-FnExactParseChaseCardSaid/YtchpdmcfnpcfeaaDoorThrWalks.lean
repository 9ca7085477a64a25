/- Contracts of chapter 3's functions on numbers and one runner, the program's and the model's, over one translation. -/
import Derived.Test.YtchpdmcfnpcfeaaDoorProg
import Derived.Test.YtchpdmcfnpcfeaaDoorThrMath
import Derived.Test.YtchpdmcfnpcfeaaDoorTwoWalks
import Derived.WalkKit
import Derived.WalkSpells
import Derived.WalkLawsBesides
import Derived.Lib.Hide
import Derived.Deep.RegionWith
import Derived.Deep.RegionHeld3
import Derived.Deep.QuietTactic
import Derived.BigQuiet
namespace Go.Proofs.YtchpdmcfnpcfeaaDoor
open Go.RowKit
set_option linter.unusedVariables false
set_option linter.unusedSimpArgs false
end Go.Proofs.YtchpdmcfnpcfeaaDoor
