/- Contracts of chapter 6's functions on numbers and legs, the model's, over one translation. -/
import Derived.Test.YtjfmmdblfhgelaaProg
import Derived.Test.YtjfmmdblfhgelaaLegMath
import Derived.Test.YtjfmmdblfhgelaaTwoWalks
import Derived.WalkKit
import Derived.WalkSpells
import Derived.WalkLawsBesides
import Derived.Lib.Hide
import Derived.Deep.RegionWith
import Derived.Deep.RegionHeld3
import Derived.Deep.QuietTactic
import Derived.BigQuiet
namespace Go.Proofs.Ytjfmmdblfhgelaa
open Go.RowKit
set_option linter.unusedVariables false
set_option linter.unusedSimpArgs false
end Go.Proofs.Ytjfmmdblfhgelaa
