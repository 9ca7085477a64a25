/- Contracts of chapter 1's functions, the program's and the model's, over one translation. -/
import Derived.Test.YtjfmmdblfhgelaaDoorProg
import Derived.Test.YtjfmmdblfhgelaaDoorMath
import Derived.Test.YtjfmmdblfhgelaaDoorTwoWalks
import Derived.WalkKit
import Derived.WalkSpells
import Derived.WalkLawsBesides
import Derived.Lib.Hide
import Derived.Deep.RegionWith
namespace Go.Proofs.YtjfmmdblfhgelaaDoor
open Go.RowKit
set_option linter.unusedVariables false
set_option linter.unusedSimpArgs false
end Go.Proofs.YtjfmmdblfhgelaaDoor
