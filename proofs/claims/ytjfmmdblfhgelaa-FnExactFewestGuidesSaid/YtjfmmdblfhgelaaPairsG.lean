/- Slices of legs (structs of two integers): what a slice reads as, what it owns; the laws' own helpers toLegS, eqLegS, markLegS by contracts. -/
import Derived.Test.YtjfmmdblfhgelaaProg
import Derived.Test.YtjfmmdblfhgelaaTwoWalks
import Derived.Test.YtjfmmdblfhgelaaLegWalks
import Derived.Test.YtjfmmdblfhgelaaPairs0
import Derived.WalkKit
import Derived.WalkSpells
import Derived.WalkLawsBesides
import Derived.Lib.Hide
import Derived.Deep.LoopGhost
import Derived.Deep.QuietTactic
import Derived.Deep.RegionHeld3
import Derived.BigQuiet
namespace Go.Proofs.Ytjfmmdblfhgelaa
open Go.RowKit
set_option linter.unusedVariables false
set_option linter.unusedSimpArgs false

end Go.Proofs.Ytjfmmdblfhgelaa
