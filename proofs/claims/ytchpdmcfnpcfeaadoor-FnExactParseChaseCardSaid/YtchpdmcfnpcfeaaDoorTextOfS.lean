/- isTextOf at one kind: whether a text is that of what it was parsed to. -/
import Derived.Test.YtchpdmcfnpcfeaaDoorTextWalks
import Derived.Lib.Hide
import Derived.Deep.QuietTactic
import Derived.BigQuiet
namespace Go.Proofs.YtchpdmcfnpcfeaaDoor
open Go.RowKit
set_option linter.unusedVariables false
set_option linter.unusedSimpArgs false
end Go.Proofs.YtchpdmcfnpcfeaaDoor
