/- Contracts of chapter 1's functions, the program's and the model's, over one translation. -/
import Derived.Test.YtokjmhkdcgkcoaaGreatDoorProg
import Derived.Test.YtokjmhkdcgkcoaaGreatDoorMath
import Derived.Test.YtokjmhkdcgkcoaaGreatDoorTwoWalks
import Derived.WalkKit
import Derived.WalkSpells
import Derived.WalkLawsBesides
import Derived.Lib.Hide
import Derived.Deep.RegionWith
namespace Go.Proofs.YtokjmhkdcgkcoaaGreatDoor
open Go.RowKit
set_option linter.unusedVariables false
set_option linter.unusedSimpArgs false
theorem most_hig (a b : Int) (w : World) :
    Calls Tryz.prog 74 #[.int .i64 a, .int .i64 b] w fun e w' => e = .returned (.int .i64 (hig a b)) ∧ w = w' := most_any a b w
end Go.Proofs.YtokjmhkdcgkcoaaGreatDoor
