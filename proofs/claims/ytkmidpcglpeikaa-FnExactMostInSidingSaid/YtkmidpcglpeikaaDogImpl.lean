/- Contracts of chapter 4's functions on a chase and numbers, the program's, over one translation. -/
import Derived.Test.YtkmidpcglpeikaaProg
import Derived.Test.YtkmidpcglpeikaaDogMath
import Derived.Test.YtkmidpcglpeikaaDogWalks
import Derived.Test.YtkmidpcglpeikaaSlices
import Derived.Deep.LoopGhost
import Derived.WalkKit
import Derived.WalkSpells
import Derived.WalkLawsBesides
import Derived.Lib.Hide
import Derived.Deep.RegionWith
import Derived.Deep.RegionHeld3
import Derived.Deep.QuietTactic
import Derived.BigQuiet
namespace Go.Proofs.Ytkmidpcglpeikaa
open Go.RowKit
set_option linter.unusedVariables false
set_option linter.unusedSimpArgs false
theorem implIn_val {n lo hi : Int} {b : Bool} (h : inB n lo hi = b) (w : World) :
    Calls Try.prog 71 #[.int .i64 n, .int .i64 lo, .int .i64 hi] w fun e w' => e = .returned (.bool b) ∧ w' = w := by
  subst h; exact (implIn n lo hi w).mono fun _ _ h => ⟨h.1, h.2.symm⟩
theorem implIn_v2 {n lo hi : Int} {b : Bool} (h : inB n lo hi = b) (w : World) :
    Calls Try.prog 71 #[.int .i64 n, .int .i64 lo, .int .i64 hi] w fun e w' => e = .returned (.bool b) ∧ w = w' := by
  subst h; exact implIn n lo hi w
end Go.Proofs.Ytkmidpcglpeikaa
