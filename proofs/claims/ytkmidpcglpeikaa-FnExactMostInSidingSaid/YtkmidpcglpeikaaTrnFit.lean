/- FitsSiding by contracts, the program's side. -/
import Derived.Test.YtkmidpcglpeikaaTrnList
import Derived.Test.YtkmidpcglpeikaaTrnImpl
import Derived.Test.YtkmidpcglpeikaaAreAllT
import Derived.WalkKit
import Derived.WalkSpells
import Derived.WalkLawsBesides
import Derived.Lib.Hide
import Derived.Deep.LoopGhost
import Derived.Deep.QuietTactic
import Derived.Deep.RegionHeld3
import Derived.BigQuiet
namespace Go.Proofs.Ytkmidpcglpeikaa
open Go.RowKit
set_option linter.unusedVariables false
set_option linter.unusedSimpArgs false
set_option maxHeartbeats 1000000 in
theorem areSiding_any (a : Option Addr) (cap : Nat) (xs : List (Int × Int)) (w : World) (h : RdP w a xs) (hn : xs.length ≤ 1048576) :
    Calls Try.prog 58 #[.slice a xs.length cap] w fun e w' => e = .returned (.bool (inB (xs.length : Int) 1 12 && allT xs)) ∧ Below w.heap.size w w' := by
  go_enter Try.func58, Try.ntmps58
  go_wp2_with fail
  refine (areAllT 85 #[] tnOk a cap xs 12 _ h hn (enters_of Try.func85 (by kernel_rfl) rfl) (fun x y W _ => implIsTrain x y W)).mono ?_
  rintro e w1 ⟨rfl, hb⟩
  go_wp2_with fail
  go_ret
  exact ⟨rfl, hb⟩
theorem tnS_split (xs : List (Int × Int)) (n : Int) : tnS xs n = ((inB (xs.length : Int) 1 12 && allT xs) && wyOk n) := by
  unfold tnS; cases inB (xs.length : Int) 1 12 <;> cases allT xs <;> cases wyOk n <;> rfl
end Go.Proofs.Ytkmidpcglpeikaa
