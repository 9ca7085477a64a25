/- Contracts of chapter 1's functions, the program's and the model's, over one translation. -/
import Derived.Test.YteaefmngfomhgaaProg
import Derived.Test.YteaefmngfomhgaaMath
import Derived.Test.YteaefmngfomhgaaTwoWalks
import Derived.WalkKit
import Derived.WalkSpells
import Derived.WalkLawsBesides
import Derived.Lib.Hide
import Derived.Deep.RegionWith
namespace Go.Proofs.Yteaefmngfomhgaa
open Go.RowKit
set_option linter.unusedVariables false
set_option linter.unusedSimpArgs false
theorem most_hig (a b : Int) (w : World) :
    Calls Try.prog 54 #[.int .i64 a, .int .i64 b] w fun e w' => e = .returned (.int .i64 (hig a b)) ∧ w = w' := most_any a b w
set_option maxHeartbeats 2000000 in
theorem least_any (a b : Int) (w : World) :
    Calls Try.prog 59 #[.int .i64 a, .int .i64 b] w fun e w' => e = .returned (.int .i64 (low a b)) ∧ w = w' := by
  go_enter Try.func59, Try.ntmps59
  go_wp2
  all_goals (go_ret; refine ⟨rI ?_, rfl⟩)
  all_goals (unfold low; (repeat' split) <;> omega)
set_option maxHeartbeats 2000000 in
theorem morningAfter_any (a p n : Int) (h1 : 0 ≤ a) (h2 : a ≤ 2000000000) (h3 : 0 ≤ p) (h4 : p ≤ 1000) (w : World) :
    Calls Try.prog 61 #[.int .i64 a, .int .i64 p, .int .i64 n] w fun e w' => e = .returned (.int .i64 (mA a p n)) ∧ w = w' := by
  by_cases h : a = n
  all_goals
    go_enter Try.func61, Try.ntmps61
    go_wp2
    all_goals (go_ret; refine ⟨rI ?_, rfl⟩)
    all_goals (unfold mA; (repeat' split) <;> omega)
end Go.Proofs.Yteaefmngfomhgaa
