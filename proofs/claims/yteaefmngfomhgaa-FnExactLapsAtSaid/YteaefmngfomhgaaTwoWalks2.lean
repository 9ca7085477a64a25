/- Contracts of chapter 2's functions on numbers and walkers, the program's and the model's, over one translation. -/
import Derived.Test.YteaefmngfomhgaaProg
import Derived.Test.YteaefmngfomhgaaTwoWalks
import Derived.Test.YteaefmngfomhgaaTwoMathB
import Derived.WalkKit
import Derived.WalkSpells
import Derived.WalkLawsBesides
import Derived.Lib.Hide
import Derived.Deep.RegionWith
import Derived.Deep.RegionHeld3
import Derived.Deep.QuietTactic
import Derived.BigQuiet
namespace Go.Proofs.Yteaefmngfomhgaa
open Go.RowKit
set_option linter.unusedVariables false
set_option linter.unusedSimpArgs false
set_option maxHeartbeats 2000000 in
theorem isAround_any (m : Int) (w : World) :
    Calls Try.prog 83 #[.int .i64 m] w fun e w' => e = .returned (.bool (inB m 1 1000)) ∧ w = w' := by
  go_enter Try.func83, Try.ntmps83
  go_wp2_with (first | (go_at_call 60; refine (implIn _ _ _ _).mono ?_; rintro e w1 ⟨rfl, rfl⟩) | go_in)
  all_goals (go_ret; refine ⟨rB ?_, rfl⟩)
  all_goals first | rfl | (repeat (first | exact Below.refl _ _ | refine Below.drew ?_ | refine below_drewN ?_ _ | refine Below.setCell ?_ (by first | omega | (simp; done) | (simp; omega)) _ | refine Below.alloc ?_ (by first | omega | (simp; done) | (simp; omega)) _ | refine bchain ?_ (by assumption) (by first | omega | (simp; done) | (simp; omega))))
end Go.Proofs.Yteaefmngfomhgaa
