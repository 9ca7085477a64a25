/- Contracts of chapter 1's functions, the program's and the model's, over one translation. -/
import Derived.Test.YteaefmngfomhgabDoorProg
import Derived.Test.YteaefmngfomhgabDoorMath
import Derived.Test.YteaefmngfomhgabDoorTwoWalks
import Derived.WalkKit
import Derived.WalkSpells
import Derived.WalkLawsBesides
import Derived.Lib.Hide
import Derived.Deep.RegionWith
namespace Go.Proofs.YteaefmngfomhgabDoor
open Go.RowKit
set_option linter.unusedVariables false
set_option linter.unusedSimpArgs false
theorem most_hig (a b : Int) (w : World) :
    Calls Tryd.prog 94 #[.int .i64 a, .int .i64 b] w fun e w' => e = .returned (.int .i64 (hig a b)) ∧ w = w' := most_any a b w
set_option maxHeartbeats 2000000 in
theorem snGood_any (u d : Int) (w : World) :
    Calls Tryd.prog 35 #[.agg #[.int .i64 u, .int .i64 d]] w fun e w' => e = .returned (.bool (snOk u d)) ∧ Below w.heap.size w w' := by
  cases h1 : inB u 1 1000
  all_goals
    go_enter Tryd.func35, Tryd.ntmps35
    go_wp2_with (first | (go_at_call 64; refine (specIn _ _ _ _).mono ?_; rintro e w1 ⟨rfl, rfl⟩) | go_in)
    all_goals (go_ret; refine ⟨rB ?_, ?_⟩)
    all_goals first | (simp [snOk, h1]) | (repeat (first | exact Below.refl _ _ | refine Below.drew ?_ | refine Below.alloc ?_ (by first | omega | (simp; done) | (simp; omega)) _ | refine bchain ?_ (by assumption) (by first | omega | (simp; done) | (simp; omega))))
set_option maxHeartbeats 2000000 in
theorem implIsSnail (u d : Int) (w : World) :
    Calls Tryd.prog 68 #[.agg #[.int .i64 u, .int .i64 d]] w fun e w' => e = .returned (.bool (snOk u d)) ∧ Below w.heap.size w w' := by
  cases h1 : inB u 1 1000
  all_goals
    go_enter Tryd.func68, Tryd.ntmps68
    go_wp2_with (first | (go_at_call 79; refine (implIn _ _ _ _).mono ?_; rintro e w1 ⟨rfl, rfl⟩) | go_in)
    all_goals (go_ret; refine ⟨rB ?_, ?_⟩)
    all_goals first | (simp [snOk, h1]) | (repeat (first | exact Below.refl _ _ | refine Below.drew ?_ | refine Below.alloc ?_ (by first | omega | (simp; done) | (simp; omega)) _ | refine bchain ?_ (by assumption) (by first | omega | (simp; done) | (simp; omega))))
end Go.Proofs.YteaefmngfomhgabDoor
