/- Contracts of chapter 1's functions, the program's and the model's, over one translation. -/
import Derived.Test.YtfnblfjkondjfabDoorProg
import Derived.Test.YtfnblfjkondjfabDoorMath
import Derived.WalkKit
import Derived.WalkSpells
import Derived.WalkLawsBesides
import Derived.Lib.Hide
import Derived.Deep.RegionWith
namespace Go.Proofs.YtfnblfjkondjfabDoor
open Go.RowKit
set_option linter.unusedVariables false
set_option linter.unusedSimpArgs false
set_option maxHeartbeats 2000000 in
theorem specIn (n lo hi : Int) (w : World) :
    Calls Tryd.prog 33 #[.int .i64 n, .int .i64 lo, .int .i64 hi] w fun e w' => e = .returned (.bool (inB n lo hi)) ∧ w = w' := by
  go_enter Tryd.func33, Tryd.ntmps33
  go_wp2
  all_goals (go_ret; refine ⟨rB ?_, rfl⟩)
  all_goals (unfold inB; rw [Bool.eq_iff_iff]; simp only [decide_eq_true_eq, Bool.false_eq_true, false_iff, true_iff]; omega)
set_option maxHeartbeats 2000000 in
theorem implIn (n lo hi : Int) (w : World) :
    Calls Tryd.prog 36 #[.int .i64 n, .int .i64 lo, .int .i64 hi] w fun e w' => e = .returned (.bool (inB n lo hi)) ∧ w = w' := by
  go_enter Tryd.func36, Tryd.ntmps36
  go_wp2
  all_goals (go_ret; refine ⟨rB ?_, rfl⟩)
  all_goals (unfold inB; rw [Bool.eq_iff_iff]; simp only [decide_eq_true_eq, Bool.false_eq_true, false_iff, true_iff]; omega)
set_option maxHeartbeats 2000000 in
theorem snGood_any (u d : Int) (w : World) :
    Calls Tryd.prog 30 #[.agg #[.int .i64 u, .int .i64 d]] w fun e w' => e = .returned (.bool (snOk u d)) ∧ Below w.heap.size w w' := by
  cases h1 : inB u 1 1000
  all_goals
    go_enter Tryd.func30, Tryd.ntmps30
    go_wp2_with (first | (go_at_call 33; refine (specIn _ _ _ _).mono ?_; rintro e w1 ⟨rfl, rfl⟩) | go_in)
    all_goals (go_ret; refine ⟨rB ?_, ?_⟩)
    all_goals first | (simp [snOk, h1]) | (repeat (first | exact Below.refl _ _ | refine Below.drew ?_ | refine Below.alloc ?_ (by first | omega | (simp; done) | (simp; omega)) _ | refine bchain ?_ (by assumption) (by first | omega | (simp; done) | (simp; omega))))
set_option maxHeartbeats 2000000 in
theorem implIsSnail (u d : Int) (w : World) :
    Calls Tryd.prog 47 #[.agg #[.int .i64 u, .int .i64 d]] w fun e w' => e = .returned (.bool (snOk u d)) ∧ Below w.heap.size w w' := by
  cases h1 : inB u 1 1000
  all_goals
    go_enter Tryd.func47, Tryd.ntmps47
    go_wp2_with (first | (go_at_call 36; refine (implIn _ _ _ _).mono ?_; rintro e w1 ⟨rfl, rfl⟩) | go_in)
    all_goals (go_ret; refine ⟨rB ?_, ?_⟩)
    all_goals first | (simp [snOk, h1]) | (repeat (first | exact Below.refl _ _ | refine Below.drew ?_ | refine Below.alloc ?_ (by first | omega | (simp; done) | (simp; omega)) _ | refine bchain ?_ (by assumption) (by first | omega | (simp; done) | (simp; omega))))
end Go.Proofs.YtfnblfjkondjfabDoor
