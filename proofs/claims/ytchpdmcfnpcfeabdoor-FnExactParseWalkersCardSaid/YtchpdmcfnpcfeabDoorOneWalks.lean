/- Contracts of chapter 1's functions, the program's and the model's, over one translation. -/
import Derived.Test.YtchpdmcfnpcfeabDoorProg
import Derived.Test.YtchpdmcfnpcfeabDoorMath
import Derived.Test.YtchpdmcfnpcfeabDoorTwoWalks
import Derived.WalkKit
import Derived.WalkSpells
import Derived.WalkLawsBesides
import Derived.Lib.Hide
import Derived.Deep.RegionWith
namespace Go.Proofs.YtchpdmcfnpcfeabDoor
open Go.RowKit
set_option linter.unusedVariables false
set_option linter.unusedSimpArgs false
set_option maxHeartbeats 2000000 in
theorem snGood_any (u d : Int) (w : World) :
    Calls Tryd.prog 21 #[.agg #[.int .i64 u, .int .i64 d]] w fun e w' => e = .returned (.bool (snOk u d)) ∧ Below w.heap.size w w' := by
  cases h1 : inB u 1 1000
  all_goals
    go_enter Tryd.func21, Tryd.ntmps21
    go_wp2_with (first | (go_at_call 37; refine (specIn _ _ _ _).mono ?_; rintro e w1 ⟨rfl, rfl⟩) | go_in)
    all_goals (go_ret; refine ⟨rB ?_, ?_⟩)
    all_goals first | (simp [snOk, h1]) | (repeat (first | exact Below.refl _ _ | refine Below.drew ?_ | refine Below.alloc ?_ (by first | omega | (simp; done) | (simp; omega)) _ | refine bchain ?_ (by assumption) (by first | omega | (simp; done) | (simp; omega))))
set_option maxHeartbeats 2000000 in
theorem implIsSnail (u d : Int) (w : World) :
    Calls Tryd.prog 41 #[.agg #[.int .i64 u, .int .i64 d]] w fun e w' => e = .returned (.bool (snOk u d)) ∧ Below w.heap.size w w' := by
  cases h1 : inB u 1 1000
  all_goals
    go_enter Tryd.func41, Tryd.ntmps41
    go_wp2_with (first | (go_at_call 58; refine (implIn _ _ _ _).mono ?_; rintro e w1 ⟨rfl, rfl⟩) | go_in)
    all_goals (go_ret; refine ⟨rB ?_, ?_⟩)
    all_goals first | (simp [snOk, h1]) | (repeat (first | exact Below.refl _ _ | refine Below.drew ?_ | refine Below.alloc ?_ (by first | omega | (simp; done) | (simp; omega)) _ | refine bchain ?_ (by assumption) (by first | omega | (simp; done) | (simp; omega))))
end Go.Proofs.YtchpdmcfnpcfeabDoor
