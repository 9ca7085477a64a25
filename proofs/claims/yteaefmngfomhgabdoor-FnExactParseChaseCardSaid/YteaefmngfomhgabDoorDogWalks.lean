/- Contracts of chapter 4's functions on a chase and numbers, the model's, over one translation. -/
import Derived.Test.YteaefmngfomhgabDoorProg
import Derived.Test.YteaefmngfomhgabDoorDogMath
import Derived.Test.YteaefmngfomhgabDoorTwoWalks
import Derived.Test.YteaefmngfomhgabDoorSlices
import Derived.Deep.LoopGhost
import Derived.Deep.Heap
import Derived.WalkKit
import Derived.WalkSpells
import Derived.WalkLawsBesides
import Derived.Lib.Hide
import Derived.Deep.RegionWith
import Derived.Deep.RegionHeld3
import Derived.Deep.QuietTactic
import Derived.BigQuiet
namespace Go.Proofs.YteaefmngfomhgabDoor
open Go.RowKit
set_option linter.unusedVariables false
set_option linter.unusedSimpArgs false
set_option maxHeartbeats 2000000 in
theorem mostx_any (l r : Int) (w : World) :
    Calls Tryd.prog 94 #[.int .i64 l, .int .i64 r] w fun e w' => e = .returned (.int .i64 (mx l r)) ∧ w = w' := by
  exact most_any l r w
theorem specIn_val {n lo hi : Int} {b : Bool} (h : inB n lo hi = b) (w : World) :
    Calls Tryd.prog 64 #[.int .i64 n, .int .i64 lo, .int .i64 hi] w fun e w' => e = .returned (.bool b) ∧ w' = w := by
  subst h; exact (specIn n lo hi w).mono fun _ _ h => ⟨h.1, h.2.symm⟩
set_option maxHeartbeats 2000000 in
theorem doGood_any (a l r g : Int) (w : World) :
    Calls Tryd.prog 83 #[.agg #[.int .i64 a, .int .i64 l, .int .i64 r, .int .i64 g]] w fun e w' => e = .returned (.bool (chOk a l r g)) ∧ Below w.heap.size w w' := by
  cases h1 : inB a 1 1000 <;> cases h2 : inB l 0 20 <;> cases h3 : inB r 0 20
  case true.true.true =>
    have k1 := inB_iff.1 h2
    have k2 := inB_iff.1 h3
    have k3 := mx_bd l r
    have u1 : IntKind.i64.wrap (l + r) = l + r := IntWalk.i64_in _ (by omega)
    have u2 : IntKind.i64.wrap (mx l r + 1) = mx l r + 1 := IntWalk.i64_in _ (by omega)
    cases h4 : decide (0 < l + r)
    all_goals
      go_enter Tryd.func83, Tryd.ntmps83
      go_wp2_with fail
      go_quiet (first | (go_at_call_of 64 (Value.int .i64 a); exact Calls.quiet_of_same (specIn_val h1 _)) | (go_at_call_of 64 (Value.int .i64 l); exact Calls.quiet_of_same (specIn_val h2 _)) | (go_at_call_of 64 (Value.int .i64 r); exact Calls.quiet_of_same (specIn_val h3 _)) | (go_at_call_of 64 (Value.int .i64 g); exact Calls.quiet_of_same ((specIn _ _ _ _).mono fun _ _ h => ⟨h.1, h.2.symm⟩)) | (go_at_call 94; exact Calls.quiet_of_same ((mostx_any _ _ _).mono fun _ _ h => ⟨h.1, h.2.symm⟩)))
      go_wp2_with fail
      go_ret
      refine ⟨rB ?_, ?_⟩
      all_goals first | (simp [chOk, h1, h2, h3, h4]; done) | (repeat (first | exact Below.refl _ _ | refine Below.drew ?_ | refine below_drewN ?_ _ | refine Below.setCell ?_ (by first | omega | (simp; done) | (simp; omega)) _ | refine Below.alloc ?_ (by first | omega | (simp; done) | (simp; omega)) _ | refine bchain ?_ (by assumption) (by first | omega | (simp; done) | (simp; omega))))
  all_goals
    go_enter Tryd.func83, Tryd.ntmps83
    go_wp2_with fail
    go_quiet (first | (go_at_call_of 64 (Value.int .i64 a); exact Calls.quiet_of_same (specIn_val h1 _)) | (go_at_call_of 64 (Value.int .i64 l); exact Calls.quiet_of_same (specIn_val h2 _)) | (go_at_call_of 64 (Value.int .i64 r); exact Calls.quiet_of_same (specIn_val h3 _)) | (go_at_call_of 64 (Value.int .i64 g); exact Calls.quiet_of_same ((specIn _ _ _ _).mono fun _ _ h => ⟨h.1, h.2.symm⟩)) | (go_at_call 94; exact Calls.quiet_of_same ((mostx_any _ _ _).mono fun _ _ h => ⟨h.1, h.2.symm⟩)))
    go_wp2_with fail
    go_ret
    refine ⟨rB ?_, ?_⟩
    all_goals first | (simp [chOk, h1, h2, h3]; done) | (repeat (first | exact Below.refl _ _ | refine Below.drew ?_ | refine below_drewN ?_ _ | refine Below.setCell ?_ (by first | omega | (simp; done) | (simp; omega)) _ | refine Below.alloc ?_ (by first | omega | (simp; done) | (simp; omega)) _ | refine bchain ?_ (by assumption) (by first | omega | (simp; done) | (simp; omega))))
theorem rd_new4 (w : World) (a b c d : Int) (T : Nat) : Rd (w.alloc (.cells #[.int .i64 a, .int .i64 b, .int .i64 c, .int .i64 d] T)) (some ⟨w.heap.size, 0, none⟩) [a, b, c, d] := by
  refine .inr ⟨w.heap.size, 0, rfl, by simp, fun i hi => ?_⟩
  have hi2 : i = 0 ∨ i = 1 ∨ i = 2 ∨ i = 3 := by simp at hi; omega
  rcases hi2 with rfl | rfl | rfl | rfl <;> (unfold World.cell?; rw [Go.Deep.blk_alloc_new]; rfl)
end Go.Proofs.YteaefmngfomhgabDoor
