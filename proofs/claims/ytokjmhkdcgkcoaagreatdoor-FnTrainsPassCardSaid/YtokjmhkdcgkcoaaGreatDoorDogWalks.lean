/- Contracts of chapter 4's functions on a chase and numbers, the model's, over one translation. -/
import Derived.Test.YtokjmhkdcgkcoaaGreatDoorProg
import Derived.Test.YtokjmhkdcgkcoaaGreatDoorDogMath
import Derived.Test.YtokjmhkdcgkcoaaGreatDoorTwoWalks
import Derived.Test.YtokjmhkdcgkcoaaGreatDoorSlices
import Derived.Deep.LoopGhost
import Derived.Deep.Heap
import Derived.WalkKit
import Derived.WalkSpells
import Derived.WalkLawsBesides
import Derived.Lib.Hide
import Derived.Deep.RegionWith
import Derived.Deep.RegionHeld3
import Derived.Deep.QuietTactic
import Derived.BigQuiet
namespace Go.Proofs.YtokjmhkdcgkcoaaGreatDoor
open Go.RowKit
set_option linter.unusedVariables false
set_option linter.unusedSimpArgs false
set_option maxHeartbeats 2000000 in
theorem mostx_any (l r : Int) (w : World) :
    Calls Tryz.prog 74 #[.int .i64 l, .int .i64 r] w fun e w' => e = .returned (.int .i64 (mx l r)) ∧ w = w' := by
  exact most_any l r w
theorem specIn_val {n lo hi : Int} {b : Bool} (h : inB n lo hi = b) (w : World) :
    Calls Tryz.prog 57 #[.int .i64 n, .int .i64 lo, .int .i64 hi] w fun e w' => e = .returned (.bool b) ∧ w' = w := by
  subst h; exact (specIn n lo hi w).mono fun _ _ h => ⟨h.1, h.2.symm⟩
theorem rd_new4 (w : World) (a b c d : Int) (T : Nat) : Rd (w.alloc (.cells #[.int .i64 a, .int .i64 b, .int .i64 c, .int .i64 d] T)) (some ⟨w.heap.size, 0, none⟩) [a, b, c, d] := by
  refine .inr ⟨w.heap.size, 0, rfl, by simp, fun i hi => ?_⟩
  have hi2 : i = 0 ∨ i = 1 ∨ i = 2 ∨ i = 3 := by simp at hi; omega
  rcases hi2 with rfl | rfl | rfl | rfl <;> (unfold World.cell?; rw [Go.Deep.blk_alloc_new]; rfl)
end Go.Proofs.YtokjmhkdcgkcoaaGreatDoor
