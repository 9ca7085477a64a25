/- Puzzles (chapter 9): the model's BestClue, HarderPuzzle and MakePuzzle by contracts. -/
import Derived.Test.YtpmnnfojmnmohaaDoorPzSpec4
import Derived.WalkKit
import Derived.WalkSpells
import Derived.WalkLawsBesides
import Derived.Lib.Hide
import Derived.Deep.LoopGhost
import Derived.Deep.QuietTactic
import Derived.Deep.RegionWith
import Derived.Deep.RegionHeld3
import Derived.Deep.RegionHeldLaw
import Derived.BigQuiet
namespace Go.Proofs.YtpmnnfojmnmohaaDoor
open Go.RowKit
set_option linter.unusedVariables false
set_option linter.unusedSimpArgs false
/-- the best one of the first, and how many fit it -/
def bsN (f : Nat → Int) : Nat → Int × Int
  | 0 => (0, 0)
  | k + 1 => if k = 0 ∨ f k < (bsN f k).2 then ((k : Int), f k) else bsN f k
/-- how many fit one clue alone -/
def onF (xs : List (Int × Int × Int)) (k : Nat) : Int := ((sol ((xs.drop k).take 1)).length : Int)
theorem onF_bd (xs : List (Int × Int × Int)) (k : Nat) : 0 ≤ onF xs k ∧ onF xs k ≤ 156 := by
  have := sol_len ((xs.drop k).take 1)
  unfold onF; omega
def bsO (xs : List (Int × Int × Int)) : Bool := pzG xs && !decide (xs.length = 0)
def bsI (xs : List (Int × Int × Int)) : Int := if bsO xs then (bsN (onF xs) xs.length).1 else 0
theorem clA_one {xs : List (Int × Int × Int)} (k : Nat) (h : clA xs = true) : clA ((xs.drop k).take 1) = true := clA_sub h fun _ hp => List.mem_of_mem_drop (List.mem_of_mem_take hp)
/-- the clues from which the needless ones are taken out -/
def hrd : Nat → List (Int × Int × Int) → Nat → List (Int × Int × Int)
  | 0, xs, k => xs
  | f + 1, xs, k => if (sol (drp xs k)).length = 1 then hrd f (drp xs k) k else hrd f xs (k + 1)
def hrO (xs : List (Int × Int × Int)) : Bool := pzG xs && decide ((sol xs).length = 1)
def hrL (xs : List (Int × Int × Int)) : List (Int × Int × Int) := if hrO xs then hrd xs.length xs 0 else []
theorem hrd_len : ∀ (f : Nat) (xs : List (Int × Int × Int)) (k : Nat), xs.length = k + f → (hrd f xs k).length ≤ xs.length
  | 0, xs, k, h => Nat.le_refl _
  | f + 1, xs, k, h => by
    unfold hrd
    have hd : (drp xs k).length = xs.length - 1 := drp_len (by omega)
    split
    · have := hrd_len f (drp xs k) k (by omega); omega
    · exact hrd_len f xs (k + 1) (by omega)
end Go.Proofs.YtpmnnfojmnmohaaDoor
