/- Means of speeds: the model's functions by contracts. -/
import Derived.Test.YtikfblbfodacaaaLegList
import Derived.Test.YtikfblbfodacaaaOneHei
import Derived.WalkKit
import Derived.WalkSpells
import Derived.WalkLawsBesides
import Derived.Lib.Hide
import Derived.Deep.LoopGhost
import Derived.Deep.QuietTactic
import Derived.Deep.RegionHeld3
import Derived.BigQuiet
namespace Go.Proofs.Ytikfblbfodacaaa
open Go.RowKit
set_option linter.unusedVariables false
set_option linter.unusedSimpArgs false
/-- speeds -/
def spS (xs : List Int) : Bool := inB (xs.length : Int) 1 5 && allB xs 1 100
theorem spS_at {xs : List Int} (h : spS xs = true) : 1 ≤ xs.length ∧ xs.length ≤ 5 ∧ ∀ i, i < xs.length → 1 ≤ xs.getD i 0 ∧ xs.getD i 0 ≤ 100 := by
  unfold spS at h
  rw [Bool.and_eq_true, inB_iff] at h
  exact ⟨by omega, by omega, fun i hi => allB_iff.1 h.2 i hi⟩
def sumV (xs : List Int) : Nat → Int
  | 0 => 0
  | j + 1 => sumV xs j + xs.getD j 0
theorem sumV_bd {xs : List Int} (h : ∀ i, i < xs.length → 1 ≤ xs.getD i 0 ∧ xs.getD i 0 ≤ 100) : ∀ j, j ≤ xs.length → 0 ≤ sumV xs j ∧ sumV xs j ≤ 100 * (j : Int)
  | 0, _ => by simp [sumV]
  | j + 1, hj => by
    have ih := sumV_bd h j (by omega)
    have b := h j (by omega)
    unfold sumV
    omega
end Go.Proofs.Ytikfblbfodacaaa
