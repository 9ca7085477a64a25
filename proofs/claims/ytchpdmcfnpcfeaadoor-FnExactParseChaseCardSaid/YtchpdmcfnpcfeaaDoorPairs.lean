/- Slices of walkers (structs of two integers): what a slice reads as, what it owns; the laws' own helpers toWalkerS, eqWalkerS, markWalkerS by contracts. -/
import Derived.Test.YtchpdmcfnpcfeaaDoorProg
import Derived.Test.YtchpdmcfnpcfeaaDoorTwoWalks
import Derived.Test.YtchpdmcfnpcfeaaDoorPairs0
import Derived.WalkKit
import Derived.WalkSpells
import Derived.WalkLawsBesides
import Derived.Lib.Hide
import Derived.Deep.LoopGhost
import Derived.Deep.QuietTactic
import Derived.Deep.RegionHeld3
import Derived.BigQuiet
namespace Go.Proofs.YtchpdmcfnpcfeaaDoor
open Go.RowKit
set_option linter.unusedVariables false
set_option linter.unusedSimpArgs false

/-- are they all walkers, from 1 to 8 -/
def allW (xs : List (Int × Int)) : Bool := xs.all fun p => wkOk p.1 p.2
def wks (xs : List (Int × Int)) : Bool := inB (xs.length : Int) 1 8 && allW xs
theorem allW_at {xs : List (Int × Int)} (h : allW xs = true) {i : Nat} (hi : i < xs.length) : wkOk (px xs i) (py xs i) = true := by
  unfold allW at h
  rw [List.all_eq_true] at h
  have := h xs[i] (List.getElem_mem hi)
  simpa [px, py, List.getD, List.getElem?_eq_getElem hi] using this
theorem allW_no {xs : List (Int × Int)} {i : Nat} (hi : i < xs.length) (h : wkOk (px xs i) (py xs i) = false) : allW xs = false := by
  cases hw : allW xs
  · rfl
  · rw [allW_at hw hi] at h; cases h
theorem allW_of {xs : List (Int × Int)} (h : ∀ i, i < xs.length → wkOk (px xs i) (py xs i) = true) : allW xs = true := by
  unfold allW
  rw [List.all_eq_true]
  intro p hp
  obtain ⟨i, hi, rfl⟩ := List.getElem_of_mem hp
  have := h i hi
  simpa [px, py, List.getD, List.getElem?_eq_getElem hi] using this

end Go.Proofs.YtchpdmcfnpcfeaaDoor
