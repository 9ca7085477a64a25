/- The text of walkers: the model's loop of concatenations, and the program's pieces joined by the library, by contracts. -/
import Derived.Test.YtchpdmcfnpcfeaaDoorProg
import Derived.Test.YtchpdmcfnpcfeaaDoorPairs
import Derived.Test.YtchpdmcfnpcfeaaDoorJoin0
import Derived.Test.YtchpdmcfnpcfeaaDoorTextWalks
import Derived.WalkKit
import Derived.WalkSpells
import Derived.WalkLawsBesides
import Derived.Lib.Hide
import Derived.Lib.Join
import Derived.Lib.ItoaNum
import Derived.Deep.LoopGhost
import Derived.Deep.QuietTactic
import Derived.Deep.RegionWith
import Derived.Deep.RegionHeld3
import Derived.BigQuiet
namespace Go.Proofs.YtchpdmcfnpcfeaaDoor
open Go.RowKit
set_option linter.unusedVariables false
set_option linter.unusedSimpArgs false
def wkjx (xs : List (Int × Int)) : ByteArray := if wks xs then gjt 58 xs xs.length else ⟨#[]⟩
theorem wk_parts {xs : List (Int × Int)} (h : wks xs = true) : bdX xs ∧ xs.length ≤ 8 := by
  unfold wks at h
  rw [Bool.and_eq_true] at h
  have := inB_iff.1 h.1
  exact ⟨fun i hi => by have := wkOk_iff.1 (allW_at h.2 hi); omega, by omega⟩
end Go.Proofs.YtchpdmcfnpcfeaaDoor
