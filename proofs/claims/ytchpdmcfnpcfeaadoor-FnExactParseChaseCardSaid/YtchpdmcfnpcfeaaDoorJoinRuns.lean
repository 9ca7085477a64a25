/- The text of runners: the model's loop of concatenations, and the program's pieces joined by the library, by contracts. -/
import Derived.Test.YtchpdmcfnpcfeaaDoorProg
import Derived.Test.YtchpdmcfnpcfeaaDoorThrRun
import Derived.Test.YtchpdmcfnpcfeaaDoorJoin0
import Derived.Test.YtchpdmcfnpcfeaaDoorTextWalks
import Derived.WalkKit
import Derived.WalkSpells
import Derived.WalkLawsBesides
import Derived.Lib.Hide
import Derived.Lib.Join
import Derived.Lib.ItoaNum
import Derived.Deep.LoopGhost
import Derived.Deep.QuietTactic
import Derived.Deep.RegionWith
import Derived.Deep.RegionHeld3
import Derived.BigQuiet
namespace Go.Proofs.YtchpdmcfnpcfeaaDoor
open Go.RowKit
set_option linter.unusedVariables false
set_option linter.unusedSimpArgs false
def rnjx (xs : List (Int × Int)) : ByteArray := if rns 1000 xs then gjt 62 xs xs.length else ⟨#[]⟩
theorem rn_parts {xs : List (Int × Int)} (h : rns 1000 xs = true) : bdX xs ∧ xs.length ≤ 8 := by
  have hr := rns_at h
  exact ⟨fun i hi => by have := rn1_iff.1 (hr.2.2 i hi); omega, by omega⟩
theorem rn_pos {xs : List (Int × Int)} (h : rns 1000 xs = true) : ∀ i, i < xs.length → 0 ≤ px xs i ∧ 0 ≤ py xs i := by
  have hr := rns_at h
  exact fun i hi => by have := rn1_iff.1 (hr.2.2 i hi); omega
end Go.Proofs.YtchpdmcfnpcfeaaDoor
