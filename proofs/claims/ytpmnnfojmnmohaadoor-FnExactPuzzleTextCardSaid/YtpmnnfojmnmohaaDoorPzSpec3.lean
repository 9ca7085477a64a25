/- Puzzles (chapter 9): the model's functions on one puzzle by contracts. -/
import Derived.Test.YtpmnnfojmnmohaaDoorPzSpec2
import Derived.Test.YtpmnnfojmnmohaaDoorSlices
import Derived.WalkKit
import Derived.WalkSpells
import Derived.WalkLawsBesides
import Derived.Lib.Hide
import Derived.Deep.LoopGhost
import Derived.Deep.QuietTactic
import Derived.Deep.RegionWith
import Derived.Deep.RegionHeld3
import Derived.BigQuiet
namespace Go.Proofs.YtpmnnfojmnmohaaDoor
open Go.RowKit
set_option linter.unusedVariables false
set_option linter.unusedSimpArgs false
def RetI9 (w : World) (L : List Int) (ok : Bool) (e : Ending) (w' : World) : Prop :=
  ∃ (a : Option Addr) (cap : Nat), e = .returned (.tuple #[.slice a L.length cap, .bool ok]) ∧ Own w' w.heap.size a cap L ∧ Below w.heap.size w w'
def RetP9 (w : World) (L : List (Int × Int × Int)) (ok : Bool) (e : Ending) (w' : World) : Prop :=
  ∃ (a : Option Addr) (cap : Nat), e = .returned (.tuple #[.agg #[.slice a L.length cap], .bool ok]) ∧ OwnC w' w.heap.size a cap L ∧ Below w.heap.size w w'
/-- the answers -/
def slL (xs : List (Int × Int × Int)) : List (Int × Int) := if pzG xs then sol xs else []
def slC (xs : List (Int × Int × Int)) : Int := if pzG xs then ((sol xs).length : Int) else 0
def slS (xs : List (Int × Int × Int)) : Bool := pzG xs && decide ((sol xs).length = 1)
def slF (xs : List (Int × Int × Int)) : Bool := pzG xs && decide (0 < (sol xs).length)
def slU (xs : List (Int × Int × Int)) : Int := if slF xs then px (sol xs) 0 else 0
def slD (xs : List (Int × Int × Int)) : Int := if slF xs then py (sol xs) 0 else 0
/-- the number of all of the first j, or -1 -/
def suN (f : Nat → Int) : Nat → Int
  | 0 => f 0
  | j + 1 => if f j = suN f j then suN f j else -1
def suU (xs : List (Int × Int × Int)) : Int := if slF xs then suN (px (sol xs)) (sol xs).length else 0
def suD (xs : List (Int × Int × Int)) : Int := if slF xs then suN (py (sol xs)) (sol xs).length else 0
end Go.Proofs.YtpmnnfojmnmohaaDoor
