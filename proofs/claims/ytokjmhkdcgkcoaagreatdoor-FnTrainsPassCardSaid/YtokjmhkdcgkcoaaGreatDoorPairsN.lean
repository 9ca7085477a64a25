/- Slices of trains (structs of two integers): what a slice reads as, what it owns; the laws' own helpers toTrainS, eqTrainS, markTrainS by contracts. -/
import Derived.Test.YtokjmhkdcgkcoaaGreatDoorProg
import Derived.Test.YtokjmhkdcgkcoaaGreatDoorTwoWalks
import Derived.Test.YtokjmhkdcgkcoaaGreatDoorTrnWalks
import Derived.Test.YtokjmhkdcgkcoaaGreatDoorPairs0
import Derived.WalkKit
import Derived.WalkSpells
import Derived.WalkLawsBesides
import Derived.Lib.Hide
import Derived.Deep.LoopGhost
import Derived.Deep.QuietTactic
import Derived.Deep.RegionHeld3
import Derived.BigQuiet
namespace Go.Proofs.YtokjmhkdcgkcoaaGreatDoor
open Go.RowKit
set_option linter.unusedVariables false
set_option linter.unusedSimpArgs false

/-- The slice of trains at a is the call's own, from block base on, and reads as xs. -/
def OwnN (w : World) (base : Nat) (a : Option Addr) (cap : Nat) (xs : List (Int × Int)) : Prop :=
  w.ownsRow base 25 2 (.slice a xs.length cap) xs.length (cs2 xs)
theorem OwnN.below {w w' : World} {base : Nat} {a : Option Addr} {cap : Nat} {xs : List (Int × Int)} (h : OwnN w base a cap xs) (hb : Below w.heap.size w w') : OwnN w' base a cap xs := row_below h hb
theorem OwnN.rd {w : World} {base : Nat} {a : Option Addr} {cap : Nat} {xs : List (Int × Int)} (h : OwnN w base a cap xs) : RdP w a xs := rowP_rd rfl h
theorem pairInfoN : (Tryz.prog.info? 25).map (fun i => (i.zero, i.size, i.bytes)) = some (some (.agg #[.int .i64 0, .int .i64 0]), 2, 16) := by kernel_rfl

end Go.Proofs.YtokjmhkdcgkcoaaGreatDoor
