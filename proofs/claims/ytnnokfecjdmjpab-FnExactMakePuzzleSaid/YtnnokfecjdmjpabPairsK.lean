/- Slices of snails (structs of two integers): what a slice reads as, what it owns; the laws' own helpers toSnailS, eqSnailS, markSnailS by contracts. -/
import Derived.Test.YtnnokfecjdmjpabProg
import Derived.Test.YtnnokfecjdmjpabTwoWalks
import Derived.Test.YtnnokfecjdmjpabOneWalks
import Derived.Test.YtnnokfecjdmjpabPairs0
import Derived.WalkKit
import Derived.WalkSpells
import Derived.WalkLawsBesides
import Derived.Lib.Hide
import Derived.Deep.LoopGhost
import Derived.Deep.QuietTactic
import Derived.Deep.RegionHeld3
import Derived.BigQuiet
namespace Go.Proofs.Ytnnokfecjdmjpab
open Go.RowKit
set_option linter.unusedVariables false
set_option linter.unusedSimpArgs false

/-- The slice of snails at a is the call's own, from block base on, and reads as xs. -/
def OwnK (w : World) (base : Nat) (a : Option Addr) (cap : Nat) (xs : List (Int × Int)) : Prop :=
  w.ownsRow base 40 2 (.slice a xs.length cap) xs.length (cs2 xs)
theorem OwnK.below {w w' : World} {base : Nat} {a : Option Addr} {cap : Nat} {xs : List (Int × Int)} (h : OwnK w base a cap xs) (hb : Below w.heap.size w w') : OwnK w' base a cap xs := row_below h hb
theorem OwnK.rd {w : World} {base : Nat} {a : Option Addr} {cap : Nat} {xs : List (Int × Int)} (h : OwnK w base a cap xs) : RdP w a xs := rowP_rd rfl h
theorem pairInfoK : (Try.prog.info? 40).map (fun i => (i.zero, i.size, i.bytes)) = some (some (.agg #[.int .i64 0, .int .i64 0]), 2, 16) := by kernel_rfl

end Go.Proofs.Ytnnokfecjdmjpab
