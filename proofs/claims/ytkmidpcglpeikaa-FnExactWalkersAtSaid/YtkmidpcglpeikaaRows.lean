/-
  No cell of these rows narrows 'for every input' (looked for: loops, veiled, ifaces, maps, wideKeys, modest, calm, conditions, laid).
  DERIVED. THE GIVEN ROWS OF THIS SEAT. 4 by the template 'for every input the law returns true; each argument reads behind the call as it read before'; 0 by the template 'total and deterministic' (their statements: YtkmidpcglpeikaaTotals.lean).
  GIVEN WITH THE SEED: the statements are not yours to turn. If you find one false, say at which input.
  Laid BY PROGRAM, IN A SANDBOX (cutbox-rows.mjs): the forced cells as the released guide's own fill.sh prints them over the translation b2df34c36eda555a… (all of the seat's roots in one cut). By AI agents, Wed Nov 11 2026. No macro, syntax, notation, axiom, sorry.
-/
import Derived.Test.YtkmidpcglpeikaaChecked
import GoSem.Claim
import GoSem.ClaimJoined
import GoSem.ClaimMapViews
import Derived.JoinedTies
import Derived.KernelRfl
namespace Go.Proofs.Ytkmidpcglpeikaa
/- THE CELL 'sum', in the pinned program and in every row, IS THE sha256 OF THE DUMP (.gsa) THAT YtkmidpcglpeikaaProg.lean LOADS. Nothing in Lean hashes anything: it is a label: what it is worth is what the hold of that sum in a sandbox is worth. -/
noncomputable def Try.pinned : Pinned := { name := "ytkmidpcglpeikaa", sum := "b2df34c36eda555aa221406fc9c6a7bc02df4598623b989ffbdcf1b5148a1041", checked := Try.checked }
namespace Rows
def none {H : Type} : Left H := { results := [], args := [] }

/-- 'laws.FnExactWalkersAt': WHATEVER THE INPUT: true; the input reads as it did. -/
def fnExactWalkersAtSpec : ChangeSpec := { name := "fnExactWalkersAt", fn := fun _ => fun
  | [d1, d2, d3] => { results := [.lit (.bool true)], args := [d1, d2, d3] }
  | _ => none }
def fnExactWalkersAtRow : OpenClaim := { program := "ytkmidpcglpeikaa", sum := "b2df34c36eda555aa221406fc9c6a7bc02df4598623b989ffbdcf1b5148a1041", func := "loop.example/g01335/laws.FnExactWalkersAt", spec := "fnExactWalkersAt", unfollowed := true, recurses := true, apart := false }
def FnExactWalkersAtSaid : Prop := fnExactWalkersAtRow.holds Try.pinned (OpenSpec.ofChange fnExactWalkersAtSpec)

/-- ITS FALSE NEIGHBOUR: 'it returns false'. Refute it at one input. -/
def fnExactWalkersAtWrong : ChangeSpec := { name := "fnExactWalkersAt", fn := fun _ => fun
  | [d1, d2, d3] => { results := [.lit (.bool false)], args := [d1, d2, d3] }
  | _ => none }
def FnExactWalkersAtWrongFalsely : Prop := fnExactWalkersAtRow.holds Try.pinned (OpenSpec.ofChange fnExactWalkersAtWrong)

/-- 'laws.FnExactLastOrder': WHATEVER THE INPUT: true; the input reads as it did. -/
def fnExactLastOrderSpec : ChangeSpec := { name := "fnExactLastOrder", fn := fun _ => fun
  | [d] => { results := [.lit (.bool true)], args := [d] }
  | _ => none }
def fnExactLastOrderRow : OpenClaim := { program := "ytkmidpcglpeikaa", sum := "b2df34c36eda555aa221406fc9c6a7bc02df4598623b989ffbdcf1b5148a1041", func := "loop.example/g01335/laws.FnExactLastOrder", spec := "fnExactLastOrder", unfollowed := true, recurses := true, apart := false }
def FnExactLastOrderSaid : Prop := fnExactLastOrderRow.holds Try.pinned (OpenSpec.ofChange fnExactLastOrderSpec)

/-- ITS FALSE NEIGHBOUR: 'it returns false'. Refute it at one input. -/
def fnExactLastOrderWrong : ChangeSpec := { name := "fnExactLastOrder", fn := fun _ => fun
  | [d] => { results := [.lit (.bool false)], args := [d] }
  | _ => none }
def FnExactLastOrderWrongFalsely : Prop := fnExactLastOrderRow.holds Try.pinned (OpenSpec.ofChange fnExactLastOrderWrong)

/-- 'laws.FnExactOrderOnTrack': WHATEVER THE INPUT: true; the input reads as it did. -/
def fnExactOrderOnTrackSpec : ChangeSpec := { name := "fnExactOrderOnTrack", fn := fun _ => fun
  | [d1, d2, d3] => { results := [.lit (.bool true)], args := [d1, d2, d3] }
  | _ => none }
def fnExactOrderOnTrackRow : OpenClaim := { program := "ytkmidpcglpeikaa", sum := "b2df34c36eda555aa221406fc9c6a7bc02df4598623b989ffbdcf1b5148a1041", func := "loop.example/g01335/laws.FnExactOrderOnTrack", spec := "fnExactOrderOnTrack", unfollowed := true, recurses := true, apart := false }
def FnExactOrderOnTrackSaid : Prop := fnExactOrderOnTrackRow.holds Try.pinned (OpenSpec.ofChange fnExactOrderOnTrackSpec)

/-- ITS FALSE NEIGHBOUR: 'it returns false'. Refute it at one input. -/
def fnExactOrderOnTrackWrong : ChangeSpec := { name := "fnExactOrderOnTrack", fn := fun _ => fun
  | [d1, d2, d3] => { results := [.lit (.bool false)], args := [d1, d2, d3] }
  | _ => none }
def FnExactOrderOnTrackWrongFalsely : Prop := fnExactOrderOnTrackRow.holds Try.pinned (OpenSpec.ofChange fnExactOrderOnTrackWrong)

/-- 'laws.FnExactMostInSiding': WHATEVER THE INPUT: true; the input reads as it did. -/
def fnExactMostInSidingSpec : ChangeSpec := { name := "fnExactMostInSiding", fn := fun _ => fun
  | [d1, d2] => { results := [.lit (.bool true)], args := [d1, d2] }
  | _ => none }
def fnExactMostInSidingRow : OpenClaim := { program := "ytkmidpcglpeikaa", sum := "b2df34c36eda555aa221406fc9c6a7bc02df4598623b989ffbdcf1b5148a1041", func := "loop.example/g01335/laws.FnExactMostInSiding", spec := "fnExactMostInSiding", unfollowed := true, recurses := true, apart := false }
def FnExactMostInSidingSaid : Prop := fnExactMostInSidingRow.holds Try.pinned (OpenSpec.ofChange fnExactMostInSidingSpec)

/-- ITS FALSE NEIGHBOUR: 'it returns false'. Refute it at one input. -/
def fnExactMostInSidingWrong : ChangeSpec := { name := "fnExactMostInSiding", fn := fun _ => fun
  | [d1, d2] => { results := [.lit (.bool false)], args := [d1, d2] }
  | _ => none }
def FnExactMostInSidingWrongFalsely : Prop := fnExactMostInSidingRow.holds Try.pinned (OpenSpec.ofChange fnExactMostInSidingWrong)

/- THE SECOND FORM. 'bulk': how many values and letters a reading holds, each counted each time it is reached (what is shared counts as often as it is met; a slice's spare places count too). A statement '..UptoSaid' is the law's where the arguments, and the package variables that the reading takes, are together of bulk at most 1048576: NARROWER than '..Said'. Prove '..Said' where nothing that the law and all that it calls make is longer than what came in: it says more and counts as full. Else prove '..UptoSaid'. A law counts once. -/
mutual
def uptoBulk {H : Type} : DataW H → Nat
  | .lit (.string bytes) => bytes.length + 1
  | .lit _ => 1
  | .nil => 1
  | .ptr d => uptoBulk d + 1
  | .slice elems spare => uptoBulkAll elems + uptoBulkAll spare + 1
  | .agg parts => uptoBulkAll parts + 1
  | .iface _ d => uptoBulk d + 1
  | .map entries => uptoBulkEntries entries + 1
  | .held _ => 1
def uptoBulkAll {H : Type} : List (DataW H) → Nat
  | [] => 0
  | d :: r => uptoBulk d + uptoBulkAll r
def uptoBulkEntries {H : Type} : List (Lit × DataW H) → Nat
  | [] => 0
  | x :: r => uptoBulkEntry x + uptoBulkEntries r
def uptoBulkEntry {H : Type} : Lit × DataW H → Nat
  | (.string bytes, d) => bytes.length + uptoBulk d + 1
  | (_, d) => uptoBulk d + 1
 end
def uptoSmall : (H : Type) → List (DataW H) → Bool := fun _ ds => decide (uptoBulkAll ds ≤ 1048576)
def OpenSpec.upto (s : _root_.Go.ChangeSpec) : _root_.Go.OpenSpec := { _root_.Go.OpenSpec.ofChange s with cond := some uptoSmall }

/-- 'laws.FnExactWalkersAt', WHERE WHAT IT READS IS OF BULK AT MOST 1048576: true; the input reads as it did. -/
def fnExactWalkersAtUptoRow : OpenClaim := { program := "ytkmidpcglpeikaa", sum := "b2df34c36eda555aa221406fc9c6a7bc02df4598623b989ffbdcf1b5148a1041", func := "loop.example/g01335/laws.FnExactWalkersAt", spec := "fnExactWalkersAt", unfollowed := true, recurses := true, apart := false, narrowed := true }
def FnExactWalkersAtUptoSaid : Prop := fnExactWalkersAtUptoRow.holds Try.pinned (OpenSpec.upto fnExactWalkersAtSpec)

/-- 'laws.FnExactLastOrder', WHERE WHAT IT READS IS OF BULK AT MOST 1048576: true; the input reads as it did. -/
def fnExactLastOrderUptoRow : OpenClaim := { program := "ytkmidpcglpeikaa", sum := "b2df34c36eda555aa221406fc9c6a7bc02df4598623b989ffbdcf1b5148a1041", func := "loop.example/g01335/laws.FnExactLastOrder", spec := "fnExactLastOrder", unfollowed := true, recurses := true, apart := false, narrowed := true }
def FnExactLastOrderUptoSaid : Prop := fnExactLastOrderUptoRow.holds Try.pinned (OpenSpec.upto fnExactLastOrderSpec)

/-- 'laws.FnExactOrderOnTrack', WHERE WHAT IT READS IS OF BULK AT MOST 1048576: true; the input reads as it did. -/
def fnExactOrderOnTrackUptoRow : OpenClaim := { program := "ytkmidpcglpeikaa", sum := "b2df34c36eda555aa221406fc9c6a7bc02df4598623b989ffbdcf1b5148a1041", func := "loop.example/g01335/laws.FnExactOrderOnTrack", spec := "fnExactOrderOnTrack", unfollowed := true, recurses := true, apart := false, narrowed := true }
def FnExactOrderOnTrackUptoSaid : Prop := fnExactOrderOnTrackUptoRow.holds Try.pinned (OpenSpec.upto fnExactOrderOnTrackSpec)

/-- 'laws.FnExactMostInSiding', WHERE WHAT IT READS IS OF BULK AT MOST 1048576: true; the input reads as it did. -/
def fnExactMostInSidingUptoRow : OpenClaim := { program := "ytkmidpcglpeikaa", sum := "b2df34c36eda555aa221406fc9c6a7bc02df4598623b989ffbdcf1b5148a1041", func := "loop.example/g01335/laws.FnExactMostInSiding", spec := "fnExactMostInSiding", unfollowed := true, recurses := true, apart := false, narrowed := true }
def FnExactMostInSidingUptoSaid : Prop := fnExactMostInSidingUptoRow.holds Try.pinned (OpenSpec.upto fnExactMostInSidingSpec)

end Rows
end Go.Proofs.Ytkmidpcglpeikaa
