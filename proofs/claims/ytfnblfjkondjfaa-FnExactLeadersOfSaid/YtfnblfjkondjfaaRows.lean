/-
  No cell of these rows narrows 'for every input' (looked for: loops, veiled, ifaces, maps, wideKeys, modest, calm, conditions, laid).
  DERIVED. THE GIVEN ROWS OF THIS SEAT. 12 by the template 'for every input the law returns true; each argument reads behind the call as it read before'; 0 by the template 'total and deterministic' (their statements: YtfnblfjkondjfaaTotals.lean).
  GIVEN WITH THE SEED: the statements are not yours to turn. If you find one false, say at which input.
  Laid BY PROGRAM, IN A SANDBOX (cutbox-rows.mjs): the forced cells as the released guide's own fill.sh prints them over the translation e44bc130cfeaf5e3… (all of the seat's roots in one cut). By AI agents, Wed Nov 11 2026. No macro, syntax, notation, axiom, sorry.
-/
import Derived.Test.YtfnblfjkondjfaaChecked
import GoSem.Claim
import GoSem.ClaimJoined
import GoSem.ClaimMapViews
import Derived.JoinedTies
import Derived.KernelRfl
namespace Go.Proofs.Ytfnblfjkondjfaa
/- THE CELL 'sum', in the pinned program and in every row, IS THE sha256 OF THE DUMP (.gsa) THAT YtfnblfjkondjfaaProg.lean LOADS. Nothing in Lean hashes anything: it is a label: what it is worth is what the hold of that sum in a sandbox is worth. -/
noncomputable def Try.pinned : Pinned := { name := "ytfnblfjkondjfaa", sum := "e44bc130cfeaf5e36344e4052865ddb5776ddbf1871ae28f7b4084d235e327b0", checked := Try.checked }
namespace Rows
def none {H : Type} : Left H := { results := [], args := [] }

/-- 'laws.FnExactIsWalker': WHATEVER THE INPUT: true; the input reads as it did. -/
def fnExactIsWalkerSpec : ChangeSpec := { name := "fnExactIsWalker", fn := fun _ => fun
  | [d] => { results := [.lit (.bool true)], args := [d] }
  | _ => none }
def fnExactIsWalkerRow : OpenClaim := { program := "ytfnblfjkondjfaa", sum := "e44bc130cfeaf5e36344e4052865ddb5776ddbf1871ae28f7b4084d235e327b0", func := "loop.example/g01335/laws.FnExactIsWalker", spec := "fnExactIsWalker", apart := false }
def FnExactIsWalkerSaid : Prop := fnExactIsWalkerRow.holds Try.pinned (OpenSpec.ofChange fnExactIsWalkerSpec)

/-- ITS FALSE NEIGHBOUR: 'it returns false'. Refute it at one input. -/
def fnExactIsWalkerWrong : ChangeSpec := { name := "fnExactIsWalker", fn := fun _ => fun
  | [d] => { results := [.lit (.bool false)], args := [d] }
  | _ => none }
def FnExactIsWalkerWrongFalsely : Prop := fnExactIsWalkerRow.holds Try.pinned (OpenSpec.ofChange fnExactIsWalkerWrong)

/-- 'laws.FnExactAreWalkers': WHATEVER THE INPUT: true; the input reads as it did. -/
def fnExactAreWalkersSpec : ChangeSpec := { name := "fnExactAreWalkers", fn := fun _ => fun
  | [d] => { results := [.lit (.bool true)], args := [d] }
  | _ => none }
def fnExactAreWalkersRow : OpenClaim := { program := "ytfnblfjkondjfaa", sum := "e44bc130cfeaf5e36344e4052865ddb5776ddbf1871ae28f7b4084d235e327b0", func := "loop.example/g01335/laws.FnExactAreWalkers", spec := "fnExactAreWalkers", apart := false }
def FnExactAreWalkersSaid : Prop := fnExactAreWalkersRow.holds Try.pinned (OpenSpec.ofChange fnExactAreWalkersSpec)

/-- ITS FALSE NEIGHBOUR: 'it returns false'. Refute it at one input. -/
def fnExactAreWalkersWrong : ChangeSpec := { name := "fnExactAreWalkers", fn := fun _ => fun
  | [d] => { results := [.lit (.bool false)], args := [d] }
  | _ => none }
def FnExactAreWalkersWrongFalsely : Prop := fnExactAreWalkersRow.holds Try.pinned (OpenSpec.ofChange fnExactAreWalkersWrong)

/-- 'laws.FnExactWalkerPlace': WHATEVER THE INPUT: true; the input reads as it did. -/
def fnExactWalkerPlaceSpec : ChangeSpec := { name := "fnExactWalkerPlace", fn := fun _ => fun
  | [d1, d2, d3] => { results := [.lit (.bool true)], args := [d1, d2, d3] }
  | _ => none }
def fnExactWalkerPlaceRow : OpenClaim := { program := "ytfnblfjkondjfaa", sum := "e44bc130cfeaf5e36344e4052865ddb5776ddbf1871ae28f7b4084d235e327b0", func := "loop.example/g01335/laws.FnExactWalkerPlace", spec := "fnExactWalkerPlace", apart := false }
def FnExactWalkerPlaceSaid : Prop := fnExactWalkerPlaceRow.holds Try.pinned (OpenSpec.ofChange fnExactWalkerPlaceSpec)

/-- ITS FALSE NEIGHBOUR: 'it returns false'. Refute it at one input. -/
def fnExactWalkerPlaceWrong : ChangeSpec := { name := "fnExactWalkerPlace", fn := fun _ => fun
  | [d1, d2, d3] => { results := [.lit (.bool false)], args := [d1, d2, d3] }
  | _ => none }
def FnExactWalkerPlaceWrongFalsely : Prop := fnExactWalkerPlaceRow.holds Try.pinned (OpenSpec.ofChange fnExactWalkerPlaceWrong)

/-- 'laws.FnExactGapAt': WHATEVER THE INPUT: true; the input reads as it did. -/
def fnExactGapAtSpec : ChangeSpec := { name := "fnExactGapAt", fn := fun _ => fun
  | [d1, d2, d3, d4] => { results := [.lit (.bool true)], args := [d1, d2, d3, d4] }
  | _ => none }
def fnExactGapAtRow : OpenClaim := { program := "ytfnblfjkondjfaa", sum := "e44bc130cfeaf5e36344e4052865ddb5776ddbf1871ae28f7b4084d235e327b0", func := "loop.example/g01335/laws.FnExactGapAt", spec := "fnExactGapAt", apart := false }
def FnExactGapAtSaid : Prop := fnExactGapAtRow.holds Try.pinned (OpenSpec.ofChange fnExactGapAtSpec)

/-- ITS FALSE NEIGHBOUR: 'it returns false'. Refute it at one input. -/
def fnExactGapAtWrong : ChangeSpec := { name := "fnExactGapAt", fn := fun _ => fun
  | [d1, d2, d3, d4] => { results := [.lit (.bool false)], args := [d1, d2, d3, d4] }
  | _ => none }
def FnExactGapAtWrongFalsely : Prop := fnExactGapAtRow.holds Try.pinned (OpenSpec.ofChange fnExactGapAtWrong)

/-- 'laws.FnExactMeetingTime': WHATEVER THE INPUT: true; the input reads as it did. -/
def fnExactMeetingTimeSpec : ChangeSpec := { name := "fnExactMeetingTime", fn := fun _ => fun
  | [d1, d2] => { results := [.lit (.bool true)], args := [d1, d2] }
  | _ => none }
def fnExactMeetingTimeRow : OpenClaim := { program := "ytfnblfjkondjfaa", sum := "e44bc130cfeaf5e36344e4052865ddb5776ddbf1871ae28f7b4084d235e327b0", func := "loop.example/g01335/laws.FnExactMeetingTime", spec := "fnExactMeetingTime", unfollowed := true, recurses := true, apart := false }
def FnExactMeetingTimeSaid : Prop := fnExactMeetingTimeRow.holds Try.pinned (OpenSpec.ofChange fnExactMeetingTimeSpec)

/-- ITS FALSE NEIGHBOUR: 'it returns false'. Refute it at one input. -/
def fnExactMeetingTimeWrong : ChangeSpec := { name := "fnExactMeetingTime", fn := fun _ => fun
  | [d1, d2] => { results := [.lit (.bool false)], args := [d1, d2] }
  | _ => none }
def FnExactMeetingTimeWrongFalsely : Prop := fnExactMeetingTimeRow.holds Try.pinned (OpenSpec.ofChange fnExactMeetingTimeWrong)

/-- 'laws.FnExactMeetingPlace': WHATEVER THE INPUT: true; the input reads as it did. -/
def fnExactMeetingPlaceSpec : ChangeSpec := { name := "fnExactMeetingPlace", fn := fun _ => fun
  | [d1, d2] => { results := [.lit (.bool true)], args := [d1, d2] }
  | _ => none }
def fnExactMeetingPlaceRow : OpenClaim := { program := "ytfnblfjkondjfaa", sum := "e44bc130cfeaf5e36344e4052865ddb5776ddbf1871ae28f7b4084d235e327b0", func := "loop.example/g01335/laws.FnExactMeetingPlace", spec := "fnExactMeetingPlace", unfollowed := true, recurses := true, apart := false }
def FnExactMeetingPlaceSaid : Prop := fnExactMeetingPlaceRow.holds Try.pinned (OpenSpec.ofChange fnExactMeetingPlaceSpec)

/-- ITS FALSE NEIGHBOUR: 'it returns false'. Refute it at one input. -/
def fnExactMeetingPlaceWrong : ChangeSpec := { name := "fnExactMeetingPlace", fn := fun _ => fun
  | [d1, d2] => { results := [.lit (.bool false)], args := [d1, d2] }
  | _ => none }
def FnExactMeetingPlaceWrongFalsely : Prop := fnExactMeetingPlaceRow.holds Try.pinned (OpenSpec.ofChange fnExactMeetingPlaceWrong)

/-- 'laws.FnExactRingTime': WHATEVER THE INPUT: true; the input reads as it did. -/
def fnExactRingTimeSpec : ChangeSpec := { name := "fnExactRingTime", fn := fun _ => fun
  | [d1, d2, d3] => { results := [.lit (.bool true)], args := [d1, d2, d3] }
  | _ => none }
def fnExactRingTimeRow : OpenClaim := { program := "ytfnblfjkondjfaa", sum := "e44bc130cfeaf5e36344e4052865ddb5776ddbf1871ae28f7b4084d235e327b0", func := "loop.example/g01335/laws.FnExactRingTime", spec := "fnExactRingTime", unfollowed := true, recurses := true, apart := false }
def FnExactRingTimeSaid : Prop := fnExactRingTimeRow.holds Try.pinned (OpenSpec.ofChange fnExactRingTimeSpec)

/-- ITS FALSE NEIGHBOUR: 'it returns false'. Refute it at one input. -/
def fnExactRingTimeWrong : ChangeSpec := { name := "fnExactRingTime", fn := fun _ => fun
  | [d1, d2, d3] => { results := [.lit (.bool false)], args := [d1, d2, d3] }
  | _ => none }
def FnExactRingTimeWrongFalsely : Prop := fnExactRingTimeRow.holds Try.pinned (OpenSpec.ofChange fnExactRingTimeWrong)

/-- 'laws.FnExactRingGap': WHATEVER THE INPUT: true; the input reads as it did. -/
def fnExactRingGapSpec : ChangeSpec := { name := "fnExactRingGap", fn := fun _ => fun
  | [d1, d2, d3] => { results := [.lit (.bool true)], args := [d1, d2, d3] }
  | _ => none }
def fnExactRingGapRow : OpenClaim := { program := "ytfnblfjkondjfaa", sum := "e44bc130cfeaf5e36344e4052865ddb5776ddbf1871ae28f7b4084d235e327b0", func := "loop.example/g01335/laws.FnExactRingGap", spec := "fnExactRingGap", unfollowed := true, recurses := true, apart := false }
def FnExactRingGapSaid : Prop := fnExactRingGapRow.holds Try.pinned (OpenSpec.ofChange fnExactRingGapSpec)

/-- ITS FALSE NEIGHBOUR: 'it returns false'. Refute it at one input. -/
def fnExactRingGapWrong : ChangeSpec := { name := "fnExactRingGap", fn := fun _ => fun
  | [d1, d2, d3] => { results := [.lit (.bool false)], args := [d1, d2, d3] }
  | _ => none }
def FnExactRingGapWrongFalsely : Prop := fnExactRingGapRow.holds Try.pinned (OpenSpec.ofChange fnExactRingGapWrong)

/-- 'laws.FnExactCountRingMeetings': WHATEVER THE INPUT: true; the input reads as it did. -/
def fnExactCountRingMeetingsSpec : ChangeSpec := { name := "fnExactCountRingMeetings", fn := fun _ => fun
  | [d1, d2, d3, d4] => { results := [.lit (.bool true)], args := [d1, d2, d3, d4] }
  | _ => none }
def fnExactCountRingMeetingsRow : OpenClaim := { program := "ytfnblfjkondjfaa", sum := "e44bc130cfeaf5e36344e4052865ddb5776ddbf1871ae28f7b4084d235e327b0", func := "loop.example/g01335/laws.FnExactCountRingMeetings", spec := "fnExactCountRingMeetings", apart := false }
def FnExactCountRingMeetingsSaid : Prop := fnExactCountRingMeetingsRow.holds Try.pinned (OpenSpec.ofChange fnExactCountRingMeetingsSpec)

/-- ITS FALSE NEIGHBOUR: 'it returns false'. Refute it at one input. -/
def fnExactCountRingMeetingsWrong : ChangeSpec := { name := "fnExactCountRingMeetings", fn := fun _ => fun
  | [d1, d2, d3, d4] => { results := [.lit (.bool false)], args := [d1, d2, d3, d4] }
  | _ => none }
def FnExactCountRingMeetingsWrongFalsely : Prop := fnExactCountRingMeetingsRow.holds Try.pinned (OpenSpec.ofChange fnExactCountRingMeetingsWrong)

/-- 'laws.FnExactAllAtStart': WHATEVER THE INPUT: true; the input reads as it did. -/
def fnExactAllAtStartSpec : ChangeSpec := { name := "fnExactAllAtStart", fn := fun _ => fun
  | [d1, d2] => { results := [.lit (.bool true)], args := [d1, d2] }
  | _ => none }
def fnExactAllAtStartRow : OpenClaim := { program := "ytfnblfjkondjfaa", sum := "e44bc130cfeaf5e36344e4052865ddb5776ddbf1871ae28f7b4084d235e327b0", func := "loop.example/g01335/laws.FnExactAllAtStart", spec := "fnExactAllAtStart", apart := false }
def FnExactAllAtStartSaid : Prop := fnExactAllAtStartRow.holds Try.pinned (OpenSpec.ofChange fnExactAllAtStartSpec)

/-- ITS FALSE NEIGHBOUR: 'it returns false'. Refute it at one input. -/
def fnExactAllAtStartWrong : ChangeSpec := { name := "fnExactAllAtStart", fn := fun _ => fun
  | [d1, d2] => { results := [.lit (.bool false)], args := [d1, d2] }
  | _ => none }
def FnExactAllAtStartWrongFalsely : Prop := fnExactAllAtStartRow.holds Try.pinned (OpenSpec.ofChange fnExactAllAtStartWrong)

/-- 'laws.FnExactLeadersOf': WHATEVER THE INPUT: true; the input reads as it did. -/
def fnExactLeadersOfSpec : ChangeSpec := { name := "fnExactLeadersOf", fn := fun _ => fun
  | [d] => { results := [.lit (.bool true)], args := [d] }
  | _ => none }
def fnExactLeadersOfRow : OpenClaim := { program := "ytfnblfjkondjfaa", sum := "e44bc130cfeaf5e36344e4052865ddb5776ddbf1871ae28f7b4084d235e327b0", func := "loop.example/g01335/laws.FnExactLeadersOf", spec := "fnExactLeadersOf", apart := false }
def FnExactLeadersOfSaid : Prop := fnExactLeadersOfRow.holds Try.pinned (OpenSpec.ofChange fnExactLeadersOfSpec)

/-- ITS FALSE NEIGHBOUR: 'it returns false'. Refute it at one input. -/
def fnExactLeadersOfWrong : ChangeSpec := { name := "fnExactLeadersOf", fn := fun _ => fun
  | [d] => { results := [.lit (.bool false)], args := [d] }
  | _ => none }
def FnExactLeadersOfWrongFalsely : Prop := fnExactLeadersOfRow.holds Try.pinned (OpenSpec.ofChange fnExactLeadersOfWrong)

/-- 'laws.FnExactDaysWithSlips': WHATEVER THE INPUT: true; the input reads as it did. -/
def fnExactDaysWithSlipsSpec : ChangeSpec := { name := "fnExactDaysWithSlips", fn := fun _ => fun
  | [d1, d2, d3] => { results := [.lit (.bool true)], args := [d1, d2, d3] }
  | _ => none }
def fnExactDaysWithSlipsRow : OpenClaim := { program := "ytfnblfjkondjfaa", sum := "e44bc130cfeaf5e36344e4052865ddb5776ddbf1871ae28f7b4084d235e327b0", func := "loop.example/g01335/laws.FnExactDaysWithSlips", spec := "fnExactDaysWithSlips", apart := false }
def FnExactDaysWithSlipsSaid : Prop := fnExactDaysWithSlipsRow.holds Try.pinned (OpenSpec.ofChange fnExactDaysWithSlipsSpec)

/-- ITS FALSE NEIGHBOUR: 'it returns false'. Refute it at one input. -/
def fnExactDaysWithSlipsWrong : ChangeSpec := { name := "fnExactDaysWithSlips", fn := fun _ => fun
  | [d1, d2, d3] => { results := [.lit (.bool false)], args := [d1, d2, d3] }
  | _ => none }
def FnExactDaysWithSlipsWrongFalsely : Prop := fnExactDaysWithSlipsRow.holds Try.pinned (OpenSpec.ofChange fnExactDaysWithSlipsWrong)

/- THE SECOND FORM. 'bulk': how many values and letters a reading holds, each counted each time it is reached (what is shared counts as often as it is met; a slice's spare places count too). A statement '..UptoSaid' is the law's where the arguments, and the package variables that the reading takes, are together of bulk at most 1048576: NARROWER than '..Said'. Prove '..Said' where nothing that the law and all that it calls make is longer than what came in: it says more and counts as full. Else prove '..UptoSaid'. A law counts once. -/
mutual
def uptoBulk {H : Type} : DataW H → Nat
  | .lit (.string bytes) => bytes.length + 1
  | .lit _ => 1
  | .nil => 1
  | .ptr d => uptoBulk d + 1
  | .slice elems spare => uptoBulkAll elems + uptoBulkAll spare + 1
  | .agg parts => uptoBulkAll parts + 1
  | .iface _ d => uptoBulk d + 1
  | .map entries => uptoBulkEntries entries + 1
  | .held _ => 1
def uptoBulkAll {H : Type} : List (DataW H) → Nat
  | [] => 0
  | d :: r => uptoBulk d + uptoBulkAll r
def uptoBulkEntries {H : Type} : List (Lit × DataW H) → Nat
  | [] => 0
  | x :: r => uptoBulkEntry x + uptoBulkEntries r
def uptoBulkEntry {H : Type} : Lit × DataW H → Nat
  | (.string bytes, d) => bytes.length + uptoBulk d + 1
  | (_, d) => uptoBulk d + 1
 end
def uptoSmall : (H : Type) → List (DataW H) → Bool := fun _ ds => decide (uptoBulkAll ds ≤ 1048576)
def OpenSpec.upto (s : _root_.Go.ChangeSpec) : _root_.Go.OpenSpec := { _root_.Go.OpenSpec.ofChange s with cond := some uptoSmall }

/-- 'laws.FnExactIsWalker', WHERE WHAT IT READS IS OF BULK AT MOST 1048576: true; the input reads as it did. -/
def fnExactIsWalkerUptoRow : OpenClaim := { program := "ytfnblfjkondjfaa", sum := "e44bc130cfeaf5e36344e4052865ddb5776ddbf1871ae28f7b4084d235e327b0", func := "loop.example/g01335/laws.FnExactIsWalker", spec := "fnExactIsWalker", apart := false, narrowed := true }
def FnExactIsWalkerUptoSaid : Prop := fnExactIsWalkerUptoRow.holds Try.pinned (OpenSpec.upto fnExactIsWalkerSpec)

/-- 'laws.FnExactAreWalkers', WHERE WHAT IT READS IS OF BULK AT MOST 1048576: true; the input reads as it did. -/
def fnExactAreWalkersUptoRow : OpenClaim := { program := "ytfnblfjkondjfaa", sum := "e44bc130cfeaf5e36344e4052865ddb5776ddbf1871ae28f7b4084d235e327b0", func := "loop.example/g01335/laws.FnExactAreWalkers", spec := "fnExactAreWalkers", apart := false, narrowed := true }
def FnExactAreWalkersUptoSaid : Prop := fnExactAreWalkersUptoRow.holds Try.pinned (OpenSpec.upto fnExactAreWalkersSpec)

/-- 'laws.FnExactWalkerPlace', WHERE WHAT IT READS IS OF BULK AT MOST 1048576: true; the input reads as it did. -/
def fnExactWalkerPlaceUptoRow : OpenClaim := { program := "ytfnblfjkondjfaa", sum := "e44bc130cfeaf5e36344e4052865ddb5776ddbf1871ae28f7b4084d235e327b0", func := "loop.example/g01335/laws.FnExactWalkerPlace", spec := "fnExactWalkerPlace", apart := false, narrowed := true }
def FnExactWalkerPlaceUptoSaid : Prop := fnExactWalkerPlaceUptoRow.holds Try.pinned (OpenSpec.upto fnExactWalkerPlaceSpec)

/-- 'laws.FnExactGapAt', WHERE WHAT IT READS IS OF BULK AT MOST 1048576: true; the input reads as it did. -/
def fnExactGapAtUptoRow : OpenClaim := { program := "ytfnblfjkondjfaa", sum := "e44bc130cfeaf5e36344e4052865ddb5776ddbf1871ae28f7b4084d235e327b0", func := "loop.example/g01335/laws.FnExactGapAt", spec := "fnExactGapAt", apart := false, narrowed := true }
def FnExactGapAtUptoSaid : Prop := fnExactGapAtUptoRow.holds Try.pinned (OpenSpec.upto fnExactGapAtSpec)

/-- 'laws.FnExactMeetingTime', WHERE WHAT IT READS IS OF BULK AT MOST 1048576: true; the input reads as it did. -/
def fnExactMeetingTimeUptoRow : OpenClaim := { program := "ytfnblfjkondjfaa", sum := "e44bc130cfeaf5e36344e4052865ddb5776ddbf1871ae28f7b4084d235e327b0", func := "loop.example/g01335/laws.FnExactMeetingTime", spec := "fnExactMeetingTime", unfollowed := true, recurses := true, apart := false, narrowed := true }
def FnExactMeetingTimeUptoSaid : Prop := fnExactMeetingTimeUptoRow.holds Try.pinned (OpenSpec.upto fnExactMeetingTimeSpec)

/-- 'laws.FnExactMeetingPlace', WHERE WHAT IT READS IS OF BULK AT MOST 1048576: true; the input reads as it did. -/
def fnExactMeetingPlaceUptoRow : OpenClaim := { program := "ytfnblfjkondjfaa", sum := "e44bc130cfeaf5e36344e4052865ddb5776ddbf1871ae28f7b4084d235e327b0", func := "loop.example/g01335/laws.FnExactMeetingPlace", spec := "fnExactMeetingPlace", unfollowed := true, recurses := true, apart := false, narrowed := true }
def FnExactMeetingPlaceUptoSaid : Prop := fnExactMeetingPlaceUptoRow.holds Try.pinned (OpenSpec.upto fnExactMeetingPlaceSpec)

/-- 'laws.FnExactRingTime', WHERE WHAT IT READS IS OF BULK AT MOST 1048576: true; the input reads as it did. -/
def fnExactRingTimeUptoRow : OpenClaim := { program := "ytfnblfjkondjfaa", sum := "e44bc130cfeaf5e36344e4052865ddb5776ddbf1871ae28f7b4084d235e327b0", func := "loop.example/g01335/laws.FnExactRingTime", spec := "fnExactRingTime", unfollowed := true, recurses := true, apart := false, narrowed := true }
def FnExactRingTimeUptoSaid : Prop := fnExactRingTimeUptoRow.holds Try.pinned (OpenSpec.upto fnExactRingTimeSpec)

/-- 'laws.FnExactRingGap', WHERE WHAT IT READS IS OF BULK AT MOST 1048576: true; the input reads as it did. -/
def fnExactRingGapUptoRow : OpenClaim := { program := "ytfnblfjkondjfaa", sum := "e44bc130cfeaf5e36344e4052865ddb5776ddbf1871ae28f7b4084d235e327b0", func := "loop.example/g01335/laws.FnExactRingGap", spec := "fnExactRingGap", unfollowed := true, recurses := true, apart := false, narrowed := true }
def FnExactRingGapUptoSaid : Prop := fnExactRingGapUptoRow.holds Try.pinned (OpenSpec.upto fnExactRingGapSpec)

/-- 'laws.FnExactCountRingMeetings', WHERE WHAT IT READS IS OF BULK AT MOST 1048576: true; the input reads as it did. -/
def fnExactCountRingMeetingsUptoRow : OpenClaim := { program := "ytfnblfjkondjfaa", sum := "e44bc130cfeaf5e36344e4052865ddb5776ddbf1871ae28f7b4084d235e327b0", func := "loop.example/g01335/laws.FnExactCountRingMeetings", spec := "fnExactCountRingMeetings", apart := false, narrowed := true }
def FnExactCountRingMeetingsUptoSaid : Prop := fnExactCountRingMeetingsUptoRow.holds Try.pinned (OpenSpec.upto fnExactCountRingMeetingsSpec)

/-- 'laws.FnExactAllAtStart', WHERE WHAT IT READS IS OF BULK AT MOST 1048576: true; the input reads as it did. -/
def fnExactAllAtStartUptoRow : OpenClaim := { program := "ytfnblfjkondjfaa", sum := "e44bc130cfeaf5e36344e4052865ddb5776ddbf1871ae28f7b4084d235e327b0", func := "loop.example/g01335/laws.FnExactAllAtStart", spec := "fnExactAllAtStart", apart := false, narrowed := true }
def FnExactAllAtStartUptoSaid : Prop := fnExactAllAtStartUptoRow.holds Try.pinned (OpenSpec.upto fnExactAllAtStartSpec)

/-- 'laws.FnExactLeadersOf', WHERE WHAT IT READS IS OF BULK AT MOST 1048576: true; the input reads as it did. -/
def fnExactLeadersOfUptoRow : OpenClaim := { program := "ytfnblfjkondjfaa", sum := "e44bc130cfeaf5e36344e4052865ddb5776ddbf1871ae28f7b4084d235e327b0", func := "loop.example/g01335/laws.FnExactLeadersOf", spec := "fnExactLeadersOf", apart := false, narrowed := true }
def FnExactLeadersOfUptoSaid : Prop := fnExactLeadersOfUptoRow.holds Try.pinned (OpenSpec.upto fnExactLeadersOfSpec)

/-- 'laws.FnExactDaysWithSlips', WHERE WHAT IT READS IS OF BULK AT MOST 1048576: true; the input reads as it did. -/
def fnExactDaysWithSlipsUptoRow : OpenClaim := { program := "ytfnblfjkondjfaa", sum := "e44bc130cfeaf5e36344e4052865ddb5776ddbf1871ae28f7b4084d235e327b0", func := "loop.example/g01335/laws.FnExactDaysWithSlips", spec := "fnExactDaysWithSlips", apart := false, narrowed := true }
def FnExactDaysWithSlipsUptoSaid : Prop := fnExactDaysWithSlipsUptoRow.holds Try.pinned (OpenSpec.upto fnExactDaysWithSlipsSpec)

end Rows
end Go.Proofs.Ytfnblfjkondjfaa
