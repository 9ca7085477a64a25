/-
  No cell of these rows narrows 'for every input' (looked for: loops, veiled, ifaces, maps, wideKeys, modest, calm, conditions, laid).
  DERIVED. THE GIVEN ROWS OF THIS SEAT. 12 by the template 'for every input the law returns true; each argument reads behind the call as it read before'; 0 by the template 'total and deterministic' (their statements: YtjgicbfgbcihoaaTotals.lean).
  GIVEN WITH THE SEED: the statements are not yours to turn. If you find one false, say at which input.
  Laid BY PROGRAM, IN A SANDBOX (cutbox-rows.mjs): the forced cells as the released guide's own fill.sh prints them over the translation 9adc16c94a88b792… (all of the seat's roots in one cut). By AI agents, Wed Nov 11 2026. No macro, syntax, notation, axiom, sorry.
-/
import Derived.Test.YtjgicbfgbcihoaaChecked
import GoSem.Claim
import GoSem.ClaimJoined
import GoSem.ClaimMapViews
import Derived.JoinedTies
import Derived.KernelRfl
namespace Go.Proofs.Ytjgicbfgbcihoaa
/- THE CELL 'sum', in the pinned program and in every row, IS THE sha256 OF THE DUMP (.gsa) THAT YtjgicbfgbcihoaaProg.lean LOADS. Nothing in Lean hashes anything: it is a label: what it is worth is what the hold of that sum in a sandbox is worth. -/
noncomputable def Try.pinned : Pinned := { name := "ytjgicbfgbcihoaa", sum := "9adc16c94a88b79259c65b0a54aaf8f09986fd342c0ff50202231a31a274c8fd", checked := Try.checked }
namespace Rows
def none {H : Type} : Left H := { results := [], args := [] }

/-- 'laws.FnExactAreLegs': WHATEVER THE INPUT: true; the input reads as it did. -/
def fnExactAreLegsSpec : ChangeSpec := { name := "fnExactAreLegs", fn := fun _ => fun
  | [d] => { results := [.lit (.bool true)], args := [d] }
  | _ => none }
def fnExactAreLegsRow : OpenClaim := { program := "ytjgicbfgbcihoaa", sum := "9adc16c94a88b79259c65b0a54aaf8f09986fd342c0ff50202231a31a274c8fd", func := "loop.example/g01335/laws.FnExactAreLegs", spec := "fnExactAreLegs", unfollowed := true, recurses := true, apart := false }
def FnExactAreLegsSaid : Prop := fnExactAreLegsRow.holds Try.pinned (OpenSpec.ofChange fnExactAreLegsSpec)

/-- ITS FALSE NEIGHBOUR: 'it returns false'. Refute it at one input. -/
def fnExactAreLegsWrong : ChangeSpec := { name := "fnExactAreLegs", fn := fun _ => fun
  | [d] => { results := [.lit (.bool false)], args := [d] }
  | _ => none }
def FnExactAreLegsWrongFalsely : Prop := fnExactAreLegsRow.holds Try.pinned (OpenSpec.ofChange fnExactAreLegsWrong)

/-- 'laws.FnExactLongOfLegs': WHATEVER THE INPUT: true; the input reads as it did. -/
def fnExactLongOfLegsSpec : ChangeSpec := { name := "fnExactLongOfLegs", fn := fun _ => fun
  | [d] => { results := [.lit (.bool true)], args := [d] }
  | _ => none }
def fnExactLongOfLegsRow : OpenClaim := { program := "ytjgicbfgbcihoaa", sum := "9adc16c94a88b79259c65b0a54aaf8f09986fd342c0ff50202231a31a274c8fd", func := "loop.example/g01335/laws.FnExactLongOfLegs", spec := "fnExactLongOfLegs", unfollowed := true, recurses := true, apart := false }
def FnExactLongOfLegsSaid : Prop := fnExactLongOfLegsRow.holds Try.pinned (OpenSpec.ofChange fnExactLongOfLegsSpec)

/-- ITS FALSE NEIGHBOUR: 'it returns false'. Refute it at one input. -/
def fnExactLongOfLegsWrong : ChangeSpec := { name := "fnExactLongOfLegs", fn := fun _ => fun
  | [d] => { results := [.lit (.bool false)], args := [d] }
  | _ => none }
def FnExactLongOfLegsWrongFalsely : Prop := fnExactLongOfLegsRow.holds Try.pinned (OpenSpec.ofChange fnExactLongOfLegsWrong)

/-- 'laws.FnExactTimeOfLegs': WHATEVER THE INPUT: true; the input reads as it did. -/
def fnExactTimeOfLegsSpec : ChangeSpec := { name := "fnExactTimeOfLegs", fn := fun _ => fun
  | [d] => { results := [.lit (.bool true)], args := [d] }
  | _ => none }
def fnExactTimeOfLegsRow : OpenClaim := { program := "ytjgicbfgbcihoaa", sum := "9adc16c94a88b79259c65b0a54aaf8f09986fd342c0ff50202231a31a274c8fd", func := "loop.example/g01335/laws.FnExactTimeOfLegs", spec := "fnExactTimeOfLegs", unfollowed := true, recurses := true, apart := false }
def FnExactTimeOfLegsSaid : Prop := fnExactTimeOfLegsRow.holds Try.pinned (OpenSpec.ofChange fnExactTimeOfLegsSpec)

/-- ITS FALSE NEIGHBOUR: 'it returns false'. Refute it at one input. -/
def fnExactTimeOfLegsWrong : ChangeSpec := { name := "fnExactTimeOfLegs", fn := fun _ => fun
  | [d] => { results := [.lit (.bool false)], args := [d] }
  | _ => none }
def FnExactTimeOfLegsWrongFalsely : Prop := fnExactTimeOfLegsRow.holds Try.pinned (OpenSpec.ofChange fnExactTimeOfLegsWrong)

/-- 'laws.FnExactMeanSpeed': WHATEVER THE INPUT: true; the input reads as it did. -/
def fnExactMeanSpeedSpec : ChangeSpec := { name := "fnExactMeanSpeed", fn := fun _ => fun
  | [d] => { results := [.lit (.bool true)], args := [d] }
  | _ => none }
def fnExactMeanSpeedRow : OpenClaim := { program := "ytjgicbfgbcihoaa", sum := "9adc16c94a88b79259c65b0a54aaf8f09986fd342c0ff50202231a31a274c8fd", func := "loop.example/g01335/laws.FnExactMeanSpeed", spec := "fnExactMeanSpeed", unfollowed := true, recurses := true, apart := false }
def FnExactMeanSpeedSaid : Prop := fnExactMeanSpeedRow.holds Try.pinned (OpenSpec.ofChange fnExactMeanSpeedSpec)

/-- ITS FALSE NEIGHBOUR: 'it returns false'. Refute it at one input. -/
def fnExactMeanSpeedWrong : ChangeSpec := { name := "fnExactMeanSpeed", fn := fun _ => fun
  | [d] => { results := [.lit (.bool false)], args := [d] }
  | _ => none }
def FnExactMeanSpeedWrongFalsely : Prop := fnExactMeanSpeedRow.holds Try.pinned (OpenSpec.ofChange fnExactMeanSpeedWrong)

/-- 'laws.FnExactMeanByTimes': WHATEVER THE INPUT: true; the input reads as it did. -/
def fnExactMeanByTimesSpec : ChangeSpec := { name := "fnExactMeanByTimes", fn := fun _ => fun
  | [d] => { results := [.lit (.bool true)], args := [d] }
  | _ => none }
def fnExactMeanByTimesRow : OpenClaim := { program := "ytjgicbfgbcihoaa", sum := "9adc16c94a88b79259c65b0a54aaf8f09986fd342c0ff50202231a31a274c8fd", func := "loop.example/g01335/laws.FnExactMeanByTimes", spec := "fnExactMeanByTimes", unfollowed := true, recurses := true, apart := false }
def FnExactMeanByTimesSaid : Prop := fnExactMeanByTimesRow.holds Try.pinned (OpenSpec.ofChange fnExactMeanByTimesSpec)

/-- ITS FALSE NEIGHBOUR: 'it returns false'. Refute it at one input. -/
def fnExactMeanByTimesWrong : ChangeSpec := { name := "fnExactMeanByTimes", fn := fun _ => fun
  | [d] => { results := [.lit (.bool false)], args := [d] }
  | _ => none }
def FnExactMeanByTimesWrongFalsely : Prop := fnExactMeanByTimesRow.holds Try.pinned (OpenSpec.ofChange fnExactMeanByTimesWrong)

/-- 'laws.FnExactMeanByHalves': WHATEVER THE INPUT: true; the input reads as it did. -/
def fnExactMeanByHalvesSpec : ChangeSpec := { name := "fnExactMeanByHalves", fn := fun _ => fun
  | [d] => { results := [.lit (.bool true)], args := [d] }
  | _ => none }
def fnExactMeanByHalvesRow : OpenClaim := { program := "ytjgicbfgbcihoaa", sum := "9adc16c94a88b79259c65b0a54aaf8f09986fd342c0ff50202231a31a274c8fd", func := "loop.example/g01335/laws.FnExactMeanByHalves", spec := "fnExactMeanByHalves", unfollowed := true, recurses := true, apart := false }
def FnExactMeanByHalvesSaid : Prop := fnExactMeanByHalvesRow.holds Try.pinned (OpenSpec.ofChange fnExactMeanByHalvesSpec)

/-- ITS FALSE NEIGHBOUR: 'it returns false'. Refute it at one input. -/
def fnExactMeanByHalvesWrong : ChangeSpec := { name := "fnExactMeanByHalves", fn := fun _ => fun
  | [d] => { results := [.lit (.bool false)], args := [d] }
  | _ => none }
def FnExactMeanByHalvesWrongFalsely : Prop := fnExactMeanByHalvesRow.holds Try.pinned (OpenSpec.ofChange fnExactMeanByHalvesWrong)

/-- 'laws.FnExactPlaceOnLegs': WHATEVER THE INPUT: true; the input reads as it did. -/
def fnExactPlaceOnLegsSpec : ChangeSpec := { name := "fnExactPlaceOnLegs", fn := fun _ => fun
  | [d1, d2, d3] => { results := [.lit (.bool true)], args := [d1, d2, d3] }
  | _ => none }
def fnExactPlaceOnLegsRow : OpenClaim := { program := "ytjgicbfgbcihoaa", sum := "9adc16c94a88b79259c65b0a54aaf8f09986fd342c0ff50202231a31a274c8fd", func := "loop.example/g01335/laws.FnExactPlaceOnLegs", spec := "fnExactPlaceOnLegs", unfollowed := true, recurses := true, apart := false }
def FnExactPlaceOnLegsSaid : Prop := fnExactPlaceOnLegsRow.holds Try.pinned (OpenSpec.ofChange fnExactPlaceOnLegsSpec)

/-- ITS FALSE NEIGHBOUR: 'it returns false'. Refute it at one input. -/
def fnExactPlaceOnLegsWrong : ChangeSpec := { name := "fnExactPlaceOnLegs", fn := fun _ => fun
  | [d1, d2, d3] => { results := [.lit (.bool false)], args := [d1, d2, d3] }
  | _ => none }
def FnExactPlaceOnLegsWrongFalsely : Prop := fnExactPlaceOnLegsRow.holds Try.pinned (OpenSpec.ofChange fnExactPlaceOnLegsWrong)

/-- 'laws.FnExactLegAt': WHATEVER THE INPUT: true; the input reads as it did. -/
def fnExactLegAtSpec : ChangeSpec := { name := "fnExactLegAt", fn := fun _ => fun
  | [d1, d2, d3] => { results := [.lit (.bool true)], args := [d1, d2, d3] }
  | _ => none }
def fnExactLegAtRow : OpenClaim := { program := "ytjgicbfgbcihoaa", sum := "9adc16c94a88b79259c65b0a54aaf8f09986fd342c0ff50202231a31a274c8fd", func := "loop.example/g01335/laws.FnExactLegAt", spec := "fnExactLegAt", unfollowed := true, recurses := true, apart := false }
def FnExactLegAtSaid : Prop := fnExactLegAtRow.holds Try.pinned (OpenSpec.ofChange fnExactLegAtSpec)

/-- ITS FALSE NEIGHBOUR: 'it returns false'. Refute it at one input. -/
def fnExactLegAtWrong : ChangeSpec := { name := "fnExactLegAt", fn := fun _ => fun
  | [d1, d2, d3] => { results := [.lit (.bool false)], args := [d1, d2, d3] }
  | _ => none }
def FnExactLegAtWrongFalsely : Prop := fnExactLegAtRow.holds Try.pinned (OpenSpec.ofChange fnExactLegAtWrong)

/-- 'laws.FnExactNeededSpeed': WHATEVER THE INPUT: true; the input reads as it did. -/
def fnExactNeededSpeedSpec : ChangeSpec := { name := "fnExactNeededSpeed", fn := fun _ => fun
  | [d1, d2, d3] => { results := [.lit (.bool true)], args := [d1, d2, d3] }
  | _ => none }
def fnExactNeededSpeedRow : OpenClaim := { program := "ytjgicbfgbcihoaa", sum := "9adc16c94a88b79259c65b0a54aaf8f09986fd342c0ff50202231a31a274c8fd", func := "loop.example/g01335/laws.FnExactNeededSpeed", spec := "fnExactNeededSpeed", unfollowed := true, recurses := true, apart := false }
def FnExactNeededSpeedSaid : Prop := fnExactNeededSpeedRow.holds Try.pinned (OpenSpec.ofChange fnExactNeededSpeedSpec)

/-- ITS FALSE NEIGHBOUR: 'it returns false'. Refute it at one input. -/
def fnExactNeededSpeedWrong : ChangeSpec := { name := "fnExactNeededSpeed", fn := fun _ => fun
  | [d1, d2, d3] => { results := [.lit (.bool false)], args := [d1, d2, d3] }
  | _ => none }
def FnExactNeededSpeedWrongFalsely : Prop := fnExactNeededSpeedRow.holds Try.pinned (OpenSpec.ofChange fnExactNeededSpeedWrong)

/-- 'laws.FnExactSlowestLeg': WHATEVER THE INPUT: true; the input reads as it did. -/
def fnExactSlowestLegSpec : ChangeSpec := { name := "fnExactSlowestLeg", fn := fun _ => fun
  | [d] => { results := [.lit (.bool true)], args := [d] }
  | _ => none }
def fnExactSlowestLegRow : OpenClaim := { program := "ytjgicbfgbcihoaa", sum := "9adc16c94a88b79259c65b0a54aaf8f09986fd342c0ff50202231a31a274c8fd", func := "loop.example/g01335/laws.FnExactSlowestLeg", spec := "fnExactSlowestLeg", unfollowed := true, recurses := true, apart := false }
def FnExactSlowestLegSaid : Prop := fnExactSlowestLegRow.holds Try.pinned (OpenSpec.ofChange fnExactSlowestLegSpec)

/-- ITS FALSE NEIGHBOUR: 'it returns false'. Refute it at one input. -/
def fnExactSlowestLegWrong : ChangeSpec := { name := "fnExactSlowestLeg", fn := fun _ => fun
  | [d] => { results := [.lit (.bool false)], args := [d] }
  | _ => none }
def FnExactSlowestLegWrongFalsely : Prop := fnExactSlowestLegRow.holds Try.pinned (OpenSpec.ofChange fnExactSlowestLegWrong)

/-- 'laws.FnExactSharedBicycle': WHATEVER THE INPUT: true; the input reads as it did. -/
def fnExactSharedBicycleSpec : ChangeSpec := { name := "fnExactSharedBicycle", fn := fun _ => fun
  | [d1, d2, d3] => { results := [.lit (.bool true)], args := [d1, d2, d3] }
  | _ => none }
def fnExactSharedBicycleRow : OpenClaim := { program := "ytjgicbfgbcihoaa", sum := "9adc16c94a88b79259c65b0a54aaf8f09986fd342c0ff50202231a31a274c8fd", func := "loop.example/g01335/laws.FnExactSharedBicycle", spec := "fnExactSharedBicycle", apart := false }
def FnExactSharedBicycleSaid : Prop := fnExactSharedBicycleRow.holds Try.pinned (OpenSpec.ofChange fnExactSharedBicycleSpec)

/-- ITS FALSE NEIGHBOUR: 'it returns false'. Refute it at one input. -/
def fnExactSharedBicycleWrong : ChangeSpec := { name := "fnExactSharedBicycle", fn := fun _ => fun
  | [d1, d2, d3] => { results := [.lit (.bool false)], args := [d1, d2, d3] }
  | _ => none }
def FnExactSharedBicycleWrongFalsely : Prop := fnExactSharedBicycleRow.holds Try.pinned (OpenSpec.ofChange fnExactSharedBicycleWrong)

/-- 'laws.FnExactRideAndWalk': WHATEVER THE INPUT: true; the input reads as it did. -/
def fnExactRideAndWalkSpec : ChangeSpec := { name := "fnExactRideAndWalk", fn := fun _ => fun
  | [d1, d2, d3, d4] => { results := [.lit (.bool true)], args := [d1, d2, d3, d4] }
  | _ => none }
def fnExactRideAndWalkRow : OpenClaim := { program := "ytjgicbfgbcihoaa", sum := "9adc16c94a88b79259c65b0a54aaf8f09986fd342c0ff50202231a31a274c8fd", func := "loop.example/g01335/laws.FnExactRideAndWalk", spec := "fnExactRideAndWalk", apart := false }
def FnExactRideAndWalkSaid : Prop := fnExactRideAndWalkRow.holds Try.pinned (OpenSpec.ofChange fnExactRideAndWalkSpec)

/-- ITS FALSE NEIGHBOUR: 'it returns false'. Refute it at one input. -/
def fnExactRideAndWalkWrong : ChangeSpec := { name := "fnExactRideAndWalk", fn := fun _ => fun
  | [d1, d2, d3, d4] => { results := [.lit (.bool false)], args := [d1, d2, d3, d4] }
  | _ => none }
def FnExactRideAndWalkWrongFalsely : Prop := fnExactRideAndWalkRow.holds Try.pinned (OpenSpec.ofChange fnExactRideAndWalkWrong)

/- THE SECOND FORM. 'bulk': how many values and letters a reading holds, each counted each time it is reached (what is shared counts as often as it is met; a slice's spare places count too). A statement '..UptoSaid' is the law's where the arguments, and the package variables that the reading takes, are together of bulk at most 1048576: NARROWER than '..Said'. Prove '..Said' where nothing that the law and all that it calls make is longer than what came in: it says more and counts as full. Else prove '..UptoSaid'. A law counts once. -/
mutual
def uptoBulk {H : Type} : DataW H → Nat
  | .lit (.string bytes) => bytes.length + 1
  | .lit _ => 1
  | .nil => 1
  | .ptr d => uptoBulk d + 1
  | .slice elems spare => uptoBulkAll elems + uptoBulkAll spare + 1
  | .agg parts => uptoBulkAll parts + 1
  | .iface _ d => uptoBulk d + 1
  | .map entries => uptoBulkEntries entries + 1
  | .held _ => 1
def uptoBulkAll {H : Type} : List (DataW H) → Nat
  | [] => 0
  | d :: r => uptoBulk d + uptoBulkAll r
def uptoBulkEntries {H : Type} : List (Lit × DataW H) → Nat
  | [] => 0
  | x :: r => uptoBulkEntry x + uptoBulkEntries r
def uptoBulkEntry {H : Type} : Lit × DataW H → Nat
  | (.string bytes, d) => bytes.length + uptoBulk d + 1
  | (_, d) => uptoBulk d + 1
 end
def uptoSmall : (H : Type) → List (DataW H) → Bool := fun _ ds => decide (uptoBulkAll ds ≤ 1048576)
def OpenSpec.upto (s : _root_.Go.ChangeSpec) : _root_.Go.OpenSpec := { _root_.Go.OpenSpec.ofChange s with cond := some uptoSmall }

/-- 'laws.FnExactAreLegs', WHERE WHAT IT READS IS OF BULK AT MOST 1048576: true; the input reads as it did. -/
def fnExactAreLegsUptoRow : OpenClaim := { program := "ytjgicbfgbcihoaa", sum := "9adc16c94a88b79259c65b0a54aaf8f09986fd342c0ff50202231a31a274c8fd", func := "loop.example/g01335/laws.FnExactAreLegs", spec := "fnExactAreLegs", unfollowed := true, recurses := true, apart := false, narrowed := true }
def FnExactAreLegsUptoSaid : Prop := fnExactAreLegsUptoRow.holds Try.pinned (OpenSpec.upto fnExactAreLegsSpec)

/-- 'laws.FnExactLongOfLegs', WHERE WHAT IT READS IS OF BULK AT MOST 1048576: true; the input reads as it did. -/
def fnExactLongOfLegsUptoRow : OpenClaim := { program := "ytjgicbfgbcihoaa", sum := "9adc16c94a88b79259c65b0a54aaf8f09986fd342c0ff50202231a31a274c8fd", func := "loop.example/g01335/laws.FnExactLongOfLegs", spec := "fnExactLongOfLegs", unfollowed := true, recurses := true, apart := false, narrowed := true }
def FnExactLongOfLegsUptoSaid : Prop := fnExactLongOfLegsUptoRow.holds Try.pinned (OpenSpec.upto fnExactLongOfLegsSpec)

/-- 'laws.FnExactTimeOfLegs', WHERE WHAT IT READS IS OF BULK AT MOST 1048576: true; the input reads as it did. -/
def fnExactTimeOfLegsUptoRow : OpenClaim := { program := "ytjgicbfgbcihoaa", sum := "9adc16c94a88b79259c65b0a54aaf8f09986fd342c0ff50202231a31a274c8fd", func := "loop.example/g01335/laws.FnExactTimeOfLegs", spec := "fnExactTimeOfLegs", unfollowed := true, recurses := true, apart := false, narrowed := true }
def FnExactTimeOfLegsUptoSaid : Prop := fnExactTimeOfLegsUptoRow.holds Try.pinned (OpenSpec.upto fnExactTimeOfLegsSpec)

/-- 'laws.FnExactMeanSpeed', WHERE WHAT IT READS IS OF BULK AT MOST 1048576: true; the input reads as it did. -/
def fnExactMeanSpeedUptoRow : OpenClaim := { program := "ytjgicbfgbcihoaa", sum := "9adc16c94a88b79259c65b0a54aaf8f09986fd342c0ff50202231a31a274c8fd", func := "loop.example/g01335/laws.FnExactMeanSpeed", spec := "fnExactMeanSpeed", unfollowed := true, recurses := true, apart := false, narrowed := true }
def FnExactMeanSpeedUptoSaid : Prop := fnExactMeanSpeedUptoRow.holds Try.pinned (OpenSpec.upto fnExactMeanSpeedSpec)

/-- 'laws.FnExactMeanByTimes', WHERE WHAT IT READS IS OF BULK AT MOST 1048576: true; the input reads as it did. -/
def fnExactMeanByTimesUptoRow : OpenClaim := { program := "ytjgicbfgbcihoaa", sum := "9adc16c94a88b79259c65b0a54aaf8f09986fd342c0ff50202231a31a274c8fd", func := "loop.example/g01335/laws.FnExactMeanByTimes", spec := "fnExactMeanByTimes", unfollowed := true, recurses := true, apart := false, narrowed := true }
def FnExactMeanByTimesUptoSaid : Prop := fnExactMeanByTimesUptoRow.holds Try.pinned (OpenSpec.upto fnExactMeanByTimesSpec)

/-- 'laws.FnExactMeanByHalves', WHERE WHAT IT READS IS OF BULK AT MOST 1048576: true; the input reads as it did. -/
def fnExactMeanByHalvesUptoRow : OpenClaim := { program := "ytjgicbfgbcihoaa", sum := "9adc16c94a88b79259c65b0a54aaf8f09986fd342c0ff50202231a31a274c8fd", func := "loop.example/g01335/laws.FnExactMeanByHalves", spec := "fnExactMeanByHalves", unfollowed := true, recurses := true, apart := false, narrowed := true }
def FnExactMeanByHalvesUptoSaid : Prop := fnExactMeanByHalvesUptoRow.holds Try.pinned (OpenSpec.upto fnExactMeanByHalvesSpec)

/-- 'laws.FnExactPlaceOnLegs', WHERE WHAT IT READS IS OF BULK AT MOST 1048576: true; the input reads as it did. -/
def fnExactPlaceOnLegsUptoRow : OpenClaim := { program := "ytjgicbfgbcihoaa", sum := "9adc16c94a88b79259c65b0a54aaf8f09986fd342c0ff50202231a31a274c8fd", func := "loop.example/g01335/laws.FnExactPlaceOnLegs", spec := "fnExactPlaceOnLegs", unfollowed := true, recurses := true, apart := false, narrowed := true }
def FnExactPlaceOnLegsUptoSaid : Prop := fnExactPlaceOnLegsUptoRow.holds Try.pinned (OpenSpec.upto fnExactPlaceOnLegsSpec)

/-- 'laws.FnExactLegAt', WHERE WHAT IT READS IS OF BULK AT MOST 1048576: true; the input reads as it did. -/
def fnExactLegAtUptoRow : OpenClaim := { program := "ytjgicbfgbcihoaa", sum := "9adc16c94a88b79259c65b0a54aaf8f09986fd342c0ff50202231a31a274c8fd", func := "loop.example/g01335/laws.FnExactLegAt", spec := "fnExactLegAt", unfollowed := true, recurses := true, apart := false, narrowed := true }
def FnExactLegAtUptoSaid : Prop := fnExactLegAtUptoRow.holds Try.pinned (OpenSpec.upto fnExactLegAtSpec)

/-- 'laws.FnExactNeededSpeed', WHERE WHAT IT READS IS OF BULK AT MOST 1048576: true; the input reads as it did. -/
def fnExactNeededSpeedUptoRow : OpenClaim := { program := "ytjgicbfgbcihoaa", sum := "9adc16c94a88b79259c65b0a54aaf8f09986fd342c0ff50202231a31a274c8fd", func := "loop.example/g01335/laws.FnExactNeededSpeed", spec := "fnExactNeededSpeed", unfollowed := true, recurses := true, apart := false, narrowed := true }
def FnExactNeededSpeedUptoSaid : Prop := fnExactNeededSpeedUptoRow.holds Try.pinned (OpenSpec.upto fnExactNeededSpeedSpec)

/-- 'laws.FnExactSlowestLeg', WHERE WHAT IT READS IS OF BULK AT MOST 1048576: true; the input reads as it did. -/
def fnExactSlowestLegUptoRow : OpenClaim := { program := "ytjgicbfgbcihoaa", sum := "9adc16c94a88b79259c65b0a54aaf8f09986fd342c0ff50202231a31a274c8fd", func := "loop.example/g01335/laws.FnExactSlowestLeg", spec := "fnExactSlowestLeg", unfollowed := true, recurses := true, apart := false, narrowed := true }
def FnExactSlowestLegUptoSaid : Prop := fnExactSlowestLegUptoRow.holds Try.pinned (OpenSpec.upto fnExactSlowestLegSpec)

/-- 'laws.FnExactSharedBicycle', WHERE WHAT IT READS IS OF BULK AT MOST 1048576: true; the input reads as it did. -/
def fnExactSharedBicycleUptoRow : OpenClaim := { program := "ytjgicbfgbcihoaa", sum := "9adc16c94a88b79259c65b0a54aaf8f09986fd342c0ff50202231a31a274c8fd", func := "loop.example/g01335/laws.FnExactSharedBicycle", spec := "fnExactSharedBicycle", apart := false, narrowed := true }
def FnExactSharedBicycleUptoSaid : Prop := fnExactSharedBicycleUptoRow.holds Try.pinned (OpenSpec.upto fnExactSharedBicycleSpec)

/-- 'laws.FnExactRideAndWalk', WHERE WHAT IT READS IS OF BULK AT MOST 1048576: true; the input reads as it did. -/
def fnExactRideAndWalkUptoRow : OpenClaim := { program := "ytjgicbfgbcihoaa", sum := "9adc16c94a88b79259c65b0a54aaf8f09986fd342c0ff50202231a31a274c8fd", func := "loop.example/g01335/laws.FnExactRideAndWalk", spec := "fnExactRideAndWalk", apart := false, narrowed := true }
def FnExactRideAndWalkUptoSaid : Prop := fnExactRideAndWalkUptoRow.holds Try.pinned (OpenSpec.upto fnExactRideAndWalkSpec)

end Rows
end Go.Proofs.Ytjgicbfgbcihoaa
