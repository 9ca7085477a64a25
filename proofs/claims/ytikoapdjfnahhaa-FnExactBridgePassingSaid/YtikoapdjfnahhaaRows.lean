/-
  No cell of these rows narrows 'for every input' (looked for: loops, veiled, ifaces, maps, wideKeys, modest, calm, conditions, laid).
  DERIVED. THE GIVEN ROWS OF THIS SEAT. 12 by the template 'for every input the law returns true; each argument reads behind the call as it read before'; 0 by the template 'total and deterministic' (their statements: YtikoapdjfnahhaaTotals.lean).
  GIVEN WITH THE SEED: the statements are not yours to turn. If you find one false, say at which input.
  Laid BY PROGRAM, IN A SANDBOX (cutbox-rows.mjs): the forced cells as the released guide's own fill.sh prints them over the translation 592cb9bc910c3c77… (all of the seat's roots in one cut). By AI agents, Wed Nov 11 2026. No macro, syntax, notation, axiom, sorry.
-/
import Derived.Test.YtikoapdjfnahhaaChecked
import GoSem.Claim
import GoSem.ClaimJoined
import GoSem.ClaimMapViews
import Derived.JoinedTies
import Derived.KernelRfl
namespace Go.Proofs.Ytikoapdjfnahhaa
/- THE CELL 'sum', in the pinned program and in every row, IS THE sha256 OF THE DUMP (.gsa) THAT YtikoapdjfnahhaaProg.lean LOADS. Nothing in Lean hashes anything: it is a label: what it is worth is what the hold of that sum in a sandbox is worth. -/
noncomputable def Try.pinned : Pinned := { name := "ytikoapdjfnahhaa", sum := "592cb9bc910c3c776c4221cbf856491a66f3a88847152ee496a9c84056d7c758", checked := Try.checked }
namespace Rows
def none {H : Type} : Left H := { results := [], args := [] }

/-- 'laws.FnExactIsTrain': WHATEVER THE INPUT: true; the input reads as it did. -/
def fnExactIsTrainSpec : ChangeSpec := { name := "fnExactIsTrain", fn := fun _ => fun
  | [d] => { results := [.lit (.bool true)], args := [d] }
  | _ => none }
def fnExactIsTrainRow : OpenClaim := { program := "ytikoapdjfnahhaa", sum := "592cb9bc910c3c776c4221cbf856491a66f3a88847152ee496a9c84056d7c758", func := "loop.example/g01335/laws.FnExactIsTrain", spec := "fnExactIsTrain", apart := false }
def FnExactIsTrainSaid : Prop := fnExactIsTrainRow.holds Try.pinned (OpenSpec.ofChange fnExactIsTrainSpec)

/-- ITS FALSE NEIGHBOUR: 'it returns false'. Refute it at one input. -/
def fnExactIsTrainWrong : ChangeSpec := { name := "fnExactIsTrain", fn := fun _ => fun
  | [d] => { results := [.lit (.bool false)], args := [d] }
  | _ => none }
def FnExactIsTrainWrongFalsely : Prop := fnExactIsTrainRow.holds Try.pinned (OpenSpec.ofChange fnExactIsTrainWrong)

/-- 'laws.FnExactPolePassing': WHATEVER THE INPUT: true; the input reads as it did. -/
def fnExactPolePassingSpec : ChangeSpec := { name := "fnExactPolePassing", fn := fun _ => fun
  | [d] => { results := [.lit (.bool true)], args := [d] }
  | _ => none }
def fnExactPolePassingRow : OpenClaim := { program := "ytikoapdjfnahhaa", sum := "592cb9bc910c3c776c4221cbf856491a66f3a88847152ee496a9c84056d7c758", func := "loop.example/g01335/laws.FnExactPolePassing", spec := "fnExactPolePassing", apart := false }
def FnExactPolePassingSaid : Prop := fnExactPolePassingRow.holds Try.pinned (OpenSpec.ofChange fnExactPolePassingSpec)

/-- ITS FALSE NEIGHBOUR: 'it returns false'. Refute it at one input. -/
def fnExactPolePassingWrong : ChangeSpec := { name := "fnExactPolePassing", fn := fun _ => fun
  | [d] => { results := [.lit (.bool false)], args := [d] }
  | _ => none }
def FnExactPolePassingWrongFalsely : Prop := fnExactPolePassingRow.holds Try.pinned (OpenSpec.ofChange fnExactPolePassingWrong)

/-- 'laws.FnExactBridgePassing': WHATEVER THE INPUT: true; the input reads as it did. -/
def fnExactBridgePassingSpec : ChangeSpec := { name := "fnExactBridgePassing", fn := fun _ => fun
  | [d1, d2] => { results := [.lit (.bool true)], args := [d1, d2] }
  | _ => none }
def fnExactBridgePassingRow : OpenClaim := { program := "ytikoapdjfnahhaa", sum := "592cb9bc910c3c776c4221cbf856491a66f3a88847152ee496a9c84056d7c758", func := "loop.example/g01335/laws.FnExactBridgePassing", spec := "fnExactBridgePassing", apart := false }
def FnExactBridgePassingSaid : Prop := fnExactBridgePassingRow.holds Try.pinned (OpenSpec.ofChange fnExactBridgePassingSpec)

/-- ITS FALSE NEIGHBOUR: 'it returns false'. Refute it at one input. -/
def fnExactBridgePassingWrong : ChangeSpec := { name := "fnExactBridgePassing", fn := fun _ => fun
  | [d1, d2] => { results := [.lit (.bool false)], args := [d1, d2] }
  | _ => none }
def FnExactBridgePassingWrongFalsely : Prop := fnExactBridgePassingRow.holds Try.pinned (OpenSpec.ofChange fnExactBridgePassingWrong)

/-- 'laws.FnExactInsideTunnel': WHATEVER THE INPUT: true; the input reads as it did. -/
def fnExactInsideTunnelSpec : ChangeSpec := { name := "fnExactInsideTunnel", fn := fun _ => fun
  | [d1, d2] => { results := [.lit (.bool true)], args := [d1, d2] }
  | _ => none }
def fnExactInsideTunnelRow : OpenClaim := { program := "ytikoapdjfnahhaa", sum := "592cb9bc910c3c776c4221cbf856491a66f3a88847152ee496a9c84056d7c758", func := "loop.example/g01335/laws.FnExactInsideTunnel", spec := "fnExactInsideTunnel", apart := false }
def FnExactInsideTunnelSaid : Prop := fnExactInsideTunnelRow.holds Try.pinned (OpenSpec.ofChange fnExactInsideTunnelSpec)

/-- ITS FALSE NEIGHBOUR: 'it returns false'. Refute it at one input. -/
def fnExactInsideTunnelWrong : ChangeSpec := { name := "fnExactInsideTunnel", fn := fun _ => fun
  | [d1, d2] => { results := [.lit (.bool false)], args := [d1, d2] }
  | _ => none }
def FnExactInsideTunnelWrongFalsely : Prop := fnExactInsideTunnelRow.holds Try.pinned (OpenSpec.ofChange fnExactInsideTunnelWrong)

/-- 'laws.FnExactPassEachOther': WHATEVER THE INPUT: true; the input reads as it did. -/
def fnExactPassEachOtherSpec : ChangeSpec := { name := "fnExactPassEachOther", fn := fun _ => fun
  | [d1, d2] => { results := [.lit (.bool true)], args := [d1, d2] }
  | _ => none }
def fnExactPassEachOtherRow : OpenClaim := { program := "ytikoapdjfnahhaa", sum := "592cb9bc910c3c776c4221cbf856491a66f3a88847152ee496a9c84056d7c758", func := "loop.example/g01335/laws.FnExactPassEachOther", spec := "fnExactPassEachOther", apart := false }
def FnExactPassEachOtherSaid : Prop := fnExactPassEachOtherRow.holds Try.pinned (OpenSpec.ofChange fnExactPassEachOtherSpec)

/-- ITS FALSE NEIGHBOUR: 'it returns false'. Refute it at one input. -/
def fnExactPassEachOtherWrong : ChangeSpec := { name := "fnExactPassEachOther", fn := fun _ => fun
  | [d1, d2] => { results := [.lit (.bool false)], args := [d1, d2] }
  | _ => none }
def FnExactPassEachOtherWrongFalsely : Prop := fnExactPassEachOtherRow.holds Try.pinned (OpenSpec.ofChange fnExactPassEachOtherWrong)

/-- 'laws.FnExactPassOvertaking': WHATEVER THE INPUT: true; the input reads as it did. -/
def fnExactPassOvertakingSpec : ChangeSpec := { name := "fnExactPassOvertaking", fn := fun _ => fun
  | [d1, d2] => { results := [.lit (.bool true)], args := [d1, d2] }
  | _ => none }
def fnExactPassOvertakingRow : OpenClaim := { program := "ytikoapdjfnahhaa", sum := "592cb9bc910c3c776c4221cbf856491a66f3a88847152ee496a9c84056d7c758", func := "loop.example/g01335/laws.FnExactPassOvertaking", spec := "fnExactPassOvertaking", apart := false }
def FnExactPassOvertakingSaid : Prop := fnExactPassOvertakingRow.holds Try.pinned (OpenSpec.ofChange fnExactPassOvertakingSpec)

/-- ITS FALSE NEIGHBOUR: 'it returns false'. Refute it at one input. -/
def fnExactPassOvertakingWrong : ChangeSpec := { name := "fnExactPassOvertaking", fn := fun _ => fun
  | [d1, d2] => { results := [.lit (.bool false)], args := [d1, d2] }
  | _ => none }
def FnExactPassOvertakingWrongFalsely : Prop := fnExactPassOvertakingRow.holds Try.pinned (OpenSpec.ofChange fnExactPassOvertakingWrong)

/-- 'laws.FnExactSeenFromTrain': WHATEVER THE INPUT: true; the input reads as it did. -/
def fnExactSeenFromTrainSpec : ChangeSpec := { name := "fnExactSeenFromTrain", fn := fun _ => fun
  | [d1, d2, d3] => { results := [.lit (.bool true)], args := [d1, d2, d3] }
  | _ => none }
def fnExactSeenFromTrainRow : OpenClaim := { program := "ytikoapdjfnahhaa", sum := "592cb9bc910c3c776c4221cbf856491a66f3a88847152ee496a9c84056d7c758", func := "loop.example/g01335/laws.FnExactSeenFromTrain", spec := "fnExactSeenFromTrain", apart := false }
def FnExactSeenFromTrainSaid : Prop := fnExactSeenFromTrainRow.holds Try.pinned (OpenSpec.ofChange fnExactSeenFromTrainSpec)

/-- ITS FALSE NEIGHBOUR: 'it returns false'. Refute it at one input. -/
def fnExactSeenFromTrainWrong : ChangeSpec := { name := "fnExactSeenFromTrain", fn := fun _ => fun
  | [d1, d2, d3] => { results := [.lit (.bool false)], args := [d1, d2, d3] }
  | _ => none }
def FnExactSeenFromTrainWrongFalsely : Prop := fnExactSeenFromTrainRow.holds Try.pinned (OpenSpec.ofChange fnExactSeenFromTrainWrong)

/-- 'laws.FnExactPassWalker': WHATEVER THE INPUT: true; the input reads as it did. -/
def fnExactPassWalkerSpec : ChangeSpec := { name := "fnExactPassWalker", fn := fun _ => fun
  | [d1, d2, d3] => { results := [.lit (.bool true)], args := [d1, d2, d3] }
  | _ => none }
def fnExactPassWalkerRow : OpenClaim := { program := "ytikoapdjfnahhaa", sum := "592cb9bc910c3c776c4221cbf856491a66f3a88847152ee496a9c84056d7c758", func := "loop.example/g01335/laws.FnExactPassWalker", spec := "fnExactPassWalker", apart := false }
def FnExactPassWalkerSaid : Prop := fnExactPassWalkerRow.holds Try.pinned (OpenSpec.ofChange fnExactPassWalkerSpec)

/-- ITS FALSE NEIGHBOUR: 'it returns false'. Refute it at one input. -/
def fnExactPassWalkerWrong : ChangeSpec := { name := "fnExactPassWalker", fn := fun _ => fun
  | [d1, d2, d3] => { results := [.lit (.bool false)], args := [d1, d2, d3] }
  | _ => none }
def FnExactPassWalkerWrongFalsely : Prop := fnExactPassWalkerRow.holds Try.pinned (OpenSpec.ofChange fnExactPassWalkerWrong)

/-- 'laws.FnExactMeetAfter': WHATEVER THE INPUT: true; the input reads as it did. -/
def fnExactMeetAfterSpec : ChangeSpec := { name := "fnExactMeetAfter", fn := fun _ => fun
  | [d1, d2, d3] => { results := [.lit (.bool true)], args := [d1, d2, d3] }
  | _ => none }
def fnExactMeetAfterRow : OpenClaim := { program := "ytikoapdjfnahhaa", sum := "592cb9bc910c3c776c4221cbf856491a66f3a88847152ee496a9c84056d7c758", func := "loop.example/g01335/laws.FnExactMeetAfter", spec := "fnExactMeetAfter", apart := false }
def FnExactMeetAfterSaid : Prop := fnExactMeetAfterRow.holds Try.pinned (OpenSpec.ofChange fnExactMeetAfterSpec)

/-- ITS FALSE NEIGHBOUR: 'it returns false'. Refute it at one input. -/
def fnExactMeetAfterWrong : ChangeSpec := { name := "fnExactMeetAfter", fn := fun _ => fun
  | [d1, d2, d3] => { results := [.lit (.bool false)], args := [d1, d2, d3] }
  | _ => none }
def FnExactMeetAfterWrongFalsely : Prop := fnExactMeetAfterRow.holds Try.pinned (OpenSpec.ofChange fnExactMeetAfterWrong)

/-- 'laws.FnExactOvertakeAfter': WHATEVER THE INPUT: true; the input reads as it did. -/
def fnExactOvertakeAfterSpec : ChangeSpec := { name := "fnExactOvertakeAfter", fn := fun _ => fun
  | [d1, d2, d3] => { results := [.lit (.bool true)], args := [d1, d2, d3] }
  | _ => none }
def fnExactOvertakeAfterRow : OpenClaim := { program := "ytikoapdjfnahhaa", sum := "592cb9bc910c3c776c4221cbf856491a66f3a88847152ee496a9c84056d7c758", func := "loop.example/g01335/laws.FnExactOvertakeAfter", spec := "fnExactOvertakeAfter", apart := false }
def FnExactOvertakeAfterSaid : Prop := fnExactOvertakeAfterRow.holds Try.pinned (OpenSpec.ofChange fnExactOvertakeAfterSpec)

/-- ITS FALSE NEIGHBOUR: 'it returns false'. Refute it at one input. -/
def fnExactOvertakeAfterWrong : ChangeSpec := { name := "fnExactOvertakeAfter", fn := fun _ => fun
  | [d1, d2, d3] => { results := [.lit (.bool false)], args := [d1, d2, d3] }
  | _ => none }
def FnExactOvertakeAfterWrongFalsely : Prop := fnExactOvertakeAfterRow.holds Try.pinned (OpenSpec.ofChange fnExactOvertakeAfterWrong)

/-- 'laws.FnExactTrainFromTimes': WHATEVER THE INPUT: true; the input reads as it did. -/
def fnExactTrainFromTimesSpec : ChangeSpec := { name := "fnExactTrainFromTimes", fn := fun _ => fun
  | [d1, d2, d3] => { results := [.lit (.bool true)], args := [d1, d2, d3] }
  | _ => none }
def fnExactTrainFromTimesRow : OpenClaim := { program := "ytikoapdjfnahhaa", sum := "592cb9bc910c3c776c4221cbf856491a66f3a88847152ee496a9c84056d7c758", func := "loop.example/g01335/laws.FnExactTrainFromTimes", spec := "fnExactTrainFromTimes", apart := false }
def FnExactTrainFromTimesSaid : Prop := fnExactTrainFromTimesRow.holds Try.pinned (OpenSpec.ofChange fnExactTrainFromTimesSpec)

/-- ITS FALSE NEIGHBOUR: 'it returns false'. Refute it at one input. -/
def fnExactTrainFromTimesWrong : ChangeSpec := { name := "fnExactTrainFromTimes", fn := fun _ => fun
  | [d1, d2, d3] => { results := [.lit (.bool false)], args := [d1, d2, d3] }
  | _ => none }
def FnExactTrainFromTimesWrongFalsely : Prop := fnExactTrainFromTimesRow.holds Try.pinned (OpenSpec.ofChange fnExactTrainFromTimesWrong)

/-- 'laws.FnExactCountTrainsMet': WHATEVER THE INPUT: true; the input reads as it did. -/
def fnExactCountTrainsMetSpec : ChangeSpec := { name := "fnExactCountTrainsMet", fn := fun _ => fun
  | [d1, d2, d3] => { results := [.lit (.bool true)], args := [d1, d2, d3] }
  | _ => none }
def fnExactCountTrainsMetRow : OpenClaim := { program := "ytikoapdjfnahhaa", sum := "592cb9bc910c3c776c4221cbf856491a66f3a88847152ee496a9c84056d7c758", func := "loop.example/g01335/laws.FnExactCountTrainsMet", spec := "fnExactCountTrainsMet", apart := false }
def FnExactCountTrainsMetSaid : Prop := fnExactCountTrainsMetRow.holds Try.pinned (OpenSpec.ofChange fnExactCountTrainsMetSpec)

/-- ITS FALSE NEIGHBOUR: 'it returns false'. Refute it at one input. -/
def fnExactCountTrainsMetWrong : ChangeSpec := { name := "fnExactCountTrainsMet", fn := fun _ => fun
  | [d1, d2, d3] => { results := [.lit (.bool false)], args := [d1, d2, d3] }
  | _ => none }
def FnExactCountTrainsMetWrongFalsely : Prop := fnExactCountTrainsMetRow.holds Try.pinned (OpenSpec.ofChange fnExactCountTrainsMetWrong)

/- THE SECOND FORM. 'bulk': how many values and letters a reading holds, each counted each time it is reached (what is shared counts as often as it is met; a slice's spare places count too). A statement '..UptoSaid' is the law's where the arguments, and the package variables that the reading takes, are together of bulk at most 1048576: NARROWER than '..Said'. Prove '..Said' where nothing that the law and all that it calls make is longer than what came in: it says more and counts as full. Else prove '..UptoSaid'. A law counts once. -/
mutual
def uptoBulk {H : Type} : DataW H → Nat
  | .lit (.string bytes) => bytes.length + 1
  | .lit _ => 1
  | .nil => 1
  | .ptr d => uptoBulk d + 1
  | .slice elems spare => uptoBulkAll elems + uptoBulkAll spare + 1
  | .agg parts => uptoBulkAll parts + 1
  | .iface _ d => uptoBulk d + 1
  | .map entries => uptoBulkEntries entries + 1
  | .held _ => 1
def uptoBulkAll {H : Type} : List (DataW H) → Nat
  | [] => 0
  | d :: r => uptoBulk d + uptoBulkAll r
def uptoBulkEntries {H : Type} : List (Lit × DataW H) → Nat
  | [] => 0
  | x :: r => uptoBulkEntry x + uptoBulkEntries r
def uptoBulkEntry {H : Type} : Lit × DataW H → Nat
  | (.string bytes, d) => bytes.length + uptoBulk d + 1
  | (_, d) => uptoBulk d + 1
 end
def uptoSmall : (H : Type) → List (DataW H) → Bool := fun _ ds => decide (uptoBulkAll ds ≤ 1048576)
def OpenSpec.upto (s : _root_.Go.ChangeSpec) : _root_.Go.OpenSpec := { _root_.Go.OpenSpec.ofChange s with cond := some uptoSmall }

/-- 'laws.FnExactIsTrain', WHERE WHAT IT READS IS OF BULK AT MOST 1048576: true; the input reads as it did. -/
def fnExactIsTrainUptoRow : OpenClaim := { program := "ytikoapdjfnahhaa", sum := "592cb9bc910c3c776c4221cbf856491a66f3a88847152ee496a9c84056d7c758", func := "loop.example/g01335/laws.FnExactIsTrain", spec := "fnExactIsTrain", apart := false, narrowed := true }
def FnExactIsTrainUptoSaid : Prop := fnExactIsTrainUptoRow.holds Try.pinned (OpenSpec.upto fnExactIsTrainSpec)

/-- 'laws.FnExactPolePassing', WHERE WHAT IT READS IS OF BULK AT MOST 1048576: true; the input reads as it did. -/
def fnExactPolePassingUptoRow : OpenClaim := { program := "ytikoapdjfnahhaa", sum := "592cb9bc910c3c776c4221cbf856491a66f3a88847152ee496a9c84056d7c758", func := "loop.example/g01335/laws.FnExactPolePassing", spec := "fnExactPolePassing", apart := false, narrowed := true }
def FnExactPolePassingUptoSaid : Prop := fnExactPolePassingUptoRow.holds Try.pinned (OpenSpec.upto fnExactPolePassingSpec)

/-- 'laws.FnExactBridgePassing', WHERE WHAT IT READS IS OF BULK AT MOST 1048576: true; the input reads as it did. -/
def fnExactBridgePassingUptoRow : OpenClaim := { program := "ytikoapdjfnahhaa", sum := "592cb9bc910c3c776c4221cbf856491a66f3a88847152ee496a9c84056d7c758", func := "loop.example/g01335/laws.FnExactBridgePassing", spec := "fnExactBridgePassing", apart := false, narrowed := true }
def FnExactBridgePassingUptoSaid : Prop := fnExactBridgePassingUptoRow.holds Try.pinned (OpenSpec.upto fnExactBridgePassingSpec)

/-- 'laws.FnExactInsideTunnel', WHERE WHAT IT READS IS OF BULK AT MOST 1048576: true; the input reads as it did. -/
def fnExactInsideTunnelUptoRow : OpenClaim := { program := "ytikoapdjfnahhaa", sum := "592cb9bc910c3c776c4221cbf856491a66f3a88847152ee496a9c84056d7c758", func := "loop.example/g01335/laws.FnExactInsideTunnel", spec := "fnExactInsideTunnel", apart := false, narrowed := true }
def FnExactInsideTunnelUptoSaid : Prop := fnExactInsideTunnelUptoRow.holds Try.pinned (OpenSpec.upto fnExactInsideTunnelSpec)

/-- 'laws.FnExactPassEachOther', WHERE WHAT IT READS IS OF BULK AT MOST 1048576: true; the input reads as it did. -/
def fnExactPassEachOtherUptoRow : OpenClaim := { program := "ytikoapdjfnahhaa", sum := "592cb9bc910c3c776c4221cbf856491a66f3a88847152ee496a9c84056d7c758", func := "loop.example/g01335/laws.FnExactPassEachOther", spec := "fnExactPassEachOther", apart := false, narrowed := true }
def FnExactPassEachOtherUptoSaid : Prop := fnExactPassEachOtherUptoRow.holds Try.pinned (OpenSpec.upto fnExactPassEachOtherSpec)

/-- 'laws.FnExactPassOvertaking', WHERE WHAT IT READS IS OF BULK AT MOST 1048576: true; the input reads as it did. -/
def fnExactPassOvertakingUptoRow : OpenClaim := { program := "ytikoapdjfnahhaa", sum := "592cb9bc910c3c776c4221cbf856491a66f3a88847152ee496a9c84056d7c758", func := "loop.example/g01335/laws.FnExactPassOvertaking", spec := "fnExactPassOvertaking", apart := false, narrowed := true }
def FnExactPassOvertakingUptoSaid : Prop := fnExactPassOvertakingUptoRow.holds Try.pinned (OpenSpec.upto fnExactPassOvertakingSpec)

/-- 'laws.FnExactSeenFromTrain', WHERE WHAT IT READS IS OF BULK AT MOST 1048576: true; the input reads as it did. -/
def fnExactSeenFromTrainUptoRow : OpenClaim := { program := "ytikoapdjfnahhaa", sum := "592cb9bc910c3c776c4221cbf856491a66f3a88847152ee496a9c84056d7c758", func := "loop.example/g01335/laws.FnExactSeenFromTrain", spec := "fnExactSeenFromTrain", apart := false, narrowed := true }
def FnExactSeenFromTrainUptoSaid : Prop := fnExactSeenFromTrainUptoRow.holds Try.pinned (OpenSpec.upto fnExactSeenFromTrainSpec)

/-- 'laws.FnExactPassWalker', WHERE WHAT IT READS IS OF BULK AT MOST 1048576: true; the input reads as it did. -/
def fnExactPassWalkerUptoRow : OpenClaim := { program := "ytikoapdjfnahhaa", sum := "592cb9bc910c3c776c4221cbf856491a66f3a88847152ee496a9c84056d7c758", func := "loop.example/g01335/laws.FnExactPassWalker", spec := "fnExactPassWalker", apart := false, narrowed := true }
def FnExactPassWalkerUptoSaid : Prop := fnExactPassWalkerUptoRow.holds Try.pinned (OpenSpec.upto fnExactPassWalkerSpec)

/-- 'laws.FnExactMeetAfter', WHERE WHAT IT READS IS OF BULK AT MOST 1048576: true; the input reads as it did. -/
def fnExactMeetAfterUptoRow : OpenClaim := { program := "ytikoapdjfnahhaa", sum := "592cb9bc910c3c776c4221cbf856491a66f3a88847152ee496a9c84056d7c758", func := "loop.example/g01335/laws.FnExactMeetAfter", spec := "fnExactMeetAfter", apart := false, narrowed := true }
def FnExactMeetAfterUptoSaid : Prop := fnExactMeetAfterUptoRow.holds Try.pinned (OpenSpec.upto fnExactMeetAfterSpec)

/-- 'laws.FnExactOvertakeAfter', WHERE WHAT IT READS IS OF BULK AT MOST 1048576: true; the input reads as it did. -/
def fnExactOvertakeAfterUptoRow : OpenClaim := { program := "ytikoapdjfnahhaa", sum := "592cb9bc910c3c776c4221cbf856491a66f3a88847152ee496a9c84056d7c758", func := "loop.example/g01335/laws.FnExactOvertakeAfter", spec := "fnExactOvertakeAfter", apart := false, narrowed := true }
def FnExactOvertakeAfterUptoSaid : Prop := fnExactOvertakeAfterUptoRow.holds Try.pinned (OpenSpec.upto fnExactOvertakeAfterSpec)

/-- 'laws.FnExactTrainFromTimes', WHERE WHAT IT READS IS OF BULK AT MOST 1048576: true; the input reads as it did. -/
def fnExactTrainFromTimesUptoRow : OpenClaim := { program := "ytikoapdjfnahhaa", sum := "592cb9bc910c3c776c4221cbf856491a66f3a88847152ee496a9c84056d7c758", func := "loop.example/g01335/laws.FnExactTrainFromTimes", spec := "fnExactTrainFromTimes", apart := false, narrowed := true }
def FnExactTrainFromTimesUptoSaid : Prop := fnExactTrainFromTimesUptoRow.holds Try.pinned (OpenSpec.upto fnExactTrainFromTimesSpec)

/-- 'laws.FnExactCountTrainsMet', WHERE WHAT IT READS IS OF BULK AT MOST 1048576: true; the input reads as it did. -/
def fnExactCountTrainsMetUptoRow : OpenClaim := { program := "ytikoapdjfnahhaa", sum := "592cb9bc910c3c776c4221cbf856491a66f3a88847152ee496a9c84056d7c758", func := "loop.example/g01335/laws.FnExactCountTrainsMet", spec := "fnExactCountTrainsMet", apart := false, narrowed := true }
def FnExactCountTrainsMetUptoSaid : Prop := fnExactCountTrainsMetUptoRow.holds Try.pinned (OpenSpec.upto fnExactCountTrainsMetSpec)

end Rows
end Go.Proofs.Ytikoapdjfnahhaa
