/-
  No cell of these rows narrows 'for every input' (looked for: loops, veiled, ifaces, maps, wideKeys, modest, calm, conditions, laid).
  DERIVED. THE GIVEN ROWS OF THIS SEAT. 10 by the template 'for every input the law returns true; each argument reads behind the call as it read before'; 0 by the template 'total and deterministic' (their statements: YtchpdmcfnpcfeaaTotals.lean).
  GIVEN WITH THE SEED: the statements are not yours to turn. If you find one false, say at which input.
  Laid BY PROGRAM, IN A SANDBOX (cutbox-rows.mjs): the forced cells as the released guide's own fill.sh prints them over the translation 86191e0d5d1a2b51… (all of the seat's roots in one cut). By AI agents, Wed Nov 11 2026. No macro, syntax, notation, axiom, sorry.
-/
import Derived.Test.YtchpdmcfnpcfeaaChecked
import GoSem.Claim
import GoSem.ClaimJoined
import GoSem.ClaimMapViews
import Derived.JoinedTies
import Derived.KernelRfl
namespace Go.Proofs.Ytchpdmcfnpcfeaa
/- THE CELL 'sum', in the pinned program and in every row, IS THE sha256 OF THE DUMP (.gsa) THAT YtchpdmcfnpcfeaaProg.lean LOADS. Nothing in Lean hashes anything: it is a label: what it is worth is what the hold of that sum in a sandbox is worth. -/
noncomputable def Try.pinned : Pinned := { name := "ytchpdmcfnpcfeaa", sum := "86191e0d5d1a2b5161ecfccc3f3f2604f07343a56ab75ce4c1f03746ffd10d5a", checked := Try.checked }
namespace Rows
def none {H : Type} : Left H := { results := [], args := [] }

/-- 'laws.FnExactIsChase': WHATEVER THE INPUT: true; the input reads as it did. -/
def fnExactIsChaseSpec : ChangeSpec := { name := "fnExactIsChase", fn := fun _ => fun
  | [d] => { results := [.lit (.bool true)], args := [d] }
  | _ => none }
def fnExactIsChaseRow : OpenClaim := { program := "ytchpdmcfnpcfeaa", sum := "86191e0d5d1a2b5161ecfccc3f3f2604f07343a56ab75ce4c1f03746ffd10d5a", func := "loop.example/g01335/laws.FnExactIsChase", spec := "fnExactIsChase", apart := false }
def FnExactIsChaseSaid : Prop := fnExactIsChaseRow.holds Try.pinned (OpenSpec.ofChange fnExactIsChaseSpec)

/-- ITS FALSE NEIGHBOUR: 'it returns false'. Refute it at one input. -/
def fnExactIsChaseWrong : ChangeSpec := { name := "fnExactIsChase", fn := fun _ => fun
  | [d] => { results := [.lit (.bool false)], args := [d] }
  | _ => none }
def FnExactIsChaseWrongFalsely : Prop := fnExactIsChaseRow.holds Try.pinned (OpenSpec.ofChange fnExactIsChaseWrong)

/-- 'laws.FnExactTimeToMeet': WHATEVER THE INPUT: true; the input reads as it did. -/
def fnExactTimeToMeetSpec : ChangeSpec := { name := "fnExactTimeToMeet", fn := fun _ => fun
  | [d] => { results := [.lit (.bool true)], args := [d] }
  | _ => none }
def fnExactTimeToMeetRow : OpenClaim := { program := "ytchpdmcfnpcfeaa", sum := "86191e0d5d1a2b5161ecfccc3f3f2604f07343a56ab75ce4c1f03746ffd10d5a", func := "loop.example/g01335/laws.FnExactTimeToMeet", spec := "fnExactTimeToMeet", apart := false }
def FnExactTimeToMeetSaid : Prop := fnExactTimeToMeetRow.holds Try.pinned (OpenSpec.ofChange fnExactTimeToMeetSpec)

/-- ITS FALSE NEIGHBOUR: 'it returns false'. Refute it at one input. -/
def fnExactTimeToMeetWrong : ChangeSpec := { name := "fnExactTimeToMeet", fn := fun _ => fun
  | [d] => { results := [.lit (.bool false)], args := [d] }
  | _ => none }
def FnExactTimeToMeetWrongFalsely : Prop := fnExactTimeToMeetRow.holds Try.pinned (OpenSpec.ofChange fnExactTimeToMeetWrong)

/-- 'laws.FnExactDogDistance': WHATEVER THE INPUT: true; the input reads as it did. -/
def fnExactDogDistanceSpec : ChangeSpec := { name := "fnExactDogDistance", fn := fun _ => fun
  | [d] => { results := [.lit (.bool true)], args := [d] }
  | _ => none }
def fnExactDogDistanceRow : OpenClaim := { program := "ytchpdmcfnpcfeaa", sum := "86191e0d5d1a2b5161ecfccc3f3f2604f07343a56ab75ce4c1f03746ffd10d5a", func := "loop.example/g01335/laws.FnExactDogDistance", spec := "fnExactDogDistance", apart := false }
def FnExactDogDistanceSaid : Prop := fnExactDogDistanceRow.holds Try.pinned (OpenSpec.ofChange fnExactDogDistanceSpec)

/-- ITS FALSE NEIGHBOUR: 'it returns false'. Refute it at one input. -/
def fnExactDogDistanceWrong : ChangeSpec := { name := "fnExactDogDistance", fn := fun _ => fun
  | [d] => { results := [.lit (.bool false)], args := [d] }
  | _ => none }
def FnExactDogDistanceWrongFalsely : Prop := fnExactDogDistanceRow.holds Try.pinned (OpenSpec.ofChange fnExactDogDistanceWrong)

/-- 'laws.FnExactDistanceOf': WHATEVER THE INPUT: true; the input reads as it did. -/
def fnExactDistanceOfSpec : ChangeSpec := { name := "fnExactDistanceOf", fn := fun _ => fun
  | [d] => { results := [.lit (.bool true)], args := [d] }
  | _ => none }
def fnExactDistanceOfRow : OpenClaim := { program := "ytchpdmcfnpcfeaa", sum := "86191e0d5d1a2b5161ecfccc3f3f2604f07343a56ab75ce4c1f03746ffd10d5a", func := "loop.example/g01335/laws.FnExactDistanceOf", spec := "fnExactDistanceOf", apart := false }
def FnExactDistanceOfSaid : Prop := fnExactDistanceOfRow.holds Try.pinned (OpenSpec.ofChange fnExactDistanceOfSpec)

/-- ITS FALSE NEIGHBOUR: 'it returns false'. Refute it at one input. -/
def fnExactDistanceOfWrong : ChangeSpec := { name := "fnExactDistanceOf", fn := fun _ => fun
  | [d] => { results := [.lit (.bool false)], args := [d] }
  | _ => none }
def FnExactDistanceOfWrongFalsely : Prop := fnExactDistanceOfRow.holds Try.pinned (OpenSpec.ofChange fnExactDistanceOfWrong)

/-- 'laws.FnExactRatioOfTurns': WHATEVER THE INPUT: true; the input reads as it did. -/
def fnExactRatioOfTurnsSpec : ChangeSpec := { name := "fnExactRatioOfTurns", fn := fun _ => fun
  | [d] => { results := [.lit (.bool true)], args := [d] }
  | _ => none }
def fnExactRatioOfTurnsRow : OpenClaim := { program := "ytchpdmcfnpcfeaa", sum := "86191e0d5d1a2b5161ecfccc3f3f2604f07343a56ab75ce4c1f03746ffd10d5a", func := "loop.example/g01335/laws.FnExactRatioOfTurns", spec := "fnExactRatioOfTurns", apart := false }
def FnExactRatioOfTurnsSaid : Prop := fnExactRatioOfTurnsRow.holds Try.pinned (OpenSpec.ofChange fnExactRatioOfTurnsSpec)

/-- ITS FALSE NEIGHBOUR: 'it returns false'. Refute it at one input. -/
def fnExactRatioOfTurnsWrong : ChangeSpec := { name := "fnExactRatioOfTurns", fn := fun _ => fun
  | [d] => { results := [.lit (.bool false)], args := [d] }
  | _ => none }
def FnExactRatioOfTurnsWrongFalsely : Prop := fnExactRatioOfTurnsRow.holds Try.pinned (OpenSpec.ofChange fnExactRatioOfTurnsWrong)

/-- 'laws.FnExactTurnChase': WHATEVER THE INPUT: true; the input reads as it did. -/
def fnExactTurnChaseSpec : ChangeSpec := { name := "fnExactTurnChase", fn := fun _ => fun
  | [d] => { results := [.lit (.bool true)], args := [d] }
  | _ => none }
def fnExactTurnChaseRow : OpenClaim := { program := "ytchpdmcfnpcfeaa", sum := "86191e0d5d1a2b5161ecfccc3f3f2604f07343a56ab75ce4c1f03746ffd10d5a", func := "loop.example/g01335/laws.FnExactTurnChase", spec := "fnExactTurnChase", apart := false }
def FnExactTurnChaseSaid : Prop := fnExactTurnChaseRow.holds Try.pinned (OpenSpec.ofChange fnExactTurnChaseSpec)

/-- ITS FALSE NEIGHBOUR: 'it returns false'. Refute it at one input. -/
def fnExactTurnChaseWrong : ChangeSpec := { name := "fnExactTurnChase", fn := fun _ => fun
  | [d] => { results := [.lit (.bool false)], args := [d] }
  | _ => none }
def FnExactTurnChaseWrongFalsely : Prop := fnExactTurnChaseRow.holds Try.pinned (OpenSpec.ofChange fnExactTurnChaseWrong)

/-- 'laws.FnExactSlowestDog': WHATEVER THE INPUT: true; the input reads as it did. -/
def fnExactSlowestDogSpec : ChangeSpec := { name := "fnExactSlowestDog", fn := fun _ => fun
  | [d1, d2, d3] => { results := [.lit (.bool true)], args := [d1, d2, d3] }
  | _ => none }
def fnExactSlowestDogRow : OpenClaim := { program := "ytchpdmcfnpcfeaa", sum := "86191e0d5d1a2b5161ecfccc3f3f2604f07343a56ab75ce4c1f03746ffd10d5a", func := "loop.example/g01335/laws.FnExactSlowestDog", spec := "fnExactSlowestDog", apart := false }
def FnExactSlowestDogSaid : Prop := fnExactSlowestDogRow.holds Try.pinned (OpenSpec.ofChange fnExactSlowestDogSpec)

/-- ITS FALSE NEIGHBOUR: 'it returns false'. Refute it at one input. -/
def fnExactSlowestDogWrong : ChangeSpec := { name := "fnExactSlowestDog", fn := fun _ => fun
  | [d1, d2, d3] => { results := [.lit (.bool false)], args := [d1, d2, d3] }
  | _ => none }
def FnExactSlowestDogWrongFalsely : Prop := fnExactSlowestDogRow.holds Try.pinned (OpenSpec.ofChange fnExactSlowestDogWrong)

/-- 'laws.FnExactCatchLeaps': WHATEVER THE INPUT: true; the input reads as it did. -/
def fnExactCatchLeapsSpec : ChangeSpec := { name := "fnExactCatchLeaps", fn := fun _ => fun
  | [d1, d2, d3, d4, d5] => { results := [.lit (.bool true)], args := [d1, d2, d3, d4, d5] }
  | _ => none }
def fnExactCatchLeapsRow : OpenClaim := { program := "ytchpdmcfnpcfeaa", sum := "86191e0d5d1a2b5161ecfccc3f3f2604f07343a56ab75ce4c1f03746ffd10d5a", func := "loop.example/g01335/laws.FnExactCatchLeaps", spec := "fnExactCatchLeaps", apart := false }
def FnExactCatchLeapsSaid : Prop := fnExactCatchLeapsRow.holds Try.pinned (OpenSpec.ofChange fnExactCatchLeapsSpec)

/-- ITS FALSE NEIGHBOUR: 'it returns false'. Refute it at one input. -/
def fnExactCatchLeapsWrong : ChangeSpec := { name := "fnExactCatchLeaps", fn := fun _ => fun
  | [d1, d2, d3, d4, d5] => { results := [.lit (.bool false)], args := [d1, d2, d3, d4, d5] }
  | _ => none }
def FnExactCatchLeapsWrongFalsely : Prop := fnExactCatchLeapsRow.holds Try.pinned (OpenSpec.ofChange fnExactCatchLeapsWrong)

/-- 'laws.FnExactCatchSpeed': WHATEVER THE INPUT: true; the input reads as it did. -/
def fnExactCatchSpeedSpec : ChangeSpec := { name := "fnExactCatchSpeed", fn := fun _ => fun
  | [d1, d2, d3] => { results := [.lit (.bool true)], args := [d1, d2, d3] }
  | _ => none }
def fnExactCatchSpeedRow : OpenClaim := { program := "ytchpdmcfnpcfeaa", sum := "86191e0d5d1a2b5161ecfccc3f3f2604f07343a56ab75ce4c1f03746ffd10d5a", func := "loop.example/g01335/laws.FnExactCatchSpeed", spec := "fnExactCatchSpeed", apart := false }
def FnExactCatchSpeedSaid : Prop := fnExactCatchSpeedRow.holds Try.pinned (OpenSpec.ofChange fnExactCatchSpeedSpec)

/-- ITS FALSE NEIGHBOUR: 'it returns false'. Refute it at one input. -/
def fnExactCatchSpeedWrong : ChangeSpec := { name := "fnExactCatchSpeed", fn := fun _ => fun
  | [d1, d2, d3] => { results := [.lit (.bool false)], args := [d1, d2, d3] }
  | _ => none }
def FnExactCatchSpeedWrongFalsely : Prop := fnExactCatchSpeedRow.holds Try.pinned (OpenSpec.ofChange fnExactCatchSpeedWrong)

/-- 'laws.FnExactCanCatch': WHATEVER THE INPUT: true; the input reads as it did. -/
def fnExactCanCatchSpec : ChangeSpec := { name := "fnExactCanCatch", fn := fun _ => fun
  | [d1, d2, d3, d4] => { results := [.lit (.bool true)], args := [d1, d2, d3, d4] }
  | _ => none }
def fnExactCanCatchRow : OpenClaim := { program := "ytchpdmcfnpcfeaa", sum := "86191e0d5d1a2b5161ecfccc3f3f2604f07343a56ab75ce4c1f03746ffd10d5a", func := "loop.example/g01335/laws.FnExactCanCatch", spec := "fnExactCanCatch", apart := false }
def FnExactCanCatchSaid : Prop := fnExactCanCatchRow.holds Try.pinned (OpenSpec.ofChange fnExactCanCatchSpec)

/-- ITS FALSE NEIGHBOUR: 'it returns false'. Refute it at one input. -/
def fnExactCanCatchWrong : ChangeSpec := { name := "fnExactCanCatch", fn := fun _ => fun
  | [d1, d2, d3, d4] => { results := [.lit (.bool false)], args := [d1, d2, d3, d4] }
  | _ => none }
def FnExactCanCatchWrongFalsely : Prop := fnExactCanCatchRow.holds Try.pinned (OpenSpec.ofChange fnExactCanCatchWrong)

/- THE SECOND FORM. 'bulk': how many values and letters a reading holds, each counted each time it is reached (what is shared counts as often as it is met; a slice's spare places count too). A statement '..UptoSaid' is the law's where the arguments, and the package variables that the reading takes, are together of bulk at most 1048576: NARROWER than '..Said'. Prove '..Said' where nothing that the law and all that it calls make is longer than what came in: it says more and counts as full. Else prove '..UptoSaid'. A law counts once. -/
mutual
def uptoBulk {H : Type} : DataW H → Nat
  | .lit (.string bytes) => bytes.length + 1
  | .lit _ => 1
  | .nil => 1
  | .ptr d => uptoBulk d + 1
  | .slice elems spare => uptoBulkAll elems + uptoBulkAll spare + 1
  | .agg parts => uptoBulkAll parts + 1
  | .iface _ d => uptoBulk d + 1
  | .map entries => uptoBulkEntries entries + 1
  | .held _ => 1
def uptoBulkAll {H : Type} : List (DataW H) → Nat
  | [] => 0
  | d :: r => uptoBulk d + uptoBulkAll r
def uptoBulkEntries {H : Type} : List (Lit × DataW H) → Nat
  | [] => 0
  | x :: r => uptoBulkEntry x + uptoBulkEntries r
def uptoBulkEntry {H : Type} : Lit × DataW H → Nat
  | (.string bytes, d) => bytes.length + uptoBulk d + 1
  | (_, d) => uptoBulk d + 1
 end
def uptoSmall : (H : Type) → List (DataW H) → Bool := fun _ ds => decide (uptoBulkAll ds ≤ 1048576)
def OpenSpec.upto (s : _root_.Go.ChangeSpec) : _root_.Go.OpenSpec := { _root_.Go.OpenSpec.ofChange s with cond := some uptoSmall }

/-- 'laws.FnExactIsChase', WHERE WHAT IT READS IS OF BULK AT MOST 1048576: true; the input reads as it did. -/
def fnExactIsChaseUptoRow : OpenClaim := { program := "ytchpdmcfnpcfeaa", sum := "86191e0d5d1a2b5161ecfccc3f3f2604f07343a56ab75ce4c1f03746ffd10d5a", func := "loop.example/g01335/laws.FnExactIsChase", spec := "fnExactIsChase", apart := false, narrowed := true }
def FnExactIsChaseUptoSaid : Prop := fnExactIsChaseUptoRow.holds Try.pinned (OpenSpec.upto fnExactIsChaseSpec)

/-- 'laws.FnExactTimeToMeet', WHERE WHAT IT READS IS OF BULK AT MOST 1048576: true; the input reads as it did. -/
def fnExactTimeToMeetUptoRow : OpenClaim := { program := "ytchpdmcfnpcfeaa", sum := "86191e0d5d1a2b5161ecfccc3f3f2604f07343a56ab75ce4c1f03746ffd10d5a", func := "loop.example/g01335/laws.FnExactTimeToMeet", spec := "fnExactTimeToMeet", apart := false, narrowed := true }
def FnExactTimeToMeetUptoSaid : Prop := fnExactTimeToMeetUptoRow.holds Try.pinned (OpenSpec.upto fnExactTimeToMeetSpec)

/-- 'laws.FnExactDogDistance', WHERE WHAT IT READS IS OF BULK AT MOST 1048576: true; the input reads as it did. -/
def fnExactDogDistanceUptoRow : OpenClaim := { program := "ytchpdmcfnpcfeaa", sum := "86191e0d5d1a2b5161ecfccc3f3f2604f07343a56ab75ce4c1f03746ffd10d5a", func := "loop.example/g01335/laws.FnExactDogDistance", spec := "fnExactDogDistance", apart := false, narrowed := true }
def FnExactDogDistanceUptoSaid : Prop := fnExactDogDistanceUptoRow.holds Try.pinned (OpenSpec.upto fnExactDogDistanceSpec)

/-- 'laws.FnExactDistanceOf', WHERE WHAT IT READS IS OF BULK AT MOST 1048576: true; the input reads as it did. -/
def fnExactDistanceOfUptoRow : OpenClaim := { program := "ytchpdmcfnpcfeaa", sum := "86191e0d5d1a2b5161ecfccc3f3f2604f07343a56ab75ce4c1f03746ffd10d5a", func := "loop.example/g01335/laws.FnExactDistanceOf", spec := "fnExactDistanceOf", apart := false, narrowed := true }
def FnExactDistanceOfUptoSaid : Prop := fnExactDistanceOfUptoRow.holds Try.pinned (OpenSpec.upto fnExactDistanceOfSpec)

/-- 'laws.FnExactRatioOfTurns', WHERE WHAT IT READS IS OF BULK AT MOST 1048576: true; the input reads as it did. -/
def fnExactRatioOfTurnsUptoRow : OpenClaim := { program := "ytchpdmcfnpcfeaa", sum := "86191e0d5d1a2b5161ecfccc3f3f2604f07343a56ab75ce4c1f03746ffd10d5a", func := "loop.example/g01335/laws.FnExactRatioOfTurns", spec := "fnExactRatioOfTurns", apart := false, narrowed := true }
def FnExactRatioOfTurnsUptoSaid : Prop := fnExactRatioOfTurnsUptoRow.holds Try.pinned (OpenSpec.upto fnExactRatioOfTurnsSpec)

/-- 'laws.FnExactTurnChase', WHERE WHAT IT READS IS OF BULK AT MOST 1048576: true; the input reads as it did. -/
def fnExactTurnChaseUptoRow : OpenClaim := { program := "ytchpdmcfnpcfeaa", sum := "86191e0d5d1a2b5161ecfccc3f3f2604f07343a56ab75ce4c1f03746ffd10d5a", func := "loop.example/g01335/laws.FnExactTurnChase", spec := "fnExactTurnChase", apart := false, narrowed := true }
def FnExactTurnChaseUptoSaid : Prop := fnExactTurnChaseUptoRow.holds Try.pinned (OpenSpec.upto fnExactTurnChaseSpec)

/-- 'laws.FnExactSlowestDog', WHERE WHAT IT READS IS OF BULK AT MOST 1048576: true; the input reads as it did. -/
def fnExactSlowestDogUptoRow : OpenClaim := { program := "ytchpdmcfnpcfeaa", sum := "86191e0d5d1a2b5161ecfccc3f3f2604f07343a56ab75ce4c1f03746ffd10d5a", func := "loop.example/g01335/laws.FnExactSlowestDog", spec := "fnExactSlowestDog", apart := false, narrowed := true }
def FnExactSlowestDogUptoSaid : Prop := fnExactSlowestDogUptoRow.holds Try.pinned (OpenSpec.upto fnExactSlowestDogSpec)

/-- 'laws.FnExactCatchLeaps', WHERE WHAT IT READS IS OF BULK AT MOST 1048576: true; the input reads as it did. -/
def fnExactCatchLeapsUptoRow : OpenClaim := { program := "ytchpdmcfnpcfeaa", sum := "86191e0d5d1a2b5161ecfccc3f3f2604f07343a56ab75ce4c1f03746ffd10d5a", func := "loop.example/g01335/laws.FnExactCatchLeaps", spec := "fnExactCatchLeaps", apart := false, narrowed := true }
def FnExactCatchLeapsUptoSaid : Prop := fnExactCatchLeapsUptoRow.holds Try.pinned (OpenSpec.upto fnExactCatchLeapsSpec)

/-- 'laws.FnExactCatchSpeed', WHERE WHAT IT READS IS OF BULK AT MOST 1048576: true; the input reads as it did. -/
def fnExactCatchSpeedUptoRow : OpenClaim := { program := "ytchpdmcfnpcfeaa", sum := "86191e0d5d1a2b5161ecfccc3f3f2604f07343a56ab75ce4c1f03746ffd10d5a", func := "loop.example/g01335/laws.FnExactCatchSpeed", spec := "fnExactCatchSpeed", apart := false, narrowed := true }
def FnExactCatchSpeedUptoSaid : Prop := fnExactCatchSpeedUptoRow.holds Try.pinned (OpenSpec.upto fnExactCatchSpeedSpec)

/-- 'laws.FnExactCanCatch', WHERE WHAT IT READS IS OF BULK AT MOST 1048576: true; the input reads as it did. -/
def fnExactCanCatchUptoRow : OpenClaim := { program := "ytchpdmcfnpcfeaa", sum := "86191e0d5d1a2b5161ecfccc3f3f2604f07343a56ab75ce4c1f03746ffd10d5a", func := "loop.example/g01335/laws.FnExactCanCatch", spec := "fnExactCanCatch", apart := false, narrowed := true }
def FnExactCanCatchUptoSaid : Prop := fnExactCanCatchUptoRow.holds Try.pinned (OpenSpec.upto fnExactCanCatchSpec)

end Rows
end Go.Proofs.Ytchpdmcfnpcfeaa
