/-
  No cell of these rows narrows 'for every input' (looked for: loops, veiled, ifaces, maps, wideKeys, modest, calm, conditions, laid).
  DERIVED. THE GIVEN ROWS OF THIS SEAT. 12 by the template 'for every input the law returns true; each argument reads behind the call as it read before'; 0 by the template 'total and deterministic' (their statements: YtpopaehlbhnmfaaTotals.lean).
  GIVEN WITH THE SEED: the statements are not yours to turn. If you find one false, say at which input.
  Laid BY PROGRAM, IN A SANDBOX (cutbox-rows.mjs): the forced cells as the released guide's own fill.sh prints them over the translation 0cab3d137f078ef4… (all of the seat's roots in one cut). By AI agents, Wed Nov 11 2026. No macro, syntax, notation, axiom, sorry.
-/
import Derived.Test.YtpopaehlbhnmfaaChecked
import GoSem.Claim
import GoSem.ClaimJoined
import GoSem.ClaimMapViews
import Derived.JoinedTies
import Derived.KernelRfl
namespace Go.Proofs.Ytpopaehlbhnmfaa
/- THE CELL 'sum', in the pinned program and in every row, IS THE sha256 OF THE DUMP (.gsa) THAT YtpopaehlbhnmfaaProg.lean LOADS. Nothing in Lean hashes anything: it is a label: what it is worth is what the hold of that sum in a sandbox is worth. -/
noncomputable def Try.pinned : Pinned := { name := "ytpopaehlbhnmfaa", sum := "0cab3d137f078ef4f1ba92c4a09e613504a186e74061c530a2276c0093c7f03a", checked := Try.checked }
namespace Rows
def none {H : Type} : Left H := { results := [], args := [] }

/-- 'laws.FnExactAreRunners': WHATEVER THE INPUT: true; the input reads as it did. -/
def fnExactAreRunnersSpec : ChangeSpec := { name := "fnExactAreRunners", fn := fun _ => fun
  | [d1, d2] => { results := [.lit (.bool true)], args := [d1, d2] }
  | _ => none }
def fnExactAreRunnersRow : OpenClaim := { program := "ytpopaehlbhnmfaa", sum := "0cab3d137f078ef4f1ba92c4a09e613504a186e74061c530a2276c0093c7f03a", func := "loop.example/g01335/laws.FnExactAreRunners", spec := "fnExactAreRunners", apart := false }
def FnExactAreRunnersSaid : Prop := fnExactAreRunnersRow.holds Try.pinned (OpenSpec.ofChange fnExactAreRunnersSpec)

/-- ITS FALSE NEIGHBOUR: 'it returns false'. Refute it at one input. -/
def fnExactAreRunnersWrong : ChangeSpec := { name := "fnExactAreRunners", fn := fun _ => fun
  | [d1, d2] => { results := [.lit (.bool false)], args := [d1, d2] }
  | _ => none }
def FnExactAreRunnersWrongFalsely : Prop := fnExactAreRunnersRow.holds Try.pinned (OpenSpec.ofChange fnExactAreRunnersWrong)

/-- 'laws.FnExactPlaceOnTrack': WHATEVER THE INPUT: true; the input reads as it did. -/
def fnExactPlaceOnTrackSpec : ChangeSpec := { name := "fnExactPlaceOnTrack", fn := fun _ => fun
  | [d1, d2, d3] => { results := [.lit (.bool true)], args := [d1, d2, d3] }
  | _ => none }
def fnExactPlaceOnTrackRow : OpenClaim := { program := "ytpopaehlbhnmfaa", sum := "0cab3d137f078ef4f1ba92c4a09e613504a186e74061c530a2276c0093c7f03a", func := "loop.example/g01335/laws.FnExactPlaceOnTrack", spec := "fnExactPlaceOnTrack", apart := false }
def FnExactPlaceOnTrackSaid : Prop := fnExactPlaceOnTrackRow.holds Try.pinned (OpenSpec.ofChange fnExactPlaceOnTrackSpec)

/-- ITS FALSE NEIGHBOUR: 'it returns false'. Refute it at one input. -/
def fnExactPlaceOnTrackWrong : ChangeSpec := { name := "fnExactPlaceOnTrack", fn := fun _ => fun
  | [d1, d2, d3] => { results := [.lit (.bool false)], args := [d1, d2, d3] }
  | _ => none }
def FnExactPlaceOnTrackWrongFalsely : Prop := fnExactPlaceOnTrackRow.holds Try.pinned (OpenSpec.ofChange fnExactPlaceOnTrackWrong)

/-- 'laws.FnExactLapsAt': WHATEVER THE INPUT: true; the input reads as it did. -/
def fnExactLapsAtSpec : ChangeSpec := { name := "fnExactLapsAt", fn := fun _ => fun
  | [d1, d2, d3] => { results := [.lit (.bool true)], args := [d1, d2, d3] }
  | _ => none }
def fnExactLapsAtRow : OpenClaim := { program := "ytpopaehlbhnmfaa", sum := "0cab3d137f078ef4f1ba92c4a09e613504a186e74061c530a2276c0093c7f03a", func := "loop.example/g01335/laws.FnExactLapsAt", spec := "fnExactLapsAt", apart := false }
def FnExactLapsAtSaid : Prop := fnExactLapsAtRow.holds Try.pinned (OpenSpec.ofChange fnExactLapsAtSpec)

/-- ITS FALSE NEIGHBOUR: 'it returns false'. Refute it at one input. -/
def fnExactLapsAtWrong : ChangeSpec := { name := "fnExactLapsAt", fn := fun _ => fun
  | [d1, d2, d3] => { results := [.lit (.bool false)], args := [d1, d2, d3] }
  | _ => none }
def FnExactLapsAtWrongFalsely : Prop := fnExactLapsAtRow.holds Try.pinned (OpenSpec.ofChange fnExactLapsAtWrong)

/-- 'laws.FnExactLeadBetween': WHATEVER THE INPUT: true; the input reads as it did. -/
def fnExactLeadBetweenSpec : ChangeSpec := { name := "fnExactLeadBetween", fn := fun _ => fun
  | [d1, d2, d3, d4] => { results := [.lit (.bool true)], args := [d1, d2, d3, d4] }
  | _ => none }
def fnExactLeadBetweenRow : OpenClaim := { program := "ytpopaehlbhnmfaa", sum := "0cab3d137f078ef4f1ba92c4a09e613504a186e74061c530a2276c0093c7f03a", func := "loop.example/g01335/laws.FnExactLeadBetween", spec := "fnExactLeadBetween", apart := false }
def FnExactLeadBetweenSaid : Prop := fnExactLeadBetweenRow.holds Try.pinned (OpenSpec.ofChange fnExactLeadBetweenSpec)

/-- ITS FALSE NEIGHBOUR: 'it returns false'. Refute it at one input. -/
def fnExactLeadBetweenWrong : ChangeSpec := { name := "fnExactLeadBetween", fn := fun _ => fun
  | [d1, d2, d3, d4] => { results := [.lit (.bool false)], args := [d1, d2, d3, d4] }
  | _ => none }
def FnExactLeadBetweenWrongFalsely : Prop := fnExactLeadBetweenRow.holds Try.pinned (OpenSpec.ofChange fnExactLeadBetweenWrong)

/-- 'laws.FnExactCountOvertakings': WHATEVER THE INPUT: true; the input reads as it did. -/
def fnExactCountOvertakingsSpec : ChangeSpec := { name := "fnExactCountOvertakings", fn := fun _ => fun
  | [d1, d2, d3, d4] => { results := [.lit (.bool true)], args := [d1, d2, d3, d4] }
  | _ => none }
def fnExactCountOvertakingsRow : OpenClaim := { program := "ytpopaehlbhnmfaa", sum := "0cab3d137f078ef4f1ba92c4a09e613504a186e74061c530a2276c0093c7f03a", func := "loop.example/g01335/laws.FnExactCountOvertakings", spec := "fnExactCountOvertakings", apart := false }
def FnExactCountOvertakingsSaid : Prop := fnExactCountOvertakingsRow.holds Try.pinned (OpenSpec.ofChange fnExactCountOvertakingsSpec)

/-- ITS FALSE NEIGHBOUR: 'it returns false'. Refute it at one input. -/
def fnExactCountOvertakingsWrong : ChangeSpec := { name := "fnExactCountOvertakings", fn := fun _ => fun
  | [d1, d2, d3, d4] => { results := [.lit (.bool false)], args := [d1, d2, d3, d4] }
  | _ => none }
def FnExactCountOvertakingsWrongFalsely : Prop := fnExactCountOvertakingsRow.holds Try.pinned (OpenSpec.ofChange fnExactCountOvertakingsWrong)

/-- 'laws.FnExactHandicapFor': WHATEVER THE INPUT: true; the input reads as it did. -/
def fnExactHandicapForSpec : ChangeSpec := { name := "fnExactHandicapFor", fn := fun _ => fun
  | [d1, d2, d3, d4] => { results := [.lit (.bool true)], args := [d1, d2, d3, d4] }
  | _ => none }
def fnExactHandicapForRow : OpenClaim := { program := "ytpopaehlbhnmfaa", sum := "0cab3d137f078ef4f1ba92c4a09e613504a186e74061c530a2276c0093c7f03a", func := "loop.example/g01335/laws.FnExactHandicapFor", spec := "fnExactHandicapFor", apart := false }
def FnExactHandicapForSaid : Prop := fnExactHandicapForRow.holds Try.pinned (OpenSpec.ofChange fnExactHandicapForSpec)

/-- ITS FALSE NEIGHBOUR: 'it returns false'. Refute it at one input. -/
def fnExactHandicapForWrong : ChangeSpec := { name := "fnExactHandicapFor", fn := fun _ => fun
  | [d1, d2, d3, d4] => { results := [.lit (.bool false)], args := [d1, d2, d3, d4] }
  | _ => none }
def FnExactHandicapForWrongFalsely : Prop := fnExactHandicapForRow.holds Try.pinned (OpenSpec.ofChange fnExactHandicapForWrong)

/-- 'laws.FnExactWinnerOfLaps': WHATEVER THE INPUT: true; the input reads as it did. -/
def fnExactWinnerOfLapsSpec : ChangeSpec := { name := "fnExactWinnerOfLaps", fn := fun _ => fun
  | [d1, d2, d3] => { results := [.lit (.bool true)], args := [d1, d2, d3] }
  | _ => none }
def fnExactWinnerOfLapsRow : OpenClaim := { program := "ytpopaehlbhnmfaa", sum := "0cab3d137f078ef4f1ba92c4a09e613504a186e74061c530a2276c0093c7f03a", func := "loop.example/g01335/laws.FnExactWinnerOfLaps", spec := "fnExactWinnerOfLaps", apart := false }
def FnExactWinnerOfLapsSaid : Prop := fnExactWinnerOfLapsRow.holds Try.pinned (OpenSpec.ofChange fnExactWinnerOfLapsSpec)

/-- ITS FALSE NEIGHBOUR: 'it returns false'. Refute it at one input. -/
def fnExactWinnerOfLapsWrong : ChangeSpec := { name := "fnExactWinnerOfLaps", fn := fun _ => fun
  | [d1, d2, d3] => { results := [.lit (.bool false)], args := [d1, d2, d3] }
  | _ => none }
def FnExactWinnerOfLapsWrongFalsely : Prop := fnExactWinnerOfLapsRow.holds Try.pinned (OpenSpec.ofChange fnExactWinnerOfLapsWrong)

/-- 'laws.FnExactTimeOfLaps': WHATEVER THE INPUT: true; the input reads as it did. -/
def fnExactTimeOfLapsSpec : ChangeSpec := { name := "fnExactTimeOfLaps", fn := fun _ => fun
  | [d1, d2, d3] => { results := [.lit (.bool true)], args := [d1, d2, d3] }
  | _ => none }
def fnExactTimeOfLapsRow : OpenClaim := { program := "ytpopaehlbhnmfaa", sum := "0cab3d137f078ef4f1ba92c4a09e613504a186e74061c530a2276c0093c7f03a", func := "loop.example/g01335/laws.FnExactTimeOfLaps", spec := "fnExactTimeOfLaps", apart := false }
def FnExactTimeOfLapsSaid : Prop := fnExactTimeOfLapsRow.holds Try.pinned (OpenSpec.ofChange fnExactTimeOfLapsSpec)

/-- ITS FALSE NEIGHBOUR: 'it returns false'. Refute it at one input. -/
def fnExactTimeOfLapsWrong : ChangeSpec := { name := "fnExactTimeOfLaps", fn := fun _ => fun
  | [d1, d2, d3] => { results := [.lit (.bool false)], args := [d1, d2, d3] }
  | _ => none }
def FnExactTimeOfLapsWrongFalsely : Prop := fnExactTimeOfLapsRow.holds Try.pinned (OpenSpec.ofChange fnExactTimeOfLapsWrong)

/-- 'laws.FnExactOrderOnTrack': WHATEVER THE INPUT: true; the input reads as it did. -/
def fnExactOrderOnTrackSpec : ChangeSpec := { name := "fnExactOrderOnTrack", fn := fun _ => fun
  | [d1, d2, d3] => { results := [.lit (.bool true)], args := [d1, d2, d3] }
  | _ => none }
def fnExactOrderOnTrackRow : OpenClaim := { program := "ytpopaehlbhnmfaa", sum := "0cab3d137f078ef4f1ba92c4a09e613504a186e74061c530a2276c0093c7f03a", func := "loop.example/g01335/laws.FnExactOrderOnTrack", spec := "fnExactOrderOnTrack", unfollowed := true, recurses := true, apart := false }
def FnExactOrderOnTrackSaid : Prop := fnExactOrderOnTrackRow.holds Try.pinned (OpenSpec.ofChange fnExactOrderOnTrackSpec)

/-- ITS FALSE NEIGHBOUR: 'it returns false'. Refute it at one input. -/
def fnExactOrderOnTrackWrong : ChangeSpec := { name := "fnExactOrderOnTrack", fn := fun _ => fun
  | [d1, d2, d3] => { results := [.lit (.bool false)], args := [d1, d2, d3] }
  | _ => none }
def FnExactOrderOnTrackWrongFalsely : Prop := fnExactOrderOnTrackRow.holds Try.pinned (OpenSpec.ofChange fnExactOrderOnTrackWrong)

/-- 'laws.FnExactWalkersAt': WHATEVER THE INPUT: true; the input reads as it did. -/
def fnExactWalkersAtSpec : ChangeSpec := { name := "fnExactWalkersAt", fn := fun _ => fun
  | [d1, d2, d3] => { results := [.lit (.bool true)], args := [d1, d2, d3] }
  | _ => none }
def fnExactWalkersAtRow : OpenClaim := { program := "ytpopaehlbhnmfaa", sum := "0cab3d137f078ef4f1ba92c4a09e613504a186e74061c530a2276c0093c7f03a", func := "loop.example/g01335/laws.FnExactWalkersAt", spec := "fnExactWalkersAt", unfollowed := true, recurses := true, apart := false }
def FnExactWalkersAtSaid : Prop := fnExactWalkersAtRow.holds Try.pinned (OpenSpec.ofChange fnExactWalkersAtSpec)

/-- ITS FALSE NEIGHBOUR: 'it returns false'. Refute it at one input. -/
def fnExactWalkersAtWrong : ChangeSpec := { name := "fnExactWalkersAt", fn := fun _ => fun
  | [d1, d2, d3] => { results := [.lit (.bool false)], args := [d1, d2, d3] }
  | _ => none }
def FnExactWalkersAtWrongFalsely : Prop := fnExactWalkersAtRow.holds Try.pinned (OpenSpec.ofChange fnExactWalkersAtWrong)

/-- 'laws.FnExactLastOrder': WHATEVER THE INPUT: true; the input reads as it did. -/
def fnExactLastOrderSpec : ChangeSpec := { name := "fnExactLastOrder", fn := fun _ => fun
  | [d] => { results := [.lit (.bool true)], args := [d] }
  | _ => none }
def fnExactLastOrderRow : OpenClaim := { program := "ytpopaehlbhnmfaa", sum := "0cab3d137f078ef4f1ba92c4a09e613504a186e74061c530a2276c0093c7f03a", func := "loop.example/g01335/laws.FnExactLastOrder", spec := "fnExactLastOrder", unfollowed := true, recurses := true, apart := false }
def FnExactLastOrderSaid : Prop := fnExactLastOrderRow.holds Try.pinned (OpenSpec.ofChange fnExactLastOrderSpec)

/-- ITS FALSE NEIGHBOUR: 'it returns false'. Refute it at one input. -/
def fnExactLastOrderWrong : ChangeSpec := { name := "fnExactLastOrder", fn := fun _ => fun
  | [d] => { results := [.lit (.bool false)], args := [d] }
  | _ => none }
def FnExactLastOrderWrongFalsely : Prop := fnExactLastOrderRow.holds Try.pinned (OpenSpec.ofChange fnExactLastOrderWrong)

/-- 'laws.FnExactRingPlaces': WHATEVER THE INPUT: true; the input reads as it did. -/
def fnExactRingPlacesSpec : ChangeSpec := { name := "fnExactRingPlaces", fn := fun _ => fun
  | [d1, d2, d3] => { results := [.lit (.bool true)], args := [d1, d2, d3] }
  | _ => none }
def fnExactRingPlacesRow : OpenClaim := { program := "ytpopaehlbhnmfaa", sum := "0cab3d137f078ef4f1ba92c4a09e613504a186e74061c530a2276c0093c7f03a", func := "loop.example/g01335/laws.FnExactRingPlaces", spec := "fnExactRingPlaces", unfollowed := true, recurses := true, apart := false }
def FnExactRingPlacesSaid : Prop := fnExactRingPlacesRow.holds Try.pinned (OpenSpec.ofChange fnExactRingPlacesSpec)

/-- ITS FALSE NEIGHBOUR: 'it returns false'. Refute it at one input. -/
def fnExactRingPlacesWrong : ChangeSpec := { name := "fnExactRingPlaces", fn := fun _ => fun
  | [d1, d2, d3] => { results := [.lit (.bool false)], args := [d1, d2, d3] }
  | _ => none }
def FnExactRingPlacesWrongFalsely : Prop := fnExactRingPlacesRow.holds Try.pinned (OpenSpec.ofChange fnExactRingPlacesWrong)

/- THE SECOND FORM. 'bulk': how many values and letters a reading holds, each counted each time it is reached (what is shared counts as often as it is met; a slice's spare places count too). A statement '..UptoSaid' is the law's where the arguments, and the package variables that the reading takes, are together of bulk at most 1048576: NARROWER than '..Said'. Prove '..Said' where nothing that the law and all that it calls make is longer than what came in: it says more and counts as full. Else prove '..UptoSaid'. A law counts once. -/
mutual
def uptoBulk {H : Type} : DataW H → Nat
  | .lit (.string bytes) => bytes.length + 1
  | .lit _ => 1
  | .nil => 1
  | .ptr d => uptoBulk d + 1
  | .slice elems spare => uptoBulkAll elems + uptoBulkAll spare + 1
  | .agg parts => uptoBulkAll parts + 1
  | .iface _ d => uptoBulk d + 1
  | .map entries => uptoBulkEntries entries + 1
  | .held _ => 1
def uptoBulkAll {H : Type} : List (DataW H) → Nat
  | [] => 0
  | d :: r => uptoBulk d + uptoBulkAll r
def uptoBulkEntries {H : Type} : List (Lit × DataW H) → Nat
  | [] => 0
  | x :: r => uptoBulkEntry x + uptoBulkEntries r
def uptoBulkEntry {H : Type} : Lit × DataW H → Nat
  | (.string bytes, d) => bytes.length + uptoBulk d + 1
  | (_, d) => uptoBulk d + 1
 end
def uptoSmall : (H : Type) → List (DataW H) → Bool := fun _ ds => decide (uptoBulkAll ds ≤ 1048576)
def OpenSpec.upto (s : _root_.Go.ChangeSpec) : _root_.Go.OpenSpec := { _root_.Go.OpenSpec.ofChange s with cond := some uptoSmall }

/-- 'laws.FnExactAreRunners', WHERE WHAT IT READS IS OF BULK AT MOST 1048576: true; the input reads as it did. -/
def fnExactAreRunnersUptoRow : OpenClaim := { program := "ytpopaehlbhnmfaa", sum := "0cab3d137f078ef4f1ba92c4a09e613504a186e74061c530a2276c0093c7f03a", func := "loop.example/g01335/laws.FnExactAreRunners", spec := "fnExactAreRunners", apart := false, narrowed := true }
def FnExactAreRunnersUptoSaid : Prop := fnExactAreRunnersUptoRow.holds Try.pinned (OpenSpec.upto fnExactAreRunnersSpec)

/-- 'laws.FnExactPlaceOnTrack', WHERE WHAT IT READS IS OF BULK AT MOST 1048576: true; the input reads as it did. -/
def fnExactPlaceOnTrackUptoRow : OpenClaim := { program := "ytpopaehlbhnmfaa", sum := "0cab3d137f078ef4f1ba92c4a09e613504a186e74061c530a2276c0093c7f03a", func := "loop.example/g01335/laws.FnExactPlaceOnTrack", spec := "fnExactPlaceOnTrack", apart := false, narrowed := true }
def FnExactPlaceOnTrackUptoSaid : Prop := fnExactPlaceOnTrackUptoRow.holds Try.pinned (OpenSpec.upto fnExactPlaceOnTrackSpec)

/-- 'laws.FnExactLapsAt', WHERE WHAT IT READS IS OF BULK AT MOST 1048576: true; the input reads as it did. -/
def fnExactLapsAtUptoRow : OpenClaim := { program := "ytpopaehlbhnmfaa", sum := "0cab3d137f078ef4f1ba92c4a09e613504a186e74061c530a2276c0093c7f03a", func := "loop.example/g01335/laws.FnExactLapsAt", spec := "fnExactLapsAt", apart := false, narrowed := true }
def FnExactLapsAtUptoSaid : Prop := fnExactLapsAtUptoRow.holds Try.pinned (OpenSpec.upto fnExactLapsAtSpec)

/-- 'laws.FnExactLeadBetween', WHERE WHAT IT READS IS OF BULK AT MOST 1048576: true; the input reads as it did. -/
def fnExactLeadBetweenUptoRow : OpenClaim := { program := "ytpopaehlbhnmfaa", sum := "0cab3d137f078ef4f1ba92c4a09e613504a186e74061c530a2276c0093c7f03a", func := "loop.example/g01335/laws.FnExactLeadBetween", spec := "fnExactLeadBetween", apart := false, narrowed := true }
def FnExactLeadBetweenUptoSaid : Prop := fnExactLeadBetweenUptoRow.holds Try.pinned (OpenSpec.upto fnExactLeadBetweenSpec)

/-- 'laws.FnExactCountOvertakings', WHERE WHAT IT READS IS OF BULK AT MOST 1048576: true; the input reads as it did. -/
def fnExactCountOvertakingsUptoRow : OpenClaim := { program := "ytpopaehlbhnmfaa", sum := "0cab3d137f078ef4f1ba92c4a09e613504a186e74061c530a2276c0093c7f03a", func := "loop.example/g01335/laws.FnExactCountOvertakings", spec := "fnExactCountOvertakings", apart := false, narrowed := true }
def FnExactCountOvertakingsUptoSaid : Prop := fnExactCountOvertakingsUptoRow.holds Try.pinned (OpenSpec.upto fnExactCountOvertakingsSpec)

/-- 'laws.FnExactHandicapFor', WHERE WHAT IT READS IS OF BULK AT MOST 1048576: true; the input reads as it did. -/
def fnExactHandicapForUptoRow : OpenClaim := { program := "ytpopaehlbhnmfaa", sum := "0cab3d137f078ef4f1ba92c4a09e613504a186e74061c530a2276c0093c7f03a", func := "loop.example/g01335/laws.FnExactHandicapFor", spec := "fnExactHandicapFor", apart := false, narrowed := true }
def FnExactHandicapForUptoSaid : Prop := fnExactHandicapForUptoRow.holds Try.pinned (OpenSpec.upto fnExactHandicapForSpec)

/-- 'laws.FnExactWinnerOfLaps', WHERE WHAT IT READS IS OF BULK AT MOST 1048576: true; the input reads as it did. -/
def fnExactWinnerOfLapsUptoRow : OpenClaim := { program := "ytpopaehlbhnmfaa", sum := "0cab3d137f078ef4f1ba92c4a09e613504a186e74061c530a2276c0093c7f03a", func := "loop.example/g01335/laws.FnExactWinnerOfLaps", spec := "fnExactWinnerOfLaps", apart := false, narrowed := true }
def FnExactWinnerOfLapsUptoSaid : Prop := fnExactWinnerOfLapsUptoRow.holds Try.pinned (OpenSpec.upto fnExactWinnerOfLapsSpec)

/-- 'laws.FnExactTimeOfLaps', WHERE WHAT IT READS IS OF BULK AT MOST 1048576: true; the input reads as it did. -/
def fnExactTimeOfLapsUptoRow : OpenClaim := { program := "ytpopaehlbhnmfaa", sum := "0cab3d137f078ef4f1ba92c4a09e613504a186e74061c530a2276c0093c7f03a", func := "loop.example/g01335/laws.FnExactTimeOfLaps", spec := "fnExactTimeOfLaps", apart := false, narrowed := true }
def FnExactTimeOfLapsUptoSaid : Prop := fnExactTimeOfLapsUptoRow.holds Try.pinned (OpenSpec.upto fnExactTimeOfLapsSpec)

/-- 'laws.FnExactOrderOnTrack', WHERE WHAT IT READS IS OF BULK AT MOST 1048576: true; the input reads as it did. -/
def fnExactOrderOnTrackUptoRow : OpenClaim := { program := "ytpopaehlbhnmfaa", sum := "0cab3d137f078ef4f1ba92c4a09e613504a186e74061c530a2276c0093c7f03a", func := "loop.example/g01335/laws.FnExactOrderOnTrack", spec := "fnExactOrderOnTrack", unfollowed := true, recurses := true, apart := false, narrowed := true }
def FnExactOrderOnTrackUptoSaid : Prop := fnExactOrderOnTrackUptoRow.holds Try.pinned (OpenSpec.upto fnExactOrderOnTrackSpec)

/-- 'laws.FnExactWalkersAt', WHERE WHAT IT READS IS OF BULK AT MOST 1048576: true; the input reads as it did. -/
def fnExactWalkersAtUptoRow : OpenClaim := { program := "ytpopaehlbhnmfaa", sum := "0cab3d137f078ef4f1ba92c4a09e613504a186e74061c530a2276c0093c7f03a", func := "loop.example/g01335/laws.FnExactWalkersAt", spec := "fnExactWalkersAt", unfollowed := true, recurses := true, apart := false, narrowed := true }
def FnExactWalkersAtUptoSaid : Prop := fnExactWalkersAtUptoRow.holds Try.pinned (OpenSpec.upto fnExactWalkersAtSpec)

/-- 'laws.FnExactLastOrder', WHERE WHAT IT READS IS OF BULK AT MOST 1048576: true; the input reads as it did. -/
def fnExactLastOrderUptoRow : OpenClaim := { program := "ytpopaehlbhnmfaa", sum := "0cab3d137f078ef4f1ba92c4a09e613504a186e74061c530a2276c0093c7f03a", func := "loop.example/g01335/laws.FnExactLastOrder", spec := "fnExactLastOrder", unfollowed := true, recurses := true, apart := false, narrowed := true }
def FnExactLastOrderUptoSaid : Prop := fnExactLastOrderUptoRow.holds Try.pinned (OpenSpec.upto fnExactLastOrderSpec)

/-- 'laws.FnExactRingPlaces', WHERE WHAT IT READS IS OF BULK AT MOST 1048576: true; the input reads as it did. -/
def fnExactRingPlacesUptoRow : OpenClaim := { program := "ytpopaehlbhnmfaa", sum := "0cab3d137f078ef4f1ba92c4a09e613504a186e74061c530a2276c0093c7f03a", func := "loop.example/g01335/laws.FnExactRingPlaces", spec := "fnExactRingPlaces", unfollowed := true, recurses := true, apart := false, narrowed := true }
def FnExactRingPlacesUptoSaid : Prop := fnExactRingPlacesUptoRow.holds Try.pinned (OpenSpec.upto fnExactRingPlacesSpec)

end Rows
end Go.Proofs.Ytpopaehlbhnmfaa
