/-
  No cell of these rows narrows 'for every input' (looked for: loops, veiled, ifaces, maps, wideKeys, modest, calm, conditions, laid).
  DERIVED. THE GIVEN ROWS OF THIS SEAT. 6 by the template 'for every input the law returns true; each argument reads behind the call as it read before'; 0 by the template 'total and deterministic' (their statements: YteaefmngfomhgabTotals.lean).
  GIVEN WITH THE SEED: the statements are not yours to turn. If you find one false, say at which input.
  Laid BY PROGRAM, IN A SANDBOX (cutbox-rows.mjs): the forced cells as the released guide's own fill.sh prints them over the translation c16a2c8939af7b5a… (all of the seat's roots in one cut). By AI agents, Wed Nov 11 2026. No macro, syntax, notation, axiom, sorry.
-/
import Derived.Test.YteaefmngfomhgabChecked
import GoSem.Claim
import GoSem.ClaimJoined
import GoSem.ClaimMapViews
import Derived.JoinedTies
import Derived.KernelRfl
namespace Go.Proofs.Yteaefmngfomhgab
/- THE CELL 'sum', in the pinned program and in every row, IS THE sha256 OF THE DUMP (.gsa) THAT YteaefmngfomhgabProg.lean LOADS. Nothing in Lean hashes anything: it is a label: what it is worth is what the hold of that sum in a sandbox is worth. -/
noncomputable def Try.pinned : Pinned := { name := "yteaefmngfomhgab", sum := "c16a2c8939af7b5a92a8e45deadc13f4781d59797bba655d917a9e4971b68c5f", checked := Try.checked }
namespace Rows
def none {H : Type} : Left H := { results := [], args := [] }

/-- 'laws.FnExactLeadBetween': WHATEVER THE INPUT: true; the input reads as it did. -/
def fnExactLeadBetweenSpec : ChangeSpec := { name := "fnExactLeadBetween", fn := fun _ => fun
  | [d1, d2, d3, d4] => { results := [.lit (.bool true)], args := [d1, d2, d3, d4] }
  | _ => none }
def fnExactLeadBetweenRow : OpenClaim := { program := "yteaefmngfomhgab", sum := "c16a2c8939af7b5a92a8e45deadc13f4781d59797bba655d917a9e4971b68c5f", func := "loop.example/g01335/laws.FnExactLeadBetween", spec := "fnExactLeadBetween", unfollowed := true, recurses := true, apart := false }
def FnExactLeadBetweenSaid : Prop := fnExactLeadBetweenRow.holds Try.pinned (OpenSpec.ofChange fnExactLeadBetweenSpec)

/-- ITS FALSE NEIGHBOUR: 'it returns false'. Refute it at one input. -/
def fnExactLeadBetweenWrong : ChangeSpec := { name := "fnExactLeadBetween", fn := fun _ => fun
  | [d1, d2, d3, d4] => { results := [.lit (.bool false)], args := [d1, d2, d3, d4] }
  | _ => none }
def FnExactLeadBetweenWrongFalsely : Prop := fnExactLeadBetweenRow.holds Try.pinned (OpenSpec.ofChange fnExactLeadBetweenWrong)

/-- 'laws.FnExactCountOvertakings': WHATEVER THE INPUT: true; the input reads as it did. -/
def fnExactCountOvertakingsSpec : ChangeSpec := { name := "fnExactCountOvertakings", fn := fun _ => fun
  | [d1, d2, d3, d4] => { results := [.lit (.bool true)], args := [d1, d2, d3, d4] }
  | _ => none }
def fnExactCountOvertakingsRow : OpenClaim := { program := "yteaefmngfomhgab", sum := "c16a2c8939af7b5a92a8e45deadc13f4781d59797bba655d917a9e4971b68c5f", func := "loop.example/g01335/laws.FnExactCountOvertakings", spec := "fnExactCountOvertakings", unfollowed := true, recurses := true, apart := false }
def FnExactCountOvertakingsSaid : Prop := fnExactCountOvertakingsRow.holds Try.pinned (OpenSpec.ofChange fnExactCountOvertakingsSpec)

/-- ITS FALSE NEIGHBOUR: 'it returns false'. Refute it at one input. -/
def fnExactCountOvertakingsWrong : ChangeSpec := { name := "fnExactCountOvertakings", fn := fun _ => fun
  | [d1, d2, d3, d4] => { results := [.lit (.bool false)], args := [d1, d2, d3, d4] }
  | _ => none }
def FnExactCountOvertakingsWrongFalsely : Prop := fnExactCountOvertakingsRow.holds Try.pinned (OpenSpec.ofChange fnExactCountOvertakingsWrong)

/-- 'laws.FnExactHandicapFor': WHATEVER THE INPUT: true; the input reads as it did. -/
def fnExactHandicapForSpec : ChangeSpec := { name := "fnExactHandicapFor", fn := fun _ => fun
  | [d1, d2, d3, d4] => { results := [.lit (.bool true)], args := [d1, d2, d3, d4] }
  | _ => none }
def fnExactHandicapForRow : OpenClaim := { program := "yteaefmngfomhgab", sum := "c16a2c8939af7b5a92a8e45deadc13f4781d59797bba655d917a9e4971b68c5f", func := "loop.example/g01335/laws.FnExactHandicapFor", spec := "fnExactHandicapFor", unfollowed := true, recurses := true, apart := false }
def FnExactHandicapForSaid : Prop := fnExactHandicapForRow.holds Try.pinned (OpenSpec.ofChange fnExactHandicapForSpec)

/-- ITS FALSE NEIGHBOUR: 'it returns false'. Refute it at one input. -/
def fnExactHandicapForWrong : ChangeSpec := { name := "fnExactHandicapFor", fn := fun _ => fun
  | [d1, d2, d3, d4] => { results := [.lit (.bool false)], args := [d1, d2, d3, d4] }
  | _ => none }
def FnExactHandicapForWrongFalsely : Prop := fnExactHandicapForRow.holds Try.pinned (OpenSpec.ofChange fnExactHandicapForWrong)

/-- 'laws.FnExactWinnerOfLaps': WHATEVER THE INPUT: true; the input reads as it did. -/
def fnExactWinnerOfLapsSpec : ChangeSpec := { name := "fnExactWinnerOfLaps", fn := fun _ => fun
  | [d1, d2, d3] => { results := [.lit (.bool true)], args := [d1, d2, d3] }
  | _ => none }
def fnExactWinnerOfLapsRow : OpenClaim := { program := "yteaefmngfomhgab", sum := "c16a2c8939af7b5a92a8e45deadc13f4781d59797bba655d917a9e4971b68c5f", func := "loop.example/g01335/laws.FnExactWinnerOfLaps", spec := "fnExactWinnerOfLaps", unfollowed := true, recurses := true, apart := false }
def FnExactWinnerOfLapsSaid : Prop := fnExactWinnerOfLapsRow.holds Try.pinned (OpenSpec.ofChange fnExactWinnerOfLapsSpec)

/-- ITS FALSE NEIGHBOUR: 'it returns false'. Refute it at one input. -/
def fnExactWinnerOfLapsWrong : ChangeSpec := { name := "fnExactWinnerOfLaps", fn := fun _ => fun
  | [d1, d2, d3] => { results := [.lit (.bool false)], args := [d1, d2, d3] }
  | _ => none }
def FnExactWinnerOfLapsWrongFalsely : Prop := fnExactWinnerOfLapsRow.holds Try.pinned (OpenSpec.ofChange fnExactWinnerOfLapsWrong)

/-- 'laws.FnExactTimeOfLaps': WHATEVER THE INPUT: true; the input reads as it did. -/
def fnExactTimeOfLapsSpec : ChangeSpec := { name := "fnExactTimeOfLaps", fn := fun _ => fun
  | [d1, d2, d3] => { results := [.lit (.bool true)], args := [d1, d2, d3] }
  | _ => none }
def fnExactTimeOfLapsRow : OpenClaim := { program := "yteaefmngfomhgab", sum := "c16a2c8939af7b5a92a8e45deadc13f4781d59797bba655d917a9e4971b68c5f", func := "loop.example/g01335/laws.FnExactTimeOfLaps", spec := "fnExactTimeOfLaps", unfollowed := true, recurses := true, apart := false }
def FnExactTimeOfLapsSaid : Prop := fnExactTimeOfLapsRow.holds Try.pinned (OpenSpec.ofChange fnExactTimeOfLapsSpec)

/-- ITS FALSE NEIGHBOUR: 'it returns false'. Refute it at one input. -/
def fnExactTimeOfLapsWrong : ChangeSpec := { name := "fnExactTimeOfLaps", fn := fun _ => fun
  | [d1, d2, d3] => { results := [.lit (.bool false)], args := [d1, d2, d3] }
  | _ => none }
def FnExactTimeOfLapsWrongFalsely : Prop := fnExactTimeOfLapsRow.holds Try.pinned (OpenSpec.ofChange fnExactTimeOfLapsWrong)

/-- 'laws.FnExactRingPlaces': WHATEVER THE INPUT: true; the input reads as it did. -/
def fnExactRingPlacesSpec : ChangeSpec := { name := "fnExactRingPlaces", fn := fun _ => fun
  | [d1, d2, d3] => { results := [.lit (.bool true)], args := [d1, d2, d3] }
  | _ => none }
def fnExactRingPlacesRow : OpenClaim := { program := "yteaefmngfomhgab", sum := "c16a2c8939af7b5a92a8e45deadc13f4781d59797bba655d917a9e4971b68c5f", func := "loop.example/g01335/laws.FnExactRingPlaces", spec := "fnExactRingPlaces", unfollowed := true, recurses := true, apart := false }
def FnExactRingPlacesSaid : Prop := fnExactRingPlacesRow.holds Try.pinned (OpenSpec.ofChange fnExactRingPlacesSpec)

/-- ITS FALSE NEIGHBOUR: 'it returns false'. Refute it at one input. -/
def fnExactRingPlacesWrong : ChangeSpec := { name := "fnExactRingPlaces", fn := fun _ => fun
  | [d1, d2, d3] => { results := [.lit (.bool false)], args := [d1, d2, d3] }
  | _ => none }
def FnExactRingPlacesWrongFalsely : Prop := fnExactRingPlacesRow.holds Try.pinned (OpenSpec.ofChange fnExactRingPlacesWrong)

/- THE SECOND FORM. 'bulk': how many values and letters a reading holds, each counted each time it is reached (what is shared counts as often as it is met; a slice's spare places count too). A statement '..UptoSaid' is the law's where the arguments, and the package variables that the reading takes, are together of bulk at most 1048576: NARROWER than '..Said'. Prove '..Said' where nothing that the law and all that it calls make is longer than what came in: it says more and counts as full. Else prove '..UptoSaid'. A law counts once. -/
mutual
def uptoBulk {H : Type} : DataW H → Nat
  | .lit (.string bytes) => bytes.length + 1
  | .lit _ => 1
  | .nil => 1
  | .ptr d => uptoBulk d + 1
  | .slice elems spare => uptoBulkAll elems + uptoBulkAll spare + 1
  | .agg parts => uptoBulkAll parts + 1
  | .iface _ d => uptoBulk d + 1
  | .map entries => uptoBulkEntries entries + 1
  | .held _ => 1
def uptoBulkAll {H : Type} : List (DataW H) → Nat
  | [] => 0
  | d :: r => uptoBulk d + uptoBulkAll r
def uptoBulkEntries {H : Type} : List (Lit × DataW H) → Nat
  | [] => 0
  | x :: r => uptoBulkEntry x + uptoBulkEntries r
def uptoBulkEntry {H : Type} : Lit × DataW H → Nat
  | (.string bytes, d) => bytes.length + uptoBulk d + 1
  | (_, d) => uptoBulk d + 1
 end
def uptoSmall : (H : Type) → List (DataW H) → Bool := fun _ ds => decide (uptoBulkAll ds ≤ 1048576)
def OpenSpec.upto (s : _root_.Go.ChangeSpec) : _root_.Go.OpenSpec := { _root_.Go.OpenSpec.ofChange s with cond := some uptoSmall }

/-- 'laws.FnExactLeadBetween', WHERE WHAT IT READS IS OF BULK AT MOST 1048576: true; the input reads as it did. -/
def fnExactLeadBetweenUptoRow : OpenClaim := { program := "yteaefmngfomhgab", sum := "c16a2c8939af7b5a92a8e45deadc13f4781d59797bba655d917a9e4971b68c5f", func := "loop.example/g01335/laws.FnExactLeadBetween", spec := "fnExactLeadBetween", unfollowed := true, recurses := true, apart := false, narrowed := true }
def FnExactLeadBetweenUptoSaid : Prop := fnExactLeadBetweenUptoRow.holds Try.pinned (OpenSpec.upto fnExactLeadBetweenSpec)

/-- 'laws.FnExactCountOvertakings', WHERE WHAT IT READS IS OF BULK AT MOST 1048576: true; the input reads as it did. -/
def fnExactCountOvertakingsUptoRow : OpenClaim := { program := "yteaefmngfomhgab", sum := "c16a2c8939af7b5a92a8e45deadc13f4781d59797bba655d917a9e4971b68c5f", func := "loop.example/g01335/laws.FnExactCountOvertakings", spec := "fnExactCountOvertakings", unfollowed := true, recurses := true, apart := false, narrowed := true }
def FnExactCountOvertakingsUptoSaid : Prop := fnExactCountOvertakingsUptoRow.holds Try.pinned (OpenSpec.upto fnExactCountOvertakingsSpec)

/-- 'laws.FnExactHandicapFor', WHERE WHAT IT READS IS OF BULK AT MOST 1048576: true; the input reads as it did. -/
def fnExactHandicapForUptoRow : OpenClaim := { program := "yteaefmngfomhgab", sum := "c16a2c8939af7b5a92a8e45deadc13f4781d59797bba655d917a9e4971b68c5f", func := "loop.example/g01335/laws.FnExactHandicapFor", spec := "fnExactHandicapFor", unfollowed := true, recurses := true, apart := false, narrowed := true }
def FnExactHandicapForUptoSaid : Prop := fnExactHandicapForUptoRow.holds Try.pinned (OpenSpec.upto fnExactHandicapForSpec)

/-- 'laws.FnExactWinnerOfLaps', WHERE WHAT IT READS IS OF BULK AT MOST 1048576: true; the input reads as it did. -/
def fnExactWinnerOfLapsUptoRow : OpenClaim := { program := "yteaefmngfomhgab", sum := "c16a2c8939af7b5a92a8e45deadc13f4781d59797bba655d917a9e4971b68c5f", func := "loop.example/g01335/laws.FnExactWinnerOfLaps", spec := "fnExactWinnerOfLaps", unfollowed := true, recurses := true, apart := false, narrowed := true }
def FnExactWinnerOfLapsUptoSaid : Prop := fnExactWinnerOfLapsUptoRow.holds Try.pinned (OpenSpec.upto fnExactWinnerOfLapsSpec)

/-- 'laws.FnExactTimeOfLaps', WHERE WHAT IT READS IS OF BULK AT MOST 1048576: true; the input reads as it did. -/
def fnExactTimeOfLapsUptoRow : OpenClaim := { program := "yteaefmngfomhgab", sum := "c16a2c8939af7b5a92a8e45deadc13f4781d59797bba655d917a9e4971b68c5f", func := "loop.example/g01335/laws.FnExactTimeOfLaps", spec := "fnExactTimeOfLaps", unfollowed := true, recurses := true, apart := false, narrowed := true }
def FnExactTimeOfLapsUptoSaid : Prop := fnExactTimeOfLapsUptoRow.holds Try.pinned (OpenSpec.upto fnExactTimeOfLapsSpec)

/-- 'laws.FnExactRingPlaces', WHERE WHAT IT READS IS OF BULK AT MOST 1048576: true; the input reads as it did. -/
def fnExactRingPlacesUptoRow : OpenClaim := { program := "yteaefmngfomhgab", sum := "c16a2c8939af7b5a92a8e45deadc13f4781d59797bba655d917a9e4971b68c5f", func := "loop.example/g01335/laws.FnExactRingPlaces", spec := "fnExactRingPlaces", unfollowed := true, recurses := true, apart := false, narrowed := true }
def FnExactRingPlacesUptoSaid : Prop := fnExactRingPlacesUptoRow.holds Try.pinned (OpenSpec.upto fnExactRingPlacesSpec)

end Rows
end Go.Proofs.Yteaefmngfomhgab
