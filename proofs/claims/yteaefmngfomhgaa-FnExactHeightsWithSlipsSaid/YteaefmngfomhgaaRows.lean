/-
  No cell of these rows narrows 'for every input' (looked for: loops, veiled, ifaces, maps, wideKeys, modest, calm, conditions, laid).
  DERIVED. THE GIVEN ROWS OF THIS SEAT. 12 by the template 'for every input the law returns true; each argument reads behind the call as it read before'; 0 by the template 'total and deterministic' (their statements: YteaefmngfomhgaaTotals.lean).
  GIVEN WITH THE SEED: the statements are not yours to turn. If you find one false, say at which input.
  Laid BY PROGRAM, IN A SANDBOX (cutbox-rows.mjs): the forced cells as the released guide's own fill.sh prints them over the translation 3e4ca49e13ac70ce… (all of the seat's roots in one cut). By AI agents, Wed Nov 11 2026. No macro, syntax, notation, axiom, sorry.
-/
import Derived.Test.YteaefmngfomhgaaChecked
import GoSem.Claim
import GoSem.ClaimJoined
import GoSem.ClaimMapViews
import Derived.JoinedTies
import Derived.KernelRfl
namespace Go.Proofs.Yteaefmngfomhgaa
/- THE CELL 'sum', in the pinned program and in every row, IS THE sha256 OF THE DUMP (.gsa) THAT YteaefmngfomhgaaProg.lean LOADS. Nothing in Lean hashes anything: it is a label: what it is worth is what the hold of that sum in a sandbox is worth. -/
noncomputable def Try.pinned : Pinned := { name := "yteaefmngfomhgaa", sum := "3e4ca49e13ac70cef48a2e55b63eac04484d63b08e2b3af1a2803ce205e6251b", checked := Try.checked }
namespace Rows
def none {H : Type} : Left H := { results := [], args := [] }

/-- 'laws.FnExactDaysWithSlips': WHATEVER THE INPUT: true; the input reads as it did. -/
def fnExactDaysWithSlipsSpec : ChangeSpec := { name := "fnExactDaysWithSlips", fn := fun _ => fun
  | [d1, d2, d3] => { results := [.lit (.bool true)], args := [d1, d2, d3] }
  | _ => none }
def fnExactDaysWithSlipsRow : OpenClaim := { program := "yteaefmngfomhgaa", sum := "3e4ca49e13ac70cef48a2e55b63eac04484d63b08e2b3af1a2803ce205e6251b", func := "loop.example/g01335/laws.FnExactDaysWithSlips", spec := "fnExactDaysWithSlips", unfollowed := true, recurses := true, apart := false }
def FnExactDaysWithSlipsSaid : Prop := fnExactDaysWithSlipsRow.holds Try.pinned (OpenSpec.ofChange fnExactDaysWithSlipsSpec)

/-- ITS FALSE NEIGHBOUR: 'it returns false'. Refute it at one input. -/
def fnExactDaysWithSlipsWrong : ChangeSpec := { name := "fnExactDaysWithSlips", fn := fun _ => fun
  | [d1, d2, d3] => { results := [.lit (.bool false)], args := [d1, d2, d3] }
  | _ => none }
def FnExactDaysWithSlipsWrongFalsely : Prop := fnExactDaysWithSlipsRow.holds Try.pinned (OpenSpec.ofChange fnExactDaysWithSlipsWrong)

/-- 'laws.FnExactHeightsWithSlips': WHATEVER THE INPUT: true; the input reads as it did. -/
def fnExactHeightsWithSlipsSpec : ChangeSpec := { name := "fnExactHeightsWithSlips", fn := fun _ => fun
  | [d1, d2, d3, d4] => { results := [.lit (.bool true)], args := [d1, d2, d3, d4] }
  | _ => none }
def fnExactHeightsWithSlipsRow : OpenClaim := { program := "yteaefmngfomhgaa", sum := "3e4ca49e13ac70cef48a2e55b63eac04484d63b08e2b3af1a2803ce205e6251b", func := "loop.example/g01335/laws.FnExactHeightsWithSlips", spec := "fnExactHeightsWithSlips", unfollowed := true, recurses := true, apart := false }
def FnExactHeightsWithSlipsSaid : Prop := fnExactHeightsWithSlipsRow.holds Try.pinned (OpenSpec.ofChange fnExactHeightsWithSlipsSpec)

/-- ITS FALSE NEIGHBOUR: 'it returns false'. Refute it at one input. -/
def fnExactHeightsWithSlipsWrong : ChangeSpec := { name := "fnExactHeightsWithSlips", fn := fun _ => fun
  | [d1, d2, d3, d4] => { results := [.lit (.bool false)], args := [d1, d2, d3, d4] }
  | _ => none }
def FnExactHeightsWithSlipsWrongFalsely : Prop := fnExactHeightsWithSlipsRow.holds Try.pinned (OpenSpec.ofChange fnExactHeightsWithSlipsWrong)

/-- 'laws.FnExactGreatestWithSlips': WHATEVER THE INPUT: true; the input reads as it did. -/
def fnExactGreatestWithSlipsSpec : ChangeSpec := { name := "fnExactGreatestWithSlips", fn := fun _ => fun
  | [d1, d2, d3] => { results := [.lit (.bool true)], args := [d1, d2, d3] }
  | _ => none }
def fnExactGreatestWithSlipsRow : OpenClaim := { program := "yteaefmngfomhgaa", sum := "3e4ca49e13ac70cef48a2e55b63eac04484d63b08e2b3af1a2803ce205e6251b", func := "loop.example/g01335/laws.FnExactGreatestWithSlips", spec := "fnExactGreatestWithSlips", unfollowed := true, recurses := true, apart := false }
def FnExactGreatestWithSlipsSaid : Prop := fnExactGreatestWithSlipsRow.holds Try.pinned (OpenSpec.ofChange fnExactGreatestWithSlipsSpec)

/-- ITS FALSE NEIGHBOUR: 'it returns false'. Refute it at one input. -/
def fnExactGreatestWithSlipsWrong : ChangeSpec := { name := "fnExactGreatestWithSlips", fn := fun _ => fun
  | [d1, d2, d3] => { results := [.lit (.bool false)], args := [d1, d2, d3] }
  | _ => none }
def FnExactGreatestWithSlipsWrongFalsely : Prop := fnExactGreatestWithSlipsRow.holds Try.pinned (OpenSpec.ofChange fnExactGreatestWithSlipsWrong)

/-- 'laws.FnExactAreWalkers': WHATEVER THE INPUT: true; the input reads as it did. -/
def fnExactAreWalkersSpec : ChangeSpec := { name := "fnExactAreWalkers", fn := fun _ => fun
  | [d] => { results := [.lit (.bool true)], args := [d] }
  | _ => none }
def fnExactAreWalkersRow : OpenClaim := { program := "yteaefmngfomhgaa", sum := "3e4ca49e13ac70cef48a2e55b63eac04484d63b08e2b3af1a2803ce205e6251b", func := "loop.example/g01335/laws.FnExactAreWalkers", spec := "fnExactAreWalkers", unfollowed := true, recurses := true, apart := false }
def FnExactAreWalkersSaid : Prop := fnExactAreWalkersRow.holds Try.pinned (OpenSpec.ofChange fnExactAreWalkersSpec)

/-- ITS FALSE NEIGHBOUR: 'it returns false'. Refute it at one input. -/
def fnExactAreWalkersWrong : ChangeSpec := { name := "fnExactAreWalkers", fn := fun _ => fun
  | [d] => { results := [.lit (.bool false)], args := [d] }
  | _ => none }
def FnExactAreWalkersWrongFalsely : Prop := fnExactAreWalkersRow.holds Try.pinned (OpenSpec.ofChange fnExactAreWalkersWrong)

/-- 'laws.FnExactWalkersAt': WHATEVER THE INPUT: true; the input reads as it did. -/
def fnExactWalkersAtSpec : ChangeSpec := { name := "fnExactWalkersAt", fn := fun _ => fun
  | [d1, d2, d3] => { results := [.lit (.bool true)], args := [d1, d2, d3] }
  | _ => none }
def fnExactWalkersAtRow : OpenClaim := { program := "yteaefmngfomhgaa", sum := "3e4ca49e13ac70cef48a2e55b63eac04484d63b08e2b3af1a2803ce205e6251b", func := "loop.example/g01335/laws.FnExactWalkersAt", spec := "fnExactWalkersAt", unfollowed := true, recurses := true, apart := false }
def FnExactWalkersAtSaid : Prop := fnExactWalkersAtRow.holds Try.pinned (OpenSpec.ofChange fnExactWalkersAtSpec)

/-- ITS FALSE NEIGHBOUR: 'it returns false'. Refute it at one input. -/
def fnExactWalkersAtWrong : ChangeSpec := { name := "fnExactWalkersAt", fn := fun _ => fun
  | [d1, d2, d3] => { results := [.lit (.bool false)], args := [d1, d2, d3] }
  | _ => none }
def FnExactWalkersAtWrongFalsely : Prop := fnExactWalkersAtRow.holds Try.pinned (OpenSpec.ofChange fnExactWalkersAtWrong)

/-- 'laws.FnExactLeadersOf': WHATEVER THE INPUT: true; the input reads as it did. -/
def fnExactLeadersOfSpec : ChangeSpec := { name := "fnExactLeadersOf", fn := fun _ => fun
  | [d] => { results := [.lit (.bool true)], args := [d] }
  | _ => none }
def fnExactLeadersOfRow : OpenClaim := { program := "yteaefmngfomhgaa", sum := "3e4ca49e13ac70cef48a2e55b63eac04484d63b08e2b3af1a2803ce205e6251b", func := "loop.example/g01335/laws.FnExactLeadersOf", spec := "fnExactLeadersOf", unfollowed := true, recurses := true, apart := false }
def FnExactLeadersOfSaid : Prop := fnExactLeadersOfRow.holds Try.pinned (OpenSpec.ofChange fnExactLeadersOfSpec)

/-- ITS FALSE NEIGHBOUR: 'it returns false'. Refute it at one input. -/
def fnExactLeadersOfWrong : ChangeSpec := { name := "fnExactLeadersOf", fn := fun _ => fun
  | [d] => { results := [.lit (.bool false)], args := [d] }
  | _ => none }
def FnExactLeadersOfWrongFalsely : Prop := fnExactLeadersOfRow.holds Try.pinned (OpenSpec.ofChange fnExactLeadersOfWrong)

/-- 'laws.FnExactLastOrder': WHATEVER THE INPUT: true; the input reads as it did. -/
def fnExactLastOrderSpec : ChangeSpec := { name := "fnExactLastOrder", fn := fun _ => fun
  | [d] => { results := [.lit (.bool true)], args := [d] }
  | _ => none }
def fnExactLastOrderRow : OpenClaim := { program := "yteaefmngfomhgaa", sum := "3e4ca49e13ac70cef48a2e55b63eac04484d63b08e2b3af1a2803ce205e6251b", func := "loop.example/g01335/laws.FnExactLastOrder", spec := "fnExactLastOrder", unfollowed := true, recurses := true, apart := false }
def FnExactLastOrderSaid : Prop := fnExactLastOrderRow.holds Try.pinned (OpenSpec.ofChange fnExactLastOrderSpec)

/-- ITS FALSE NEIGHBOUR: 'it returns false'. Refute it at one input. -/
def fnExactLastOrderWrong : ChangeSpec := { name := "fnExactLastOrder", fn := fun _ => fun
  | [d] => { results := [.lit (.bool false)], args := [d] }
  | _ => none }
def FnExactLastOrderWrongFalsely : Prop := fnExactLastOrderRow.holds Try.pinned (OpenSpec.ofChange fnExactLastOrderWrong)

/-- 'laws.FnExactAllAtStart': WHATEVER THE INPUT: true; the input reads as it did. -/
def fnExactAllAtStartSpec : ChangeSpec := { name := "fnExactAllAtStart", fn := fun _ => fun
  | [d1, d2] => { results := [.lit (.bool true)], args := [d1, d2] }
  | _ => none }
def fnExactAllAtStartRow : OpenClaim := { program := "yteaefmngfomhgaa", sum := "3e4ca49e13ac70cef48a2e55b63eac04484d63b08e2b3af1a2803ce205e6251b", func := "loop.example/g01335/laws.FnExactAllAtStart", spec := "fnExactAllAtStart", unfollowed := true, recurses := true, apart := false }
def FnExactAllAtStartSaid : Prop := fnExactAllAtStartRow.holds Try.pinned (OpenSpec.ofChange fnExactAllAtStartSpec)

/-- ITS FALSE NEIGHBOUR: 'it returns false'. Refute it at one input. -/
def fnExactAllAtStartWrong : ChangeSpec := { name := "fnExactAllAtStart", fn := fun _ => fun
  | [d1, d2] => { results := [.lit (.bool false)], args := [d1, d2] }
  | _ => none }
def FnExactAllAtStartWrongFalsely : Prop := fnExactAllAtStartRow.holds Try.pinned (OpenSpec.ofChange fnExactAllAtStartWrong)

/-- 'laws.FnExactAreRunners': WHATEVER THE INPUT: true; the input reads as it did. -/
def fnExactAreRunnersSpec : ChangeSpec := { name := "fnExactAreRunners", fn := fun _ => fun
  | [d1, d2] => { results := [.lit (.bool true)], args := [d1, d2] }
  | _ => none }
def fnExactAreRunnersRow : OpenClaim := { program := "yteaefmngfomhgaa", sum := "3e4ca49e13ac70cef48a2e55b63eac04484d63b08e2b3af1a2803ce205e6251b", func := "loop.example/g01335/laws.FnExactAreRunners", spec := "fnExactAreRunners", unfollowed := true, recurses := true, apart := false }
def FnExactAreRunnersSaid : Prop := fnExactAreRunnersRow.holds Try.pinned (OpenSpec.ofChange fnExactAreRunnersSpec)

/-- ITS FALSE NEIGHBOUR: 'it returns false'. Refute it at one input. -/
def fnExactAreRunnersWrong : ChangeSpec := { name := "fnExactAreRunners", fn := fun _ => fun
  | [d1, d2] => { results := [.lit (.bool false)], args := [d1, d2] }
  | _ => none }
def FnExactAreRunnersWrongFalsely : Prop := fnExactAreRunnersRow.holds Try.pinned (OpenSpec.ofChange fnExactAreRunnersWrong)

/-- 'laws.FnExactPlaceOnTrack': WHATEVER THE INPUT: true; the input reads as it did. -/
def fnExactPlaceOnTrackSpec : ChangeSpec := { name := "fnExactPlaceOnTrack", fn := fun _ => fun
  | [d1, d2, d3] => { results := [.lit (.bool true)], args := [d1, d2, d3] }
  | _ => none }
def fnExactPlaceOnTrackRow : OpenClaim := { program := "yteaefmngfomhgaa", sum := "3e4ca49e13ac70cef48a2e55b63eac04484d63b08e2b3af1a2803ce205e6251b", func := "loop.example/g01335/laws.FnExactPlaceOnTrack", spec := "fnExactPlaceOnTrack", unfollowed := true, recurses := true, apart := false }
def FnExactPlaceOnTrackSaid : Prop := fnExactPlaceOnTrackRow.holds Try.pinned (OpenSpec.ofChange fnExactPlaceOnTrackSpec)

/-- ITS FALSE NEIGHBOUR: 'it returns false'. Refute it at one input. -/
def fnExactPlaceOnTrackWrong : ChangeSpec := { name := "fnExactPlaceOnTrack", fn := fun _ => fun
  | [d1, d2, d3] => { results := [.lit (.bool false)], args := [d1, d2, d3] }
  | _ => none }
def FnExactPlaceOnTrackWrongFalsely : Prop := fnExactPlaceOnTrackRow.holds Try.pinned (OpenSpec.ofChange fnExactPlaceOnTrackWrong)

/-- 'laws.FnExactLapsAt': WHATEVER THE INPUT: true; the input reads as it did. -/
def fnExactLapsAtSpec : ChangeSpec := { name := "fnExactLapsAt", fn := fun _ => fun
  | [d1, d2, d3] => { results := [.lit (.bool true)], args := [d1, d2, d3] }
  | _ => none }
def fnExactLapsAtRow : OpenClaim := { program := "yteaefmngfomhgaa", sum := "3e4ca49e13ac70cef48a2e55b63eac04484d63b08e2b3af1a2803ce205e6251b", func := "loop.example/g01335/laws.FnExactLapsAt", spec := "fnExactLapsAt", unfollowed := true, recurses := true, apart := false }
def FnExactLapsAtSaid : Prop := fnExactLapsAtRow.holds Try.pinned (OpenSpec.ofChange fnExactLapsAtSpec)

/-- ITS FALSE NEIGHBOUR: 'it returns false'. Refute it at one input. -/
def fnExactLapsAtWrong : ChangeSpec := { name := "fnExactLapsAt", fn := fun _ => fun
  | [d1, d2, d3] => { results := [.lit (.bool false)], args := [d1, d2, d3] }
  | _ => none }
def FnExactLapsAtWrongFalsely : Prop := fnExactLapsAtRow.holds Try.pinned (OpenSpec.ofChange fnExactLapsAtWrong)

/-- 'laws.FnExactOrderOnTrack': WHATEVER THE INPUT: true; the input reads as it did. -/
def fnExactOrderOnTrackSpec : ChangeSpec := { name := "fnExactOrderOnTrack", fn := fun _ => fun
  | [d1, d2, d3] => { results := [.lit (.bool true)], args := [d1, d2, d3] }
  | _ => none }
def fnExactOrderOnTrackRow : OpenClaim := { program := "yteaefmngfomhgaa", sum := "3e4ca49e13ac70cef48a2e55b63eac04484d63b08e2b3af1a2803ce205e6251b", func := "loop.example/g01335/laws.FnExactOrderOnTrack", spec := "fnExactOrderOnTrack", unfollowed := true, recurses := true, apart := false }
def FnExactOrderOnTrackSaid : Prop := fnExactOrderOnTrackRow.holds Try.pinned (OpenSpec.ofChange fnExactOrderOnTrackSpec)

/-- ITS FALSE NEIGHBOUR: 'it returns false'. Refute it at one input. -/
def fnExactOrderOnTrackWrong : ChangeSpec := { name := "fnExactOrderOnTrack", fn := fun _ => fun
  | [d1, d2, d3] => { results := [.lit (.bool false)], args := [d1, d2, d3] }
  | _ => none }
def FnExactOrderOnTrackWrongFalsely : Prop := fnExactOrderOnTrackRow.holds Try.pinned (OpenSpec.ofChange fnExactOrderOnTrackWrong)

/- THE SECOND FORM. 'bulk': how many values and letters a reading holds, each counted each time it is reached (what is shared counts as often as it is met; a slice's spare places count too). A statement '..UptoSaid' is the law's where the arguments, and the package variables that the reading takes, are together of bulk at most 1048576: NARROWER than '..Said'. Prove '..Said' where nothing that the law and all that it calls make is longer than what came in: it says more and counts as full. Else prove '..UptoSaid'. A law counts once. -/
mutual
def uptoBulk {H : Type} : DataW H → Nat
  | .lit (.string bytes) => bytes.length + 1
  | .lit _ => 1
  | .nil => 1
  | .ptr d => uptoBulk d + 1
  | .slice elems spare => uptoBulkAll elems + uptoBulkAll spare + 1
  | .agg parts => uptoBulkAll parts + 1
  | .iface _ d => uptoBulk d + 1
  | .map entries => uptoBulkEntries entries + 1
  | .held _ => 1
def uptoBulkAll {H : Type} : List (DataW H) → Nat
  | [] => 0
  | d :: r => uptoBulk d + uptoBulkAll r
def uptoBulkEntries {H : Type} : List (Lit × DataW H) → Nat
  | [] => 0
  | x :: r => uptoBulkEntry x + uptoBulkEntries r
def uptoBulkEntry {H : Type} : Lit × DataW H → Nat
  | (.string bytes, d) => bytes.length + uptoBulk d + 1
  | (_, d) => uptoBulk d + 1
 end
def uptoSmall : (H : Type) → List (DataW H) → Bool := fun _ ds => decide (uptoBulkAll ds ≤ 1048576)
def OpenSpec.upto (s : _root_.Go.ChangeSpec) : _root_.Go.OpenSpec := { _root_.Go.OpenSpec.ofChange s with cond := some uptoSmall }

/-- 'laws.FnExactDaysWithSlips', WHERE WHAT IT READS IS OF BULK AT MOST 1048576: true; the input reads as it did. -/
def fnExactDaysWithSlipsUptoRow : OpenClaim := { program := "yteaefmngfomhgaa", sum := "3e4ca49e13ac70cef48a2e55b63eac04484d63b08e2b3af1a2803ce205e6251b", func := "loop.example/g01335/laws.FnExactDaysWithSlips", spec := "fnExactDaysWithSlips", unfollowed := true, recurses := true, apart := false, narrowed := true }
def FnExactDaysWithSlipsUptoSaid : Prop := fnExactDaysWithSlipsUptoRow.holds Try.pinned (OpenSpec.upto fnExactDaysWithSlipsSpec)

/-- 'laws.FnExactHeightsWithSlips', WHERE WHAT IT READS IS OF BULK AT MOST 1048576: true; the input reads as it did. -/
def fnExactHeightsWithSlipsUptoRow : OpenClaim := { program := "yteaefmngfomhgaa", sum := "3e4ca49e13ac70cef48a2e55b63eac04484d63b08e2b3af1a2803ce205e6251b", func := "loop.example/g01335/laws.FnExactHeightsWithSlips", spec := "fnExactHeightsWithSlips", unfollowed := true, recurses := true, apart := false, narrowed := true }
def FnExactHeightsWithSlipsUptoSaid : Prop := fnExactHeightsWithSlipsUptoRow.holds Try.pinned (OpenSpec.upto fnExactHeightsWithSlipsSpec)

/-- 'laws.FnExactGreatestWithSlips', WHERE WHAT IT READS IS OF BULK AT MOST 1048576: true; the input reads as it did. -/
def fnExactGreatestWithSlipsUptoRow : OpenClaim := { program := "yteaefmngfomhgaa", sum := "3e4ca49e13ac70cef48a2e55b63eac04484d63b08e2b3af1a2803ce205e6251b", func := "loop.example/g01335/laws.FnExactGreatestWithSlips", spec := "fnExactGreatestWithSlips", unfollowed := true, recurses := true, apart := false, narrowed := true }
def FnExactGreatestWithSlipsUptoSaid : Prop := fnExactGreatestWithSlipsUptoRow.holds Try.pinned (OpenSpec.upto fnExactGreatestWithSlipsSpec)

/-- 'laws.FnExactAreWalkers', WHERE WHAT IT READS IS OF BULK AT MOST 1048576: true; the input reads as it did. -/
def fnExactAreWalkersUptoRow : OpenClaim := { program := "yteaefmngfomhgaa", sum := "3e4ca49e13ac70cef48a2e55b63eac04484d63b08e2b3af1a2803ce205e6251b", func := "loop.example/g01335/laws.FnExactAreWalkers", spec := "fnExactAreWalkers", unfollowed := true, recurses := true, apart := false, narrowed := true }
def FnExactAreWalkersUptoSaid : Prop := fnExactAreWalkersUptoRow.holds Try.pinned (OpenSpec.upto fnExactAreWalkersSpec)

/-- 'laws.FnExactWalkersAt', WHERE WHAT IT READS IS OF BULK AT MOST 1048576: true; the input reads as it did. -/
def fnExactWalkersAtUptoRow : OpenClaim := { program := "yteaefmngfomhgaa", sum := "3e4ca49e13ac70cef48a2e55b63eac04484d63b08e2b3af1a2803ce205e6251b", func := "loop.example/g01335/laws.FnExactWalkersAt", spec := "fnExactWalkersAt", unfollowed := true, recurses := true, apart := false, narrowed := true }
def FnExactWalkersAtUptoSaid : Prop := fnExactWalkersAtUptoRow.holds Try.pinned (OpenSpec.upto fnExactWalkersAtSpec)

/-- 'laws.FnExactLeadersOf', WHERE WHAT IT READS IS OF BULK AT MOST 1048576: true; the input reads as it did. -/
def fnExactLeadersOfUptoRow : OpenClaim := { program := "yteaefmngfomhgaa", sum := "3e4ca49e13ac70cef48a2e55b63eac04484d63b08e2b3af1a2803ce205e6251b", func := "loop.example/g01335/laws.FnExactLeadersOf", spec := "fnExactLeadersOf", unfollowed := true, recurses := true, apart := false, narrowed := true }
def FnExactLeadersOfUptoSaid : Prop := fnExactLeadersOfUptoRow.holds Try.pinned (OpenSpec.upto fnExactLeadersOfSpec)

/-- 'laws.FnExactLastOrder', WHERE WHAT IT READS IS OF BULK AT MOST 1048576: true; the input reads as it did. -/
def fnExactLastOrderUptoRow : OpenClaim := { program := "yteaefmngfomhgaa", sum := "3e4ca49e13ac70cef48a2e55b63eac04484d63b08e2b3af1a2803ce205e6251b", func := "loop.example/g01335/laws.FnExactLastOrder", spec := "fnExactLastOrder", unfollowed := true, recurses := true, apart := false, narrowed := true }
def FnExactLastOrderUptoSaid : Prop := fnExactLastOrderUptoRow.holds Try.pinned (OpenSpec.upto fnExactLastOrderSpec)

/-- 'laws.FnExactAllAtStart', WHERE WHAT IT READS IS OF BULK AT MOST 1048576: true; the input reads as it did. -/
def fnExactAllAtStartUptoRow : OpenClaim := { program := "yteaefmngfomhgaa", sum := "3e4ca49e13ac70cef48a2e55b63eac04484d63b08e2b3af1a2803ce205e6251b", func := "loop.example/g01335/laws.FnExactAllAtStart", spec := "fnExactAllAtStart", unfollowed := true, recurses := true, apart := false, narrowed := true }
def FnExactAllAtStartUptoSaid : Prop := fnExactAllAtStartUptoRow.holds Try.pinned (OpenSpec.upto fnExactAllAtStartSpec)

/-- 'laws.FnExactAreRunners', WHERE WHAT IT READS IS OF BULK AT MOST 1048576: true; the input reads as it did. -/
def fnExactAreRunnersUptoRow : OpenClaim := { program := "yteaefmngfomhgaa", sum := "3e4ca49e13ac70cef48a2e55b63eac04484d63b08e2b3af1a2803ce205e6251b", func := "loop.example/g01335/laws.FnExactAreRunners", spec := "fnExactAreRunners", unfollowed := true, recurses := true, apart := false, narrowed := true }
def FnExactAreRunnersUptoSaid : Prop := fnExactAreRunnersUptoRow.holds Try.pinned (OpenSpec.upto fnExactAreRunnersSpec)

/-- 'laws.FnExactPlaceOnTrack', WHERE WHAT IT READS IS OF BULK AT MOST 1048576: true; the input reads as it did. -/
def fnExactPlaceOnTrackUptoRow : OpenClaim := { program := "yteaefmngfomhgaa", sum := "3e4ca49e13ac70cef48a2e55b63eac04484d63b08e2b3af1a2803ce205e6251b", func := "loop.example/g01335/laws.FnExactPlaceOnTrack", spec := "fnExactPlaceOnTrack", unfollowed := true, recurses := true, apart := false, narrowed := true }
def FnExactPlaceOnTrackUptoSaid : Prop := fnExactPlaceOnTrackUptoRow.holds Try.pinned (OpenSpec.upto fnExactPlaceOnTrackSpec)

/-- 'laws.FnExactLapsAt', WHERE WHAT IT READS IS OF BULK AT MOST 1048576: true; the input reads as it did. -/
def fnExactLapsAtUptoRow : OpenClaim := { program := "yteaefmngfomhgaa", sum := "3e4ca49e13ac70cef48a2e55b63eac04484d63b08e2b3af1a2803ce205e6251b", func := "loop.example/g01335/laws.FnExactLapsAt", spec := "fnExactLapsAt", unfollowed := true, recurses := true, apart := false, narrowed := true }
def FnExactLapsAtUptoSaid : Prop := fnExactLapsAtUptoRow.holds Try.pinned (OpenSpec.upto fnExactLapsAtSpec)

/-- 'laws.FnExactOrderOnTrack', WHERE WHAT IT READS IS OF BULK AT MOST 1048576: true; the input reads as it did. -/
def fnExactOrderOnTrackUptoRow : OpenClaim := { program := "yteaefmngfomhgaa", sum := "3e4ca49e13ac70cef48a2e55b63eac04484d63b08e2b3af1a2803ce205e6251b", func := "loop.example/g01335/laws.FnExactOrderOnTrack", spec := "fnExactOrderOnTrack", unfollowed := true, recurses := true, apart := false, narrowed := true }
def FnExactOrderOnTrackUptoSaid : Prop := fnExactOrderOnTrackUptoRow.holds Try.pinned (OpenSpec.upto fnExactOrderOnTrackSpec)

end Rows
end Go.Proofs.Yteaefmngfomhgaa
