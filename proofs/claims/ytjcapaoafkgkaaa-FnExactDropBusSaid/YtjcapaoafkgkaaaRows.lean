/-
  No cell of these rows narrows 'for every input' (looked for: loops, veiled, ifaces, maps, wideKeys, modest, calm, conditions, laid).
  DERIVED. THE GIVEN ROWS OF THIS SEAT. 5 by the template 'for every input the law returns true; each argument reads behind the call as it read before'; 0 by the template 'total and deterministic' (their statements: YtjcapaoafkgkaaaTotals.lean).
  GIVEN WITH THE SEED: the statements are not yours to turn. If you find one false, say at which input.
  Laid BY PROGRAM, IN A SANDBOX (cutbox-rows.mjs): the forced cells as the released guide's own fill.sh prints them over the translation 28608691d628056e… (all of the seat's roots in one cut). By AI agents, Wed Nov 11 2026. No macro, syntax, notation, axiom, sorry.
-/
import Derived.Test.YtjcapaoafkgkaaaChecked
import GoSem.Claim
import GoSem.ClaimJoined
import GoSem.ClaimMapViews
import Derived.JoinedTies
import Derived.KernelRfl
namespace Go.Proofs.Ytjcapaoafkgkaaa
/- THE CELL 'sum', in the pinned program and in every row, IS THE sha256 OF THE DUMP (.gsa) THAT YtjcapaoafkgkaaaProg.lean LOADS. Nothing in Lean hashes anything: it is a label: what it is worth is what the hold of that sum in a sandbox is worth. -/
noncomputable def Try.pinned : Pinned := { name := "ytjcapaoafkgkaaa", sum := "28608691d628056e95f0b060cbfb87fe8b22c86cf9e5ce106f147c478c7b7bf8", checked := Try.checked }
namespace Rows
def none {H : Type} : Left H := { results := [], args := [] }

/-- 'laws.FnExactIsLine': WHATEVER THE INPUT: true; the input reads as it did. -/
def fnExactIsLineSpec : ChangeSpec := { name := "fnExactIsLine", fn := fun _ => fun
  | [d] => { results := [.lit (.bool true)], args := [d] }
  | _ => none }
def fnExactIsLineRow : OpenClaim := { program := "ytjcapaoafkgkaaa", sum := "28608691d628056e95f0b060cbfb87fe8b22c86cf9e5ce106f147c478c7b7bf8", func := "loop.example/g01335/laws.FnExactIsLine", spec := "fnExactIsLine", apart := false }
def FnExactIsLineSaid : Prop := fnExactIsLineRow.holds Try.pinned (OpenSpec.ofChange fnExactIsLineSpec)

/-- ITS FALSE NEIGHBOUR: 'it returns false'. Refute it at one input. -/
def fnExactIsLineWrong : ChangeSpec := { name := "fnExactIsLine", fn := fun _ => fun
  | [d] => { results := [.lit (.bool false)], args := [d] }
  | _ => none }
def FnExactIsLineWrongFalsely : Prop := fnExactIsLineRow.holds Try.pinned (OpenSpec.ofChange fnExactIsLineWrong)

/-- 'laws.FnExactTimeAtStop': WHATEVER THE INPUT: true; the input reads as it did. -/
def fnExactTimeAtStopSpec : ChangeSpec := { name := "fnExactTimeAtStop", fn := fun _ => fun
  | [d1, d2, d3] => { results := [.lit (.bool true)], args := [d1, d2, d3] }
  | _ => none }
def fnExactTimeAtStopRow : OpenClaim := { program := "ytjcapaoafkgkaaa", sum := "28608691d628056e95f0b060cbfb87fe8b22c86cf9e5ce106f147c478c7b7bf8", func := "loop.example/g01335/laws.FnExactTimeAtStop", spec := "fnExactTimeAtStop", apart := false }
def FnExactTimeAtStopSaid : Prop := fnExactTimeAtStopRow.holds Try.pinned (OpenSpec.ofChange fnExactTimeAtStopSpec)

/-- ITS FALSE NEIGHBOUR: 'it returns false'. Refute it at one input. -/
def fnExactTimeAtStopWrong : ChangeSpec := { name := "fnExactTimeAtStop", fn := fun _ => fun
  | [d1, d2, d3] => { results := [.lit (.bool false)], args := [d1, d2, d3] }
  | _ => none }
def FnExactTimeAtStopWrongFalsely : Prop := fnExactTimeAtStopRow.holds Try.pinned (OpenSpec.ofChange fnExactTimeAtStopWrong)

/-- 'laws.FnExactRideFor': WHATEVER THE INPUT: true; the input reads as it did. -/
def fnExactRideForSpec : ChangeSpec := { name := "fnExactRideFor", fn := fun _ => fun
  | [d1, d2, d3] => { results := [.lit (.bool true)], args := [d1, d2, d3] }
  | _ => none }
def fnExactRideForRow : OpenClaim := { program := "ytjcapaoafkgkaaa", sum := "28608691d628056e95f0b060cbfb87fe8b22c86cf9e5ce106f147c478c7b7bf8", func := "loop.example/g01335/laws.FnExactRideFor", spec := "fnExactRideFor", apart := false }
def FnExactRideForSaid : Prop := fnExactRideForRow.holds Try.pinned (OpenSpec.ofChange fnExactRideForSpec)

/-- ITS FALSE NEIGHBOUR: 'it returns false'. Refute it at one input. -/
def fnExactRideForWrong : ChangeSpec := { name := "fnExactRideFor", fn := fun _ => fun
  | [d1, d2, d3] => { results := [.lit (.bool false)], args := [d1, d2, d3] }
  | _ => none }
def FnExactRideForWrongFalsely : Prop := fnExactRideForRow.holds Try.pinned (OpenSpec.ofChange fnExactRideForWrong)

/-- 'laws.FnExactWhereIsBus': WHATEVER THE INPUT: true; the input reads as it did. -/
def fnExactWhereIsBusSpec : ChangeSpec := { name := "fnExactWhereIsBus", fn := fun _ => fun
  | [d1, d2, d3] => { results := [.lit (.bool true)], args := [d1, d2, d3] }
  | _ => none }
def fnExactWhereIsBusRow : OpenClaim := { program := "ytjcapaoafkgkaaa", sum := "28608691d628056e95f0b060cbfb87fe8b22c86cf9e5ce106f147c478c7b7bf8", func := "loop.example/g01335/laws.FnExactWhereIsBus", spec := "fnExactWhereIsBus", apart := false }
def FnExactWhereIsBusSaid : Prop := fnExactWhereIsBusRow.holds Try.pinned (OpenSpec.ofChange fnExactWhereIsBusSpec)

/-- ITS FALSE NEIGHBOUR: 'it returns false'. Refute it at one input. -/
def fnExactWhereIsBusWrong : ChangeSpec := { name := "fnExactWhereIsBus", fn := fun _ => fun
  | [d1, d2, d3] => { results := [.lit (.bool false)], args := [d1, d2, d3] }
  | _ => none }
def FnExactWhereIsBusWrongFalsely : Prop := fnExactWhereIsBusRow.holds Try.pinned (OpenSpec.ofChange fnExactWhereIsBusWrong)

/-- 'laws.FnExactDropBus': WHATEVER THE INPUT: true; the input reads as it did. -/
def fnExactDropBusSpec : ChangeSpec := { name := "fnExactDropBus", fn := fun _ => fun
  | [d1, d2] => { results := [.lit (.bool true)], args := [d1, d2] }
  | _ => none }
def fnExactDropBusRow : OpenClaim := { program := "ytjcapaoafkgkaaa", sum := "28608691d628056e95f0b060cbfb87fe8b22c86cf9e5ce106f147c478c7b7bf8", func := "loop.example/g01335/laws.FnExactDropBus", spec := "fnExactDropBus", apart := false }
def FnExactDropBusSaid : Prop := fnExactDropBusRow.holds Try.pinned (OpenSpec.ofChange fnExactDropBusSpec)

/-- ITS FALSE NEIGHBOUR: 'it returns false'. Refute it at one input. -/
def fnExactDropBusWrong : ChangeSpec := { name := "fnExactDropBus", fn := fun _ => fun
  | [d1, d2] => { results := [.lit (.bool false)], args := [d1, d2] }
  | _ => none }
def FnExactDropBusWrongFalsely : Prop := fnExactDropBusRow.holds Try.pinned (OpenSpec.ofChange fnExactDropBusWrong)

/- THE SECOND FORM. 'bulk': how many values and letters a reading holds, each counted each time it is reached (what is shared counts as often as it is met; a slice's spare places count too). A statement '..UptoSaid' is the law's where the arguments, and the package variables that the reading takes, are together of bulk at most 1048576: NARROWER than '..Said'. Prove '..Said' where nothing that the law and all that it calls make is longer than what came in: it says more and counts as full. Else prove '..UptoSaid'. A law counts once. -/
mutual
def uptoBulk {H : Type} : DataW H → Nat
  | .lit (.string bytes) => bytes.length + 1
  | .lit _ => 1
  | .nil => 1
  | .ptr d => uptoBulk d + 1
  | .slice elems spare => uptoBulkAll elems + uptoBulkAll spare + 1
  | .agg parts => uptoBulkAll parts + 1
  | .iface _ d => uptoBulk d + 1
  | .map entries => uptoBulkEntries entries + 1
  | .held _ => 1
def uptoBulkAll {H : Type} : List (DataW H) → Nat
  | [] => 0
  | d :: r => uptoBulk d + uptoBulkAll r
def uptoBulkEntries {H : Type} : List (Lit × DataW H) → Nat
  | [] => 0
  | x :: r => uptoBulkEntry x + uptoBulkEntries r
def uptoBulkEntry {H : Type} : Lit × DataW H → Nat
  | (.string bytes, d) => bytes.length + uptoBulk d + 1
  | (_, d) => uptoBulk d + 1
 end
def uptoSmall : (H : Type) → List (DataW H) → Bool := fun _ ds => decide (uptoBulkAll ds ≤ 1048576)
def OpenSpec.upto (s : _root_.Go.ChangeSpec) : _root_.Go.OpenSpec := { _root_.Go.OpenSpec.ofChange s with cond := some uptoSmall }

/-- 'laws.FnExactIsLine', WHERE WHAT IT READS IS OF BULK AT MOST 1048576: true; the input reads as it did. -/
def fnExactIsLineUptoRow : OpenClaim := { program := "ytjcapaoafkgkaaa", sum := "28608691d628056e95f0b060cbfb87fe8b22c86cf9e5ce106f147c478c7b7bf8", func := "loop.example/g01335/laws.FnExactIsLine", spec := "fnExactIsLine", apart := false, narrowed := true }
def FnExactIsLineUptoSaid : Prop := fnExactIsLineUptoRow.holds Try.pinned (OpenSpec.upto fnExactIsLineSpec)

/-- 'laws.FnExactTimeAtStop', WHERE WHAT IT READS IS OF BULK AT MOST 1048576: true; the input reads as it did. -/
def fnExactTimeAtStopUptoRow : OpenClaim := { program := "ytjcapaoafkgkaaa", sum := "28608691d628056e95f0b060cbfb87fe8b22c86cf9e5ce106f147c478c7b7bf8", func := "loop.example/g01335/laws.FnExactTimeAtStop", spec := "fnExactTimeAtStop", apart := false, narrowed := true }
def FnExactTimeAtStopUptoSaid : Prop := fnExactTimeAtStopUptoRow.holds Try.pinned (OpenSpec.upto fnExactTimeAtStopSpec)

/-- 'laws.FnExactRideFor', WHERE WHAT IT READS IS OF BULK AT MOST 1048576: true; the input reads as it did. -/
def fnExactRideForUptoRow : OpenClaim := { program := "ytjcapaoafkgkaaa", sum := "28608691d628056e95f0b060cbfb87fe8b22c86cf9e5ce106f147c478c7b7bf8", func := "loop.example/g01335/laws.FnExactRideFor", spec := "fnExactRideFor", apart := false, narrowed := true }
def FnExactRideForUptoSaid : Prop := fnExactRideForUptoRow.holds Try.pinned (OpenSpec.upto fnExactRideForSpec)

/-- 'laws.FnExactWhereIsBus', WHERE WHAT IT READS IS OF BULK AT MOST 1048576: true; the input reads as it did. -/
def fnExactWhereIsBusUptoRow : OpenClaim := { program := "ytjcapaoafkgkaaa", sum := "28608691d628056e95f0b060cbfb87fe8b22c86cf9e5ce106f147c478c7b7bf8", func := "loop.example/g01335/laws.FnExactWhereIsBus", spec := "fnExactWhereIsBus", apart := false, narrowed := true }
def FnExactWhereIsBusUptoSaid : Prop := fnExactWhereIsBusUptoRow.holds Try.pinned (OpenSpec.upto fnExactWhereIsBusSpec)

/-- 'laws.FnExactDropBus', WHERE WHAT IT READS IS OF BULK AT MOST 1048576: true; the input reads as it did. -/
def fnExactDropBusUptoRow : OpenClaim := { program := "ytjcapaoafkgkaaa", sum := "28608691d628056e95f0b060cbfb87fe8b22c86cf9e5ce106f147c478c7b7bf8", func := "loop.example/g01335/laws.FnExactDropBus", spec := "fnExactDropBus", apart := false, narrowed := true }
def FnExactDropBusUptoSaid : Prop := fnExactDropBusUptoRow.holds Try.pinned (OpenSpec.upto fnExactDropBusSpec)

end Rows
end Go.Proofs.Ytjcapaoafkgkaaa
