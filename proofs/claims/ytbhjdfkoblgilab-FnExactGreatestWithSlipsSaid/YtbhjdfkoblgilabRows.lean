/-
  No cell of these rows narrows 'for every input' (looked for: loops, veiled, ifaces, maps, wideKeys, modest, calm, conditions, laid).
  DERIVED. THE GIVEN ROWS OF THIS SEAT. 4 by the template 'for every input the law returns true; each argument reads behind the call as it read before'; 0 by the template 'total and deterministic' (their statements: YtbhjdfkoblgilabTotals.lean).
  GIVEN WITH THE SEED: the statements are not yours to turn. If you find one false, say at which input.
  Laid BY PROGRAM, IN A SANDBOX (cutbox-rows.mjs): the forced cells as the released guide's own fill.sh prints them over the translation 510ce22fb27b8de8… (all of the seat's roots in one cut). By AI agents, Wed Nov 11 2026. No macro, syntax, notation, axiom, sorry.
-/
import Derived.Test.YtbhjdfkoblgilabChecked
import GoSem.Claim
import GoSem.ClaimJoined
import GoSem.ClaimMapViews
import Derived.JoinedTies
import Derived.KernelRfl
namespace Go.Proofs.Ytbhjdfkoblgilab
/- THE CELL 'sum', in the pinned program and in every row, IS THE sha256 OF THE DUMP (.gsa) THAT YtbhjdfkoblgilabProg.lean LOADS. Nothing in Lean hashes anything: it is a label: what it is worth is what the hold of that sum in a sandbox is worth. -/
noncomputable def Try.pinned : Pinned := { name := "ytbhjdfkoblgilab", sum := "510ce22fb27b8de86496f298bfa9a6338786c6b129d7b0b6155e404bb0018233", checked := Try.checked }
namespace Rows
def none {H : Type} : Left H := { results := [], args := [] }

/-- 'laws.FnExactLeadChanges': WHATEVER THE INPUT: true; the input reads as it did. -/
def fnExactLeadChangesSpec : ChangeSpec := { name := "fnExactLeadChanges", fn := fun _ => fun
  | [d1, d2, d3] => { results := [.lit (.bool true)], args := [d1, d2, d3] }
  | _ => none }
def fnExactLeadChangesRow : OpenClaim := { program := "ytbhjdfkoblgilab", sum := "510ce22fb27b8de86496f298bfa9a6338786c6b129d7b0b6155e404bb0018233", func := "loop.example/g01335/laws.FnExactLeadChanges", spec := "fnExactLeadChanges", apart := false }
def FnExactLeadChangesSaid : Prop := fnExactLeadChangesRow.holds Try.pinned (OpenSpec.ofChange fnExactLeadChangesSpec)

/-- ITS FALSE NEIGHBOUR: 'it returns false'. Refute it at one input. -/
def fnExactLeadChangesWrong : ChangeSpec := { name := "fnExactLeadChanges", fn := fun _ => fun
  | [d1, d2, d3] => { results := [.lit (.bool false)], args := [d1, d2, d3] }
  | _ => none }
def FnExactLeadChangesWrongFalsely : Prop := fnExactLeadChangesRow.holds Try.pinned (OpenSpec.ofChange fnExactLeadChangesWrong)

/-- 'laws.FnExactDaysWithSlips': WHATEVER THE INPUT: true; the input reads as it did. -/
def fnExactDaysWithSlipsSpec : ChangeSpec := { name := "fnExactDaysWithSlips", fn := fun _ => fun
  | [d1, d2, d3] => { results := [.lit (.bool true)], args := [d1, d2, d3] }
  | _ => none }
def fnExactDaysWithSlipsRow : OpenClaim := { program := "ytbhjdfkoblgilab", sum := "510ce22fb27b8de86496f298bfa9a6338786c6b129d7b0b6155e404bb0018233", func := "loop.example/g01335/laws.FnExactDaysWithSlips", spec := "fnExactDaysWithSlips", apart := false }
def FnExactDaysWithSlipsSaid : Prop := fnExactDaysWithSlipsRow.holds Try.pinned (OpenSpec.ofChange fnExactDaysWithSlipsSpec)

/-- ITS FALSE NEIGHBOUR: 'it returns false'. Refute it at one input. -/
def fnExactDaysWithSlipsWrong : ChangeSpec := { name := "fnExactDaysWithSlips", fn := fun _ => fun
  | [d1, d2, d3] => { results := [.lit (.bool false)], args := [d1, d2, d3] }
  | _ => none }
def FnExactDaysWithSlipsWrongFalsely : Prop := fnExactDaysWithSlipsRow.holds Try.pinned (OpenSpec.ofChange fnExactDaysWithSlipsWrong)

/-- 'laws.FnExactHeightsWithSlips': WHATEVER THE INPUT: true; the input reads as it did. -/
def fnExactHeightsWithSlipsSpec : ChangeSpec := { name := "fnExactHeightsWithSlips", fn := fun _ => fun
  | [d1, d2, d3, d4] => { results := [.lit (.bool true)], args := [d1, d2, d3, d4] }
  | _ => none }
def fnExactHeightsWithSlipsRow : OpenClaim := { program := "ytbhjdfkoblgilab", sum := "510ce22fb27b8de86496f298bfa9a6338786c6b129d7b0b6155e404bb0018233", func := "loop.example/g01335/laws.FnExactHeightsWithSlips", spec := "fnExactHeightsWithSlips", apart := false }
def FnExactHeightsWithSlipsSaid : Prop := fnExactHeightsWithSlipsRow.holds Try.pinned (OpenSpec.ofChange fnExactHeightsWithSlipsSpec)

/-- ITS FALSE NEIGHBOUR: 'it returns false'. Refute it at one input. -/
def fnExactHeightsWithSlipsWrong : ChangeSpec := { name := "fnExactHeightsWithSlips", fn := fun _ => fun
  | [d1, d2, d3, d4] => { results := [.lit (.bool false)], args := [d1, d2, d3, d4] }
  | _ => none }
def FnExactHeightsWithSlipsWrongFalsely : Prop := fnExactHeightsWithSlipsRow.holds Try.pinned (OpenSpec.ofChange fnExactHeightsWithSlipsWrong)

/-- 'laws.FnExactGreatestWithSlips': WHATEVER THE INPUT: true; the input reads as it did. -/
def fnExactGreatestWithSlipsSpec : ChangeSpec := { name := "fnExactGreatestWithSlips", fn := fun _ => fun
  | [d1, d2, d3] => { results := [.lit (.bool true)], args := [d1, d2, d3] }
  | _ => none }
def fnExactGreatestWithSlipsRow : OpenClaim := { program := "ytbhjdfkoblgilab", sum := "510ce22fb27b8de86496f298bfa9a6338786c6b129d7b0b6155e404bb0018233", func := "loop.example/g01335/laws.FnExactGreatestWithSlips", spec := "fnExactGreatestWithSlips", apart := false }
def FnExactGreatestWithSlipsSaid : Prop := fnExactGreatestWithSlipsRow.holds Try.pinned (OpenSpec.ofChange fnExactGreatestWithSlipsSpec)

/-- ITS FALSE NEIGHBOUR: 'it returns false'. Refute it at one input. -/
def fnExactGreatestWithSlipsWrong : ChangeSpec := { name := "fnExactGreatestWithSlips", fn := fun _ => fun
  | [d1, d2, d3] => { results := [.lit (.bool false)], args := [d1, d2, d3] }
  | _ => none }
def FnExactGreatestWithSlipsWrongFalsely : Prop := fnExactGreatestWithSlipsRow.holds Try.pinned (OpenSpec.ofChange fnExactGreatestWithSlipsWrong)

/- THE SECOND FORM. 'bulk': how many values and letters a reading holds, each counted each time it is reached (what is shared counts as often as it is met; a slice's spare places count too). A statement '..UptoSaid' is the law's where the arguments, and the package variables that the reading takes, are together of bulk at most 1048576: NARROWER than '..Said'. Prove '..Said' where nothing that the law and all that it calls make is longer than what came in: it says more and counts as full. Else prove '..UptoSaid'. A law counts once. -/
mutual
def uptoBulk {H : Type} : DataW H → Nat
  | .lit (.string bytes) => bytes.length + 1
  | .lit _ => 1
  | .nil => 1
  | .ptr d => uptoBulk d + 1
  | .slice elems spare => uptoBulkAll elems + uptoBulkAll spare + 1
  | .agg parts => uptoBulkAll parts + 1
  | .iface _ d => uptoBulk d + 1
  | .map entries => uptoBulkEntries entries + 1
  | .held _ => 1
def uptoBulkAll {H : Type} : List (DataW H) → Nat
  | [] => 0
  | d :: r => uptoBulk d + uptoBulkAll r
def uptoBulkEntries {H : Type} : List (Lit × DataW H) → Nat
  | [] => 0
  | x :: r => uptoBulkEntry x + uptoBulkEntries r
def uptoBulkEntry {H : Type} : Lit × DataW H → Nat
  | (.string bytes, d) => bytes.length + uptoBulk d + 1
  | (_, d) => uptoBulk d + 1
 end
def uptoSmall : (H : Type) → List (DataW H) → Bool := fun _ ds => decide (uptoBulkAll ds ≤ 1048576)
def OpenSpec.upto (s : _root_.Go.ChangeSpec) : _root_.Go.OpenSpec := { _root_.Go.OpenSpec.ofChange s with cond := some uptoSmall }

/-- 'laws.FnExactLeadChanges', WHERE WHAT IT READS IS OF BULK AT MOST 1048576: true; the input reads as it did. -/
def fnExactLeadChangesUptoRow : OpenClaim := { program := "ytbhjdfkoblgilab", sum := "510ce22fb27b8de86496f298bfa9a6338786c6b129d7b0b6155e404bb0018233", func := "loop.example/g01335/laws.FnExactLeadChanges", spec := "fnExactLeadChanges", apart := false, narrowed := true }
def FnExactLeadChangesUptoSaid : Prop := fnExactLeadChangesUptoRow.holds Try.pinned (OpenSpec.upto fnExactLeadChangesSpec)

/-- 'laws.FnExactDaysWithSlips', WHERE WHAT IT READS IS OF BULK AT MOST 1048576: true; the input reads as it did. -/
def fnExactDaysWithSlipsUptoRow : OpenClaim := { program := "ytbhjdfkoblgilab", sum := "510ce22fb27b8de86496f298bfa9a6338786c6b129d7b0b6155e404bb0018233", func := "loop.example/g01335/laws.FnExactDaysWithSlips", spec := "fnExactDaysWithSlips", apart := false, narrowed := true }
def FnExactDaysWithSlipsUptoSaid : Prop := fnExactDaysWithSlipsUptoRow.holds Try.pinned (OpenSpec.upto fnExactDaysWithSlipsSpec)

/-- 'laws.FnExactHeightsWithSlips', WHERE WHAT IT READS IS OF BULK AT MOST 1048576: true; the input reads as it did. -/
def fnExactHeightsWithSlipsUptoRow : OpenClaim := { program := "ytbhjdfkoblgilab", sum := "510ce22fb27b8de86496f298bfa9a6338786c6b129d7b0b6155e404bb0018233", func := "loop.example/g01335/laws.FnExactHeightsWithSlips", spec := "fnExactHeightsWithSlips", apart := false, narrowed := true }
def FnExactHeightsWithSlipsUptoSaid : Prop := fnExactHeightsWithSlipsUptoRow.holds Try.pinned (OpenSpec.upto fnExactHeightsWithSlipsSpec)

/-- 'laws.FnExactGreatestWithSlips', WHERE WHAT IT READS IS OF BULK AT MOST 1048576: true; the input reads as it did. -/
def fnExactGreatestWithSlipsUptoRow : OpenClaim := { program := "ytbhjdfkoblgilab", sum := "510ce22fb27b8de86496f298bfa9a6338786c6b129d7b0b6155e404bb0018233", func := "loop.example/g01335/laws.FnExactGreatestWithSlips", spec := "fnExactGreatestWithSlips", apart := false, narrowed := true }
def FnExactGreatestWithSlipsUptoSaid : Prop := fnExactGreatestWithSlipsUptoRow.holds Try.pinned (OpenSpec.upto fnExactGreatestWithSlipsSpec)

end Rows
end Go.Proofs.Ytbhjdfkoblgilab
