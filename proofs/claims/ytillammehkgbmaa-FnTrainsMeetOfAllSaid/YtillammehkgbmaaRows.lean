/-
  No cell of these rows narrows 'for every input' (looked for: loops, veiled, ifaces, maps, wideKeys, modest, calm, conditions, laid).
  DERIVED. THE GIVEN ROWS OF THIS SEAT. 2 by the template 'for every input the law returns true; each argument reads behind the call as it read before'; 0 by the template 'total and deterministic' (their statements: YtillammehkgbmaaTotals.lean).
  GIVEN WITH THE SEED: the statements are not yours to turn. If you find one false, say at which input.
  Laid BY PROGRAM, IN A SANDBOX (cutbox-rows.mjs): the forced cells as the released guide's own fill.sh prints them over the translation 8e1d346f7d69c761… (all of the seat's roots in one cut). By AI agents, Wed Nov 11 2026. No macro, syntax, notation, axiom, sorry.
-/
import Derived.Test.YtillammehkgbmaaChecked
import GoSem.Claim
import GoSem.ClaimJoined
import GoSem.ClaimMapViews
import Derived.JoinedTies
import Derived.KernelRfl
namespace Go.Proofs.Ytillammehkgbmaa
/- THE CELL 'sum', in the pinned program and in every row, IS THE sha256 OF THE DUMP (.gsa) THAT YtillammehkgbmaaProg.lean LOADS. Nothing in Lean hashes anything: it is a label: what it is worth is what the hold of that sum in a sandbox is worth. -/
noncomputable def Try.pinned : Pinned := { name := "ytillammehkgbmaa", sum := "8e1d346f7d69c761048dda95bd26a48c5d0c2444421c04b886561e1ee3ed115c", checked := Try.checked }
namespace Rows
def none {H : Type} : Left H := { results := [], args := [] }

/-- 'laws.FnTrainsMeetOfAll': WHATEVER THE INPUT: true; the input reads as it did. -/
def fnTrainsMeetOfAllSpec : ChangeSpec := { name := "fnTrainsMeetOfAll", fn := fun _ => fun
  | [d1, d2, d3, d4, d5, d6, d7, d8, d9, d10, d11] => { results := [.lit (.bool true)], args := [d1, d2, d3, d4, d5, d6, d7, d8, d9, d10, d11] }
  | _ => none }
def fnTrainsMeetOfAllRow : OpenClaim := { program := "ytillammehkgbmaa", sum := "8e1d346f7d69c761048dda95bd26a48c5d0c2444421c04b886561e1ee3ed115c", func := "loop.example/g01335/laws.FnTrainsMeetOfAll", spec := "fnTrainsMeetOfAll", unfollowed := true, recurses := true, apart := false }
def FnTrainsMeetOfAllSaid : Prop := fnTrainsMeetOfAllRow.holds Try.pinned (OpenSpec.ofChange fnTrainsMeetOfAllSpec)

/-- ITS FALSE NEIGHBOUR: 'it returns false'. Refute it at one input. -/
def fnTrainsMeetOfAllWrong : ChangeSpec := { name := "fnTrainsMeetOfAll", fn := fun _ => fun
  | [d1, d2, d3, d4, d5, d6, d7, d8, d9, d10, d11] => { results := [.lit (.bool false)], args := [d1, d2, d3, d4, d5, d6, d7, d8, d9, d10, d11] }
  | _ => none }
def FnTrainsMeetOfAllWrongFalsely : Prop := fnTrainsMeetOfAllRow.holds Try.pinned (OpenSpec.ofChange fnTrainsMeetOfAllWrong)

/-- 'laws.FnSnailsHiddenOfAll': WHATEVER THE INPUT: true; the input reads as it did. -/
def fnSnailsHiddenOfAllSpec : ChangeSpec := { name := "fnSnailsHiddenOfAll", fn := fun _ => fun
  | [d1, d2, d3, d4, d5, d6, d7, d8, d9, d10, d11] => { results := [.lit (.bool true)], args := [d1, d2, d3, d4, d5, d6, d7, d8, d9, d10, d11] }
  | _ => none }
def fnSnailsHiddenOfAllRow : OpenClaim := { program := "ytillammehkgbmaa", sum := "8e1d346f7d69c761048dda95bd26a48c5d0c2444421c04b886561e1ee3ed115c", func := "loop.example/g01335/laws.FnSnailsHiddenOfAll", spec := "fnSnailsHiddenOfAll", unfollowed := true, recurses := true, apart := false }
def FnSnailsHiddenOfAllSaid : Prop := fnSnailsHiddenOfAllRow.holds Try.pinned (OpenSpec.ofChange fnSnailsHiddenOfAllSpec)

/-- ITS FALSE NEIGHBOUR: 'it returns false'. Refute it at one input. -/
def fnSnailsHiddenOfAllWrong : ChangeSpec := { name := "fnSnailsHiddenOfAll", fn := fun _ => fun
  | [d1, d2, d3, d4, d5, d6, d7, d8, d9, d10, d11] => { results := [.lit (.bool false)], args := [d1, d2, d3, d4, d5, d6, d7, d8, d9, d10, d11] }
  | _ => none }
def FnSnailsHiddenOfAllWrongFalsely : Prop := fnSnailsHiddenOfAllRow.holds Try.pinned (OpenSpec.ofChange fnSnailsHiddenOfAllWrong)

/- THE SECOND FORM. 'bulk': how many values and letters a reading holds, each counted each time it is reached (what is shared counts as often as it is met; a slice's spare places count too). A statement '..UptoSaid' is the law's where the arguments, and the package variables that the reading takes, are together of bulk at most 1048576: NARROWER than '..Said'. Prove '..Said' where nothing that the law and all that it calls make is longer than what came in: it says more and counts as full. Else prove '..UptoSaid'. A law counts once. -/
mutual
def uptoBulk {H : Type} : DataW H → Nat
  | .lit (.string bytes) => bytes.length + 1
  | .lit _ => 1
  | .nil => 1
  | .ptr d => uptoBulk d + 1
  | .slice elems spare => uptoBulkAll elems + uptoBulkAll spare + 1
  | .agg parts => uptoBulkAll parts + 1
  | .iface _ d => uptoBulk d + 1
  | .map entries => uptoBulkEntries entries + 1
  | .held _ => 1
def uptoBulkAll {H : Type} : List (DataW H) → Nat
  | [] => 0
  | d :: r => uptoBulk d + uptoBulkAll r
def uptoBulkEntries {H : Type} : List (Lit × DataW H) → Nat
  | [] => 0
  | x :: r => uptoBulkEntry x + uptoBulkEntries r
def uptoBulkEntry {H : Type} : Lit × DataW H → Nat
  | (.string bytes, d) => bytes.length + uptoBulk d + 1
  | (_, d) => uptoBulk d + 1
 end
def uptoSmall : (H : Type) → List (DataW H) → Bool := fun _ ds => decide (uptoBulkAll ds ≤ 1048576)
def OpenSpec.upto (s : _root_.Go.ChangeSpec) : _root_.Go.OpenSpec := { _root_.Go.OpenSpec.ofChange s with cond := some uptoSmall }

/-- 'laws.FnTrainsMeetOfAll', WHERE WHAT IT READS IS OF BULK AT MOST 1048576: true; the input reads as it did. -/
def fnTrainsMeetOfAllUptoRow : OpenClaim := { program := "ytillammehkgbmaa", sum := "8e1d346f7d69c761048dda95bd26a48c5d0c2444421c04b886561e1ee3ed115c", func := "loop.example/g01335/laws.FnTrainsMeetOfAll", spec := "fnTrainsMeetOfAll", unfollowed := true, recurses := true, apart := false, narrowed := true }
def FnTrainsMeetOfAllUptoSaid : Prop := fnTrainsMeetOfAllUptoRow.holds Try.pinned (OpenSpec.upto fnTrainsMeetOfAllSpec)

/-- 'laws.FnSnailsHiddenOfAll', WHERE WHAT IT READS IS OF BULK AT MOST 1048576: true; the input reads as it did. -/
def fnSnailsHiddenOfAllUptoRow : OpenClaim := { program := "ytillammehkgbmaa", sum := "8e1d346f7d69c761048dda95bd26a48c5d0c2444421c04b886561e1ee3ed115c", func := "loop.example/g01335/laws.FnSnailsHiddenOfAll", spec := "fnSnailsHiddenOfAll", unfollowed := true, recurses := true, apart := false, narrowed := true }
def FnSnailsHiddenOfAllUptoSaid : Prop := fnSnailsHiddenOfAllUptoRow.holds Try.pinned (OpenSpec.upto fnSnailsHiddenOfAllSpec)

end Rows
end Go.Proofs.Ytillammehkgbmaa
