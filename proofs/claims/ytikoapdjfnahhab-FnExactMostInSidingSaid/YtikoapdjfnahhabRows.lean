/-
  No cell of these rows narrows 'for every input' (looked for: loops, veiled, ifaces, maps, wideKeys, modest, calm, conditions, laid).
  DERIVED. THE GIVEN ROWS OF THIS SEAT. 4 by the template 'for every input the law returns true; each argument reads behind the call as it read before'; 0 by the template 'total and deterministic' (their statements: YtikoapdjfnahhabTotals.lean).
  GIVEN WITH THE SEED: the statements are not yours to turn. If you find one false, say at which input.
  Laid BY PROGRAM, IN A SANDBOX (cutbox-rows.mjs): the forced cells as the released guide's own fill.sh prints them over the translation 45366270cb860039… (all of the seat's roots in one cut). By AI agents, Wed Nov 11 2026. No macro, syntax, notation, axiom, sorry.
-/
import Derived.Test.YtikoapdjfnahhabChecked
import GoSem.Claim
import GoSem.ClaimJoined
import GoSem.ClaimMapViews
import Derived.JoinedTies
import Derived.KernelRfl
namespace Go.Proofs.Ytikoapdjfnahhab
/- THE CELL 'sum', in the pinned program and in every row, IS THE sha256 OF THE DUMP (.gsa) THAT YtikoapdjfnahhabProg.lean LOADS. Nothing in Lean hashes anything: it is a label: what it is worth is what the hold of that sum in a sandbox is worth. -/
noncomputable def Try.pinned : Pinned := { name := "ytikoapdjfnahhab", sum := "45366270cb860039f1f5de915ee92298a11f271e17b76a27d6b0fc6912d4d129", checked := Try.checked }
namespace Rows
def none {H : Type} : Left H := { results := [], args := [] }

/-- 'laws.FnExactMetAt': WHATEVER THE INPUT: true; the input reads as it did. -/
def fnExactMetAtSpec : ChangeSpec := { name := "fnExactMetAt", fn := fun _ => fun
  | [d1, d2, d3] => { results := [.lit (.bool true)], args := [d1, d2, d3] }
  | _ => none }
def fnExactMetAtRow : OpenClaim := { program := "ytikoapdjfnahhab", sum := "45366270cb860039f1f5de915ee92298a11f271e17b76a27d6b0fc6912d4d129", func := "loop.example/g01335/laws.FnExactMetAt", spec := "fnExactMetAt", apart := false }
def FnExactMetAtSaid : Prop := fnExactMetAtRow.holds Try.pinned (OpenSpec.ofChange fnExactMetAtSpec)

/-- ITS FALSE NEIGHBOUR: 'it returns false'. Refute it at one input. -/
def fnExactMetAtWrong : ChangeSpec := { name := "fnExactMetAt", fn := fun _ => fun
  | [d1, d2, d3] => { results := [.lit (.bool false)], args := [d1, d2, d3] }
  | _ => none }
def FnExactMetAtWrongFalsely : Prop := fnExactMetAtRow.holds Try.pinned (OpenSpec.ofChange fnExactMetAtWrong)

/-- 'laws.FnExactFitsSiding': WHATEVER THE INPUT: true; the input reads as it did. -/
def fnExactFitsSidingSpec : ChangeSpec := { name := "fnExactFitsSiding", fn := fun _ => fun
  | [d1, d2] => { results := [.lit (.bool true)], args := [d1, d2] }
  | _ => none }
def fnExactFitsSidingRow : OpenClaim := { program := "ytikoapdjfnahhab", sum := "45366270cb860039f1f5de915ee92298a11f271e17b76a27d6b0fc6912d4d129", func := "loop.example/g01335/laws.FnExactFitsSiding", spec := "fnExactFitsSiding", unfollowed := true, recurses := true, apart := false }
def FnExactFitsSidingSaid : Prop := fnExactFitsSidingRow.holds Try.pinned (OpenSpec.ofChange fnExactFitsSidingSpec)

/-- ITS FALSE NEIGHBOUR: 'it returns false'. Refute it at one input. -/
def fnExactFitsSidingWrong : ChangeSpec := { name := "fnExactFitsSiding", fn := fun _ => fun
  | [d1, d2] => { results := [.lit (.bool false)], args := [d1, d2] }
  | _ => none }
def FnExactFitsSidingWrongFalsely : Prop := fnExactFitsSidingRow.holds Try.pinned (OpenSpec.ofChange fnExactFitsSidingWrong)

/-- 'laws.FnExactMostInSiding': WHATEVER THE INPUT: true; the input reads as it did. -/
def fnExactMostInSidingSpec : ChangeSpec := { name := "fnExactMostInSiding", fn := fun _ => fun
  | [d1, d2] => { results := [.lit (.bool true)], args := [d1, d2] }
  | _ => none }
def fnExactMostInSidingRow : OpenClaim := { program := "ytikoapdjfnahhab", sum := "45366270cb860039f1f5de915ee92298a11f271e17b76a27d6b0fc6912d4d129", func := "loop.example/g01335/laws.FnExactMostInSiding", spec := "fnExactMostInSiding", unfollowed := true, recurses := true, apart := false }
def FnExactMostInSidingSaid : Prop := fnExactMostInSidingRow.holds Try.pinned (OpenSpec.ofChange fnExactMostInSidingSpec)

/-- ITS FALSE NEIGHBOUR: 'it returns false'. Refute it at one input. -/
def fnExactMostInSidingWrong : ChangeSpec := { name := "fnExactMostInSiding", fn := fun _ => fun
  | [d1, d2] => { results := [.lit (.bool false)], args := [d1, d2] }
  | _ => none }
def FnExactMostInSidingWrongFalsely : Prop := fnExactMostInSidingRow.holds Try.pinned (OpenSpec.ofChange fnExactMostInSidingWrong)

/-- 'laws.FnExactLeastHeadway': WHATEVER THE INPUT: true; the input reads as it did. -/
def fnExactLeastHeadwaySpec : ChangeSpec := { name := "fnExactLeastHeadway", fn := fun _ => fun
  | [d1, d2, d3] => { results := [.lit (.bool true)], args := [d1, d2, d3] }
  | _ => none }
def fnExactLeastHeadwayRow : OpenClaim := { program := "ytikoapdjfnahhab", sum := "45366270cb860039f1f5de915ee92298a11f271e17b76a27d6b0fc6912d4d129", func := "loop.example/g01335/laws.FnExactLeastHeadway", spec := "fnExactLeastHeadway", apart := false }
def FnExactLeastHeadwaySaid : Prop := fnExactLeastHeadwayRow.holds Try.pinned (OpenSpec.ofChange fnExactLeastHeadwaySpec)

/-- ITS FALSE NEIGHBOUR: 'it returns false'. Refute it at one input. -/
def fnExactLeastHeadwayWrong : ChangeSpec := { name := "fnExactLeastHeadway", fn := fun _ => fun
  | [d1, d2, d3] => { results := [.lit (.bool false)], args := [d1, d2, d3] }
  | _ => none }
def FnExactLeastHeadwayWrongFalsely : Prop := fnExactLeastHeadwayRow.holds Try.pinned (OpenSpec.ofChange fnExactLeastHeadwayWrong)

/- THE SECOND FORM. 'bulk': how many values and letters a reading holds, each counted each time it is reached (what is shared counts as often as it is met; a slice's spare places count too). A statement '..UptoSaid' is the law's where the arguments, and the package variables that the reading takes, are together of bulk at most 1048576: NARROWER than '..Said'. Prove '..Said' where nothing that the law and all that it calls make is longer than what came in: it says more and counts as full. Else prove '..UptoSaid'. A law counts once. -/
mutual
def uptoBulk {H : Type} : DataW H → Nat
  | .lit (.string bytes) => bytes.length + 1
  | .lit _ => 1
  | .nil => 1
  | .ptr d => uptoBulk d + 1
  | .slice elems spare => uptoBulkAll elems + uptoBulkAll spare + 1
  | .agg parts => uptoBulkAll parts + 1
  | .iface _ d => uptoBulk d + 1
  | .map entries => uptoBulkEntries entries + 1
  | .held _ => 1
def uptoBulkAll {H : Type} : List (DataW H) → Nat
  | [] => 0
  | d :: r => uptoBulk d + uptoBulkAll r
def uptoBulkEntries {H : Type} : List (Lit × DataW H) → Nat
  | [] => 0
  | x :: r => uptoBulkEntry x + uptoBulkEntries r
def uptoBulkEntry {H : Type} : Lit × DataW H → Nat
  | (.string bytes, d) => bytes.length + uptoBulk d + 1
  | (_, d) => uptoBulk d + 1
 end
def uptoSmall : (H : Type) → List (DataW H) → Bool := fun _ ds => decide (uptoBulkAll ds ≤ 1048576)
def OpenSpec.upto (s : _root_.Go.ChangeSpec) : _root_.Go.OpenSpec := { _root_.Go.OpenSpec.ofChange s with cond := some uptoSmall }

/-- 'laws.FnExactMetAt', WHERE WHAT IT READS IS OF BULK AT MOST 1048576: true; the input reads as it did. -/
def fnExactMetAtUptoRow : OpenClaim := { program := "ytikoapdjfnahhab", sum := "45366270cb860039f1f5de915ee92298a11f271e17b76a27d6b0fc6912d4d129", func := "loop.example/g01335/laws.FnExactMetAt", spec := "fnExactMetAt", apart := false, narrowed := true }
def FnExactMetAtUptoSaid : Prop := fnExactMetAtUptoRow.holds Try.pinned (OpenSpec.upto fnExactMetAtSpec)

/-- 'laws.FnExactFitsSiding', WHERE WHAT IT READS IS OF BULK AT MOST 1048576: true; the input reads as it did. -/
def fnExactFitsSidingUptoRow : OpenClaim := { program := "ytikoapdjfnahhab", sum := "45366270cb860039f1f5de915ee92298a11f271e17b76a27d6b0fc6912d4d129", func := "loop.example/g01335/laws.FnExactFitsSiding", spec := "fnExactFitsSiding", unfollowed := true, recurses := true, apart := false, narrowed := true }
def FnExactFitsSidingUptoSaid : Prop := fnExactFitsSidingUptoRow.holds Try.pinned (OpenSpec.upto fnExactFitsSidingSpec)

/-- 'laws.FnExactMostInSiding', WHERE WHAT IT READS IS OF BULK AT MOST 1048576: true; the input reads as it did. -/
def fnExactMostInSidingUptoRow : OpenClaim := { program := "ytikoapdjfnahhab", sum := "45366270cb860039f1f5de915ee92298a11f271e17b76a27d6b0fc6912d4d129", func := "loop.example/g01335/laws.FnExactMostInSiding", spec := "fnExactMostInSiding", unfollowed := true, recurses := true, apart := false, narrowed := true }
def FnExactMostInSidingUptoSaid : Prop := fnExactMostInSidingUptoRow.holds Try.pinned (OpenSpec.upto fnExactMostInSidingSpec)

/-- 'laws.FnExactLeastHeadway', WHERE WHAT IT READS IS OF BULK AT MOST 1048576: true; the input reads as it did. -/
def fnExactLeastHeadwayUptoRow : OpenClaim := { program := "ytikoapdjfnahhab", sum := "45366270cb860039f1f5de915ee92298a11f271e17b76a27d6b0fc6912d4d129", func := "loop.example/g01335/laws.FnExactLeastHeadway", spec := "fnExactLeastHeadway", apart := false, narrowed := true }
def FnExactLeastHeadwayUptoSaid : Prop := fnExactLeastHeadwayUptoRow.holds Try.pinned (OpenSpec.upto fnExactLeastHeadwaySpec)

end Rows
end Go.Proofs.Ytikoapdjfnahhab
