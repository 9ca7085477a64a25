/-
  No cell of these rows narrows 'for every input' (looked for: loops, veiled, ifaces, maps, wideKeys, modest, calm, conditions, laid).
  DERIVED. THE GIVEN ROWS OF THIS SEAT. 11 by the template 'for every input the law returns true; each argument reads behind the call as it read before'; 0 by the template 'total and deterministic' (their statements: YtiidggbllcmppaaTotals.lean).
  GIVEN WITH THE SEED: the statements are not yours to turn. If you find one false, say at which input.
  Laid BY PROGRAM, IN A SANDBOX (cutbox-rows.mjs): the forced cells as the released guide's own fill.sh prints them over the translation 7036c5a9c33cbfe6… (all of the seat's roots in one cut). By AI agents, Wed Nov 11 2026. No macro, syntax, notation, axiom, sorry.
-/
import Derived.Test.YtiidggbllcmppaaChecked
import GoSem.Claim
import GoSem.ClaimJoined
import GoSem.ClaimMapViews
import Derived.JoinedTies
import Derived.KernelRfl
namespace Go.Proofs.Ytiidggbllcmppaa
/- THE CELL 'sum', in the pinned program and in every row, IS THE sha256 OF THE DUMP (.gsa) THAT YtiidggbllcmppaaProg.lean LOADS. Nothing in Lean hashes anything: it is a label: what it is worth is what the hold of that sum in a sandbox is worth. -/
noncomputable def Try.pinned : Pinned := { name := "ytiidggbllcmppaa", sum := "7036c5a9c33cbfe69c42ac199966ecff951a78530842fa8ed4fe160bfed63011", checked := Try.checked }
namespace Rows
def none {H : Type} : Left H := { results := [], args := [] }

/-- 'laws.FnExactCountTogether': WHATEVER THE INPUT: true; the input reads as it did. -/
def fnExactCountTogetherSpec : ChangeSpec := { name := "fnExactCountTogether", fn := fun _ => fun
  | [d1, d2, d3] => { results := [.lit (.bool true)], args := [d1, d2, d3] }
  | _ => none }
def fnExactCountTogetherRow : OpenClaim := { program := "ytiidggbllcmppaa", sum := "7036c5a9c33cbfe69c42ac199966ecff951a78530842fa8ed4fe160bfed63011", func := "loop.example/g01335/laws.FnExactCountTogether", spec := "fnExactCountTogether", apart := false }
def FnExactCountTogetherSaid : Prop := fnExactCountTogetherRow.holds Try.pinned (OpenSpec.ofChange fnExactCountTogetherSpec)

/-- ITS FALSE NEIGHBOUR: 'it returns false'. Refute it at one input. -/
def fnExactCountTogetherWrong : ChangeSpec := { name := "fnExactCountTogether", fn := fun _ => fun
  | [d1, d2, d3] => { results := [.lit (.bool false)], args := [d1, d2, d3] }
  | _ => none }
def FnExactCountTogetherWrongFalsely : Prop := fnExactCountTogetherRow.holds Try.pinned (OpenSpec.ofChange fnExactCountTogetherWrong)

/-- 'laws.FnExactChanceTogether': WHATEVER THE INPUT: true; the input reads as it did. -/
def fnExactChanceTogetherSpec : ChangeSpec := { name := "fnExactChanceTogether", fn := fun _ => fun
  | [d1, d2, d3] => { results := [.lit (.bool true)], args := [d1, d2, d3] }
  | _ => none }
def fnExactChanceTogetherRow : OpenClaim := { program := "ytiidggbllcmppaa", sum := "7036c5a9c33cbfe69c42ac199966ecff951a78530842fa8ed4fe160bfed63011", func := "loop.example/g01335/laws.FnExactChanceTogether", spec := "fnExactChanceTogether", apart := false }
def FnExactChanceTogetherSaid : Prop := fnExactChanceTogetherRow.holds Try.pinned (OpenSpec.ofChange fnExactChanceTogetherSpec)

/-- ITS FALSE NEIGHBOUR: 'it returns false'. Refute it at one input. -/
def fnExactChanceTogetherWrong : ChangeSpec := { name := "fnExactChanceTogether", fn := fun _ => fun
  | [d1, d2, d3] => { results := [.lit (.bool false)], args := [d1, d2, d3] }
  | _ => none }
def FnExactChanceTogetherWrongFalsely : Prop := fnExactChanceTogetherRow.holds Try.pinned (OpenSpec.ofChange fnExactChanceTogetherWrong)

/-- 'laws.FnExactEvenChance': WHATEVER THE INPUT: true; the input reads as it did. -/
def fnExactEvenChanceSpec : ChangeSpec := { name := "fnExactEvenChance", fn := fun _ => fun
  | [d1, d2] => { results := [.lit (.bool true)], args := [d1, d2] }
  | _ => none }
def fnExactEvenChanceRow : OpenClaim := { program := "ytiidggbllcmppaa", sum := "7036c5a9c33cbfe69c42ac199966ecff951a78530842fa8ed4fe160bfed63011", func := "loop.example/g01335/laws.FnExactEvenChance", spec := "fnExactEvenChance", apart := false }
def FnExactEvenChanceSaid : Prop := fnExactEvenChanceRow.holds Try.pinned (OpenSpec.ofChange fnExactEvenChanceSpec)

/-- ITS FALSE NEIGHBOUR: 'it returns false'. Refute it at one input. -/
def fnExactEvenChanceWrong : ChangeSpec := { name := "fnExactEvenChance", fn := fun _ => fun
  | [d1, d2] => { results := [.lit (.bool false)], args := [d1, d2] }
  | _ => none }
def FnExactEvenChanceWrongFalsely : Prop := fnExactEvenChanceRow.holds Try.pinned (OpenSpec.ofChange fnExactEvenChanceWrong)

/-- 'laws.FnExactChanceOfStays': WHATEVER THE INPUT: true; the input reads as it did. -/
def fnExactChanceOfStaysSpec : ChangeSpec := { name := "fnExactChanceOfStays", fn := fun _ => fun
  | [d1, d2, d3] => { results := [.lit (.bool true)], args := [d1, d2, d3] }
  | _ => none }
def fnExactChanceOfStaysRow : OpenClaim := { program := "ytiidggbllcmppaa", sum := "7036c5a9c33cbfe69c42ac199966ecff951a78530842fa8ed4fe160bfed63011", func := "loop.example/g01335/laws.FnExactChanceOfStays", spec := "fnExactChanceOfStays", apart := false }
def FnExactChanceOfStaysSaid : Prop := fnExactChanceOfStaysRow.holds Try.pinned (OpenSpec.ofChange fnExactChanceOfStaysSpec)

/-- ITS FALSE NEIGHBOUR: 'it returns false'. Refute it at one input. -/
def fnExactChanceOfStaysWrong : ChangeSpec := { name := "fnExactChanceOfStays", fn := fun _ => fun
  | [d1, d2, d3] => { results := [.lit (.bool false)], args := [d1, d2, d3] }
  | _ => none }
def FnExactChanceOfStaysWrongFalsely : Prop := fnExactChanceOfStaysRow.holds Try.pinned (OpenSpec.ofChange fnExactChanceOfStaysWrong)

/-- 'laws.FnExactLeastStay': WHATEVER THE INPUT: true; the input reads as it did. -/
def fnExactLeastStaySpec : ChangeSpec := { name := "fnExactLeastStay", fn := fun _ => fun
  | [d1, d2, d3] => { results := [.lit (.bool true)], args := [d1, d2, d3] }
  | _ => none }
def fnExactLeastStayRow : OpenClaim := { program := "ytiidggbllcmppaa", sum := "7036c5a9c33cbfe69c42ac199966ecff951a78530842fa8ed4fe160bfed63011", func := "loop.example/g01335/laws.FnExactLeastStay", spec := "fnExactLeastStay", apart := false }
def FnExactLeastStaySaid : Prop := fnExactLeastStayRow.holds Try.pinned (OpenSpec.ofChange fnExactLeastStaySpec)

/-- ITS FALSE NEIGHBOUR: 'it returns false'. Refute it at one input. -/
def fnExactLeastStayWrong : ChangeSpec := { name := "fnExactLeastStay", fn := fun _ => fun
  | [d1, d2, d3] => { results := [.lit (.bool false)], args := [d1, d2, d3] }
  | _ => none }
def FnExactLeastStayWrongFalsely : Prop := fnExactLeastStayRow.holds Try.pinned (OpenSpec.ofChange fnExactLeastStayWrong)

/-- 'laws.FnExactCountAllWithin': WHATEVER THE INPUT: true; the input reads as it did. -/
def fnExactCountAllWithinSpec : ChangeSpec := { name := "fnExactCountAllWithin", fn := fun _ => fun
  | [d1, d2, d3] => { results := [.lit (.bool true)], args := [d1, d2, d3] }
  | _ => none }
def fnExactCountAllWithinRow : OpenClaim := { program := "ytiidggbllcmppaa", sum := "7036c5a9c33cbfe69c42ac199966ecff951a78530842fa8ed4fe160bfed63011", func := "loop.example/g01335/laws.FnExactCountAllWithin", spec := "fnExactCountAllWithin", apart := false }
def FnExactCountAllWithinSaid : Prop := fnExactCountAllWithinRow.holds Try.pinned (OpenSpec.ofChange fnExactCountAllWithinSpec)

/-- ITS FALSE NEIGHBOUR: 'it returns false'. Refute it at one input. -/
def fnExactCountAllWithinWrong : ChangeSpec := { name := "fnExactCountAllWithin", fn := fun _ => fun
  | [d1, d2, d3] => { results := [.lit (.bool false)], args := [d1, d2, d3] }
  | _ => none }
def FnExactCountAllWithinWrongFalsely : Prop := fnExactCountAllWithinRow.holds Try.pinned (OpenSpec.ofChange fnExactCountAllWithinWrong)

/-- 'laws.FnExactMeanApart': WHATEVER THE INPUT: true; the input reads as it did. -/
def fnExactMeanApartSpec : ChangeSpec := { name := "fnExactMeanApart", fn := fun _ => fun
  | [d] => { results := [.lit (.bool true)], args := [d] }
  | _ => none }
def fnExactMeanApartRow : OpenClaim := { program := "ytiidggbllcmppaa", sum := "7036c5a9c33cbfe69c42ac199966ecff951a78530842fa8ed4fe160bfed63011", func := "loop.example/g01335/laws.FnExactMeanApart", spec := "fnExactMeanApart", apart := false }
def FnExactMeanApartSaid : Prop := fnExactMeanApartRow.holds Try.pinned (OpenSpec.ofChange fnExactMeanApartSpec)

/-- ITS FALSE NEIGHBOUR: 'it returns false'. Refute it at one input. -/
def fnExactMeanApartWrong : ChangeSpec := { name := "fnExactMeanApart", fn := fun _ => fun
  | [d] => { results := [.lit (.bool false)], args := [d] }
  | _ => none }
def FnExactMeanApartWrongFalsely : Prop := fnExactMeanApartRow.holds Try.pinned (OpenSpec.ofChange fnExactMeanApartWrong)

/-- 'laws.FnExactCountApart': WHATEVER THE INPUT: true; the input reads as it did. -/
def fnExactCountApartSpec : ChangeSpec := { name := "fnExactCountApart", fn := fun _ => fun
  | [d1, d2] => { results := [.lit (.bool true)], args := [d1, d2] }
  | _ => none }
def fnExactCountApartRow : OpenClaim := { program := "ytiidggbllcmppaa", sum := "7036c5a9c33cbfe69c42ac199966ecff951a78530842fa8ed4fe160bfed63011", func := "loop.example/g01335/laws.FnExactCountApart", spec := "fnExactCountApart", apart := false }
def FnExactCountApartSaid : Prop := fnExactCountApartRow.holds Try.pinned (OpenSpec.ofChange fnExactCountApartSpec)

/-- ITS FALSE NEIGHBOUR: 'it returns false'. Refute it at one input. -/
def fnExactCountApartWrong : ChangeSpec := { name := "fnExactCountApart", fn := fun _ => fun
  | [d1, d2] => { results := [.lit (.bool false)], args := [d1, d2] }
  | _ => none }
def FnExactCountApartWrongFalsely : Prop := fnExactCountApartRow.holds Try.pinned (OpenSpec.ofChange fnExactCountApartWrong)

/-- 'laws.FnExactAreVisits': WHATEVER THE INPUT: true; the input reads as it did. -/
def fnExactAreVisitsSpec : ChangeSpec := { name := "fnExactAreVisits", fn := fun _ => fun
  | [d] => { results := [.lit (.bool true)], args := [d] }
  | _ => none }
def fnExactAreVisitsRow : OpenClaim := { program := "ytiidggbllcmppaa", sum := "7036c5a9c33cbfe69c42ac199966ecff951a78530842fa8ed4fe160bfed63011", func := "loop.example/g01335/laws.FnExactAreVisits", spec := "fnExactAreVisits", unfollowed := true, recurses := true, apart := false }
def FnExactAreVisitsSaid : Prop := fnExactAreVisitsRow.holds Try.pinned (OpenSpec.ofChange fnExactAreVisitsSpec)

/-- ITS FALSE NEIGHBOUR: 'it returns false'. Refute it at one input. -/
def fnExactAreVisitsWrong : ChangeSpec := { name := "fnExactAreVisits", fn := fun _ => fun
  | [d] => { results := [.lit (.bool false)], args := [d] }
  | _ => none }
def FnExactAreVisitsWrongFalsely : Prop := fnExactAreVisitsRow.holds Try.pinned (OpenSpec.ofChange fnExactAreVisitsWrong)

/-- 'laws.FnExactAllThere': WHATEVER THE INPUT: true; the input reads as it did. -/
def fnExactAllThereSpec : ChangeSpec := { name := "fnExactAllThere", fn := fun _ => fun
  | [d] => { results := [.lit (.bool true)], args := [d] }
  | _ => none }
def fnExactAllThereRow : OpenClaim := { program := "ytiidggbllcmppaa", sum := "7036c5a9c33cbfe69c42ac199966ecff951a78530842fa8ed4fe160bfed63011", func := "loop.example/g01335/laws.FnExactAllThere", spec := "fnExactAllThere", unfollowed := true, recurses := true, apart := false }
def FnExactAllThereSaid : Prop := fnExactAllThereRow.holds Try.pinned (OpenSpec.ofChange fnExactAllThereSpec)

/-- ITS FALSE NEIGHBOUR: 'it returns false'. Refute it at one input. -/
def fnExactAllThereWrong : ChangeSpec := { name := "fnExactAllThere", fn := fun _ => fun
  | [d] => { results := [.lit (.bool false)], args := [d] }
  | _ => none }
def FnExactAllThereWrongFalsely : Prop := fnExactAllThereRow.holds Try.pinned (OpenSpec.ofChange fnExactAllThereWrong)

/-- 'laws.FnExactStaysNeeded': WHATEVER THE INPUT: true; the input reads as it did. -/
def fnExactStaysNeededSpec : ChangeSpec := { name := "fnExactStaysNeeded", fn := fun _ => fun
  | [d] => { results := [.lit (.bool true)], args := [d] }
  | _ => none }
def fnExactStaysNeededRow : OpenClaim := { program := "ytiidggbllcmppaa", sum := "7036c5a9c33cbfe69c42ac199966ecff951a78530842fa8ed4fe160bfed63011", func := "loop.example/g01335/laws.FnExactStaysNeeded", spec := "fnExactStaysNeeded", unfollowed := true, recurses := true, apart := false }
def FnExactStaysNeededSaid : Prop := fnExactStaysNeededRow.holds Try.pinned (OpenSpec.ofChange fnExactStaysNeededSpec)

/-- ITS FALSE NEIGHBOUR: 'it returns false'. Refute it at one input. -/
def fnExactStaysNeededWrong : ChangeSpec := { name := "fnExactStaysNeeded", fn := fun _ => fun
  | [d] => { results := [.lit (.bool false)], args := [d] }
  | _ => none }
def FnExactStaysNeededWrongFalsely : Prop := fnExactStaysNeededRow.holds Try.pinned (OpenSpec.ofChange fnExactStaysNeededWrong)

/- THE SECOND FORM. 'bulk': how many values and letters a reading holds, each counted each time it is reached (what is shared counts as often as it is met; a slice's spare places count too). A statement '..UptoSaid' is the law's where the arguments, and the package variables that the reading takes, are together of bulk at most 1048576: NARROWER than '..Said'. Prove '..Said' where nothing that the law and all that it calls make is longer than what came in: it says more and counts as full. Else prove '..UptoSaid'. A law counts once. -/
mutual
def uptoBulk {H : Type} : DataW H → Nat
  | .lit (.string bytes) => bytes.length + 1
  | .lit _ => 1
  | .nil => 1
  | .ptr d => uptoBulk d + 1
  | .slice elems spare => uptoBulkAll elems + uptoBulkAll spare + 1
  | .agg parts => uptoBulkAll parts + 1
  | .iface _ d => uptoBulk d + 1
  | .map entries => uptoBulkEntries entries + 1
  | .held _ => 1
def uptoBulkAll {H : Type} : List (DataW H) → Nat
  | [] => 0
  | d :: r => uptoBulk d + uptoBulkAll r
def uptoBulkEntries {H : Type} : List (Lit × DataW H) → Nat
  | [] => 0
  | x :: r => uptoBulkEntry x + uptoBulkEntries r
def uptoBulkEntry {H : Type} : Lit × DataW H → Nat
  | (.string bytes, d) => bytes.length + uptoBulk d + 1
  | (_, d) => uptoBulk d + 1
 end
def uptoSmall : (H : Type) → List (DataW H) → Bool := fun _ ds => decide (uptoBulkAll ds ≤ 1048576)
def OpenSpec.upto (s : _root_.Go.ChangeSpec) : _root_.Go.OpenSpec := { _root_.Go.OpenSpec.ofChange s with cond := some uptoSmall }

/-- 'laws.FnExactCountTogether', WHERE WHAT IT READS IS OF BULK AT MOST 1048576: true; the input reads as it did. -/
def fnExactCountTogetherUptoRow : OpenClaim := { program := "ytiidggbllcmppaa", sum := "7036c5a9c33cbfe69c42ac199966ecff951a78530842fa8ed4fe160bfed63011", func := "loop.example/g01335/laws.FnExactCountTogether", spec := "fnExactCountTogether", apart := false, narrowed := true }
def FnExactCountTogetherUptoSaid : Prop := fnExactCountTogetherUptoRow.holds Try.pinned (OpenSpec.upto fnExactCountTogetherSpec)

/-- 'laws.FnExactChanceTogether', WHERE WHAT IT READS IS OF BULK AT MOST 1048576: true; the input reads as it did. -/
def fnExactChanceTogetherUptoRow : OpenClaim := { program := "ytiidggbllcmppaa", sum := "7036c5a9c33cbfe69c42ac199966ecff951a78530842fa8ed4fe160bfed63011", func := "loop.example/g01335/laws.FnExactChanceTogether", spec := "fnExactChanceTogether", apart := false, narrowed := true }
def FnExactChanceTogetherUptoSaid : Prop := fnExactChanceTogetherUptoRow.holds Try.pinned (OpenSpec.upto fnExactChanceTogetherSpec)

/-- 'laws.FnExactEvenChance', WHERE WHAT IT READS IS OF BULK AT MOST 1048576: true; the input reads as it did. -/
def fnExactEvenChanceUptoRow : OpenClaim := { program := "ytiidggbllcmppaa", sum := "7036c5a9c33cbfe69c42ac199966ecff951a78530842fa8ed4fe160bfed63011", func := "loop.example/g01335/laws.FnExactEvenChance", spec := "fnExactEvenChance", apart := false, narrowed := true }
def FnExactEvenChanceUptoSaid : Prop := fnExactEvenChanceUptoRow.holds Try.pinned (OpenSpec.upto fnExactEvenChanceSpec)

/-- 'laws.FnExactChanceOfStays', WHERE WHAT IT READS IS OF BULK AT MOST 1048576: true; the input reads as it did. -/
def fnExactChanceOfStaysUptoRow : OpenClaim := { program := "ytiidggbllcmppaa", sum := "7036c5a9c33cbfe69c42ac199966ecff951a78530842fa8ed4fe160bfed63011", func := "loop.example/g01335/laws.FnExactChanceOfStays", spec := "fnExactChanceOfStays", apart := false, narrowed := true }
def FnExactChanceOfStaysUptoSaid : Prop := fnExactChanceOfStaysUptoRow.holds Try.pinned (OpenSpec.upto fnExactChanceOfStaysSpec)

/-- 'laws.FnExactLeastStay', WHERE WHAT IT READS IS OF BULK AT MOST 1048576: true; the input reads as it did. -/
def fnExactLeastStayUptoRow : OpenClaim := { program := "ytiidggbllcmppaa", sum := "7036c5a9c33cbfe69c42ac199966ecff951a78530842fa8ed4fe160bfed63011", func := "loop.example/g01335/laws.FnExactLeastStay", spec := "fnExactLeastStay", apart := false, narrowed := true }
def FnExactLeastStayUptoSaid : Prop := fnExactLeastStayUptoRow.holds Try.pinned (OpenSpec.upto fnExactLeastStaySpec)

/-- 'laws.FnExactCountAllWithin', WHERE WHAT IT READS IS OF BULK AT MOST 1048576: true; the input reads as it did. -/
def fnExactCountAllWithinUptoRow : OpenClaim := { program := "ytiidggbllcmppaa", sum := "7036c5a9c33cbfe69c42ac199966ecff951a78530842fa8ed4fe160bfed63011", func := "loop.example/g01335/laws.FnExactCountAllWithin", spec := "fnExactCountAllWithin", apart := false, narrowed := true }
def FnExactCountAllWithinUptoSaid : Prop := fnExactCountAllWithinUptoRow.holds Try.pinned (OpenSpec.upto fnExactCountAllWithinSpec)

/-- 'laws.FnExactMeanApart', WHERE WHAT IT READS IS OF BULK AT MOST 1048576: true; the input reads as it did. -/
def fnExactMeanApartUptoRow : OpenClaim := { program := "ytiidggbllcmppaa", sum := "7036c5a9c33cbfe69c42ac199966ecff951a78530842fa8ed4fe160bfed63011", func := "loop.example/g01335/laws.FnExactMeanApart", spec := "fnExactMeanApart", apart := false, narrowed := true }
def FnExactMeanApartUptoSaid : Prop := fnExactMeanApartUptoRow.holds Try.pinned (OpenSpec.upto fnExactMeanApartSpec)

/-- 'laws.FnExactCountApart', WHERE WHAT IT READS IS OF BULK AT MOST 1048576: true; the input reads as it did. -/
def fnExactCountApartUptoRow : OpenClaim := { program := "ytiidggbllcmppaa", sum := "7036c5a9c33cbfe69c42ac199966ecff951a78530842fa8ed4fe160bfed63011", func := "loop.example/g01335/laws.FnExactCountApart", spec := "fnExactCountApart", apart := false, narrowed := true }
def FnExactCountApartUptoSaid : Prop := fnExactCountApartUptoRow.holds Try.pinned (OpenSpec.upto fnExactCountApartSpec)

/-- 'laws.FnExactAreVisits', WHERE WHAT IT READS IS OF BULK AT MOST 1048576: true; the input reads as it did. -/
def fnExactAreVisitsUptoRow : OpenClaim := { program := "ytiidggbllcmppaa", sum := "7036c5a9c33cbfe69c42ac199966ecff951a78530842fa8ed4fe160bfed63011", func := "loop.example/g01335/laws.FnExactAreVisits", spec := "fnExactAreVisits", unfollowed := true, recurses := true, apart := false, narrowed := true }
def FnExactAreVisitsUptoSaid : Prop := fnExactAreVisitsUptoRow.holds Try.pinned (OpenSpec.upto fnExactAreVisitsSpec)

/-- 'laws.FnExactAllThere', WHERE WHAT IT READS IS OF BULK AT MOST 1048576: true; the input reads as it did. -/
def fnExactAllThereUptoRow : OpenClaim := { program := "ytiidggbllcmppaa", sum := "7036c5a9c33cbfe69c42ac199966ecff951a78530842fa8ed4fe160bfed63011", func := "loop.example/g01335/laws.FnExactAllThere", spec := "fnExactAllThere", unfollowed := true, recurses := true, apart := false, narrowed := true }
def FnExactAllThereUptoSaid : Prop := fnExactAllThereUptoRow.holds Try.pinned (OpenSpec.upto fnExactAllThereSpec)

/-- 'laws.FnExactStaysNeeded', WHERE WHAT IT READS IS OF BULK AT MOST 1048576: true; the input reads as it did. -/
def fnExactStaysNeededUptoRow : OpenClaim := { program := "ytiidggbllcmppaa", sum := "7036c5a9c33cbfe69c42ac199966ecff951a78530842fa8ed4fe160bfed63011", func := "loop.example/g01335/laws.FnExactStaysNeeded", spec := "fnExactStaysNeeded", unfollowed := true, recurses := true, apart := false, narrowed := true }
def FnExactStaysNeededUptoSaid : Prop := fnExactStaysNeededUptoRow.holds Try.pinned (OpenSpec.upto fnExactStaysNeededSpec)

end Rows
end Go.Proofs.Ytiidggbllcmppaa
