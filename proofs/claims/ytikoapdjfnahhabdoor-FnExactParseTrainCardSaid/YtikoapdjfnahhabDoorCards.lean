/-
  DERIVED. GIVEN WITH THE SEED: THE CARDS: each row of YtikoapdjfnahhabDoorRows.lean that lists a variable, with what it lists TIED to the program's text (the seventh form; the later family's looks); each row that meets fmt, with fmt's text TOLD by the authors' own Lean function (tested against real Go, not proved from fmt's source: count such statements apart). THE CARD IS WHAT COUNTS. Prove the row's statement (the work); the ties are given (YtikoapdjfnahhabDoorTie.lean); close each card by the builder's one call (the guide's Derived/Test/ToyasCard.lean, 'card_holds'). Laid BY PROGRAM, IN A SANDBOX (cutbox-door.mjs). By AI agents, Wed Nov 11 2026. No macro, syntax, notation, axiom, sorry.
-/
import Derived.Test.YtikoapdjfnahhabDoorRows
import GoSem.ClaimSeven
namespace Go.Proofs.YtikoapdjfnahhabDoor
namespace Rows

/-- THE TIED CARD OF 'laws.FnExactTrainText'. -/
def fnExactTrainTextCard : Claim7 := { stood := { row := fnExactTrainTextRow, standIns := [], harness := (true, "44e745003570a249caaca6498a8f7923c77760d0642cf2f19e4f59aab1872736"), looks := true }, kinds := [], alts := [], laidByText := true, laidKinds := [.data, .data, .data], laidTests := true, laidLooks := .later }
def FnExactTrainTextCardSaid : Prop := Claim7.holds Tryd.pinned (.plain (OpenSpec.ofChange fnExactTrainTextSpec)) fnExactTrainTextCard

/-- THE TIED CARD OF 'laws.FnExactParseTrain'. -/
def fnExactParseTrainCard : Claim7 := { stood := { row := fnExactParseTrainRow, standIns := [], harness := (true, "44e745003570a249caaca6498a8f7923c77760d0642cf2f19e4f59aab1872736"), looks := true }, kinds := [], alts := [], laidByText := true, laidKinds := [.data, .data, .data, .sentinel, .sentinel], laidTests := true, laidLooks := .later }
def FnExactParseTrainCardSaid : Prop := Claim7.holds Tryd.pinned (.plain (OpenSpec.ofChange fnExactParseTrainSpec)) fnExactParseTrainCard

/-- THE SECOND FORM's CARD OF 'laws.FnExactTrainText'. -/
def fnExactTrainTextUptoCard : Claim7 := { stood := { row := fnExactTrainTextUptoRow, standIns := [], harness := (true, "44e745003570a249caaca6498a8f7923c77760d0642cf2f19e4f59aab1872736"), looks := true }, kinds := [], alts := [], laidByText := true, laidKinds := [.data, .data, .data], laidTests := true, laidLooks := .later }
def FnExactTrainTextUptoCardSaid : Prop := Claim7.holds Tryd.pinned (.plain (OpenSpec.upto fnExactTrainTextSpec)) fnExactTrainTextUptoCard

/-- THE SECOND FORM's CARD OF 'laws.FnExactParseTrain'. -/
def fnExactParseTrainUptoCard : Claim7 := { stood := { row := fnExactParseTrainUptoRow, standIns := [], harness := (true, "44e745003570a249caaca6498a8f7923c77760d0642cf2f19e4f59aab1872736"), looks := true }, kinds := [], alts := [], laidByText := true, laidKinds := [.data, .data, .data, .sentinel, .sentinel], laidTests := true, laidLooks := .later }
def FnExactParseTrainUptoCardSaid : Prop := Claim7.holds Tryd.pinned (.plain (OpenSpec.upto fnExactParseTrainSpec)) fnExactParseTrainUptoCard
end Rows
end Go.Proofs.YtikoapdjfnahhabDoor
