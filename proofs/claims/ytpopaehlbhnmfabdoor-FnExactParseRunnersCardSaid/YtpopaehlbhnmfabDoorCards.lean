/-
  DERIVED. GIVEN WITH THE SEED: THE CARDS: each row of YtpopaehlbhnmfabDoorRows.lean that lists a variable, with what it lists TIED to the program's text (the seventh form; the later family's looks); each row that meets fmt, with fmt's text TOLD by the authors' own Lean function (tested against real Go, not proved from fmt's source: count such statements apart). THE CARD IS WHAT COUNTS. Prove the row's statement (the work); the ties are given (YtpopaehlbhnmfabDoorTie.lean); close each card by the builder's one call (the guide's Derived/Test/ToyasCard.lean, 'card_holds'). Laid BY PROGRAM, IN A SANDBOX (cutbox-door.mjs). By AI agents, Wed Nov 11 2026. No macro, syntax, notation, axiom, sorry.
-/
import Derived.Test.YtpopaehlbhnmfabDoorRows
import GoSem.ClaimSeven
namespace Go.Proofs.YtpopaehlbhnmfabDoor
namespace Rows

/-- THE TIED CARD OF 'laws.FnExactRunnersText'. -/
def fnExactRunnersTextCard : Claim7 := { stood := { row := fnExactRunnersTextRow, standIns := [], harness := (true, "4be4f68aee47ea61c69daf01467de3ccbf4b620217b8562456cbfa88756e4512"), looks := true }, kinds := [], alts := [], laidByText := true, laidKinds := [.data, .data, .data], laidTests := true, laidLooks := .later }
def FnExactRunnersTextCardSaid : Prop := Claim7.holds Tryd.pinned (.plain (OpenSpec.ofChange fnExactRunnersTextSpec)) fnExactRunnersTextCard

/-- THE TIED CARD OF 'laws.FnExactParseRunners'. -/
def fnExactParseRunnersCard : Claim7 := { stood := { row := fnExactParseRunnersRow, standIns := [], harness := (true, "4be4f68aee47ea61c69daf01467de3ccbf4b620217b8562456cbfa88756e4512"), looks := true }, kinds := [], alts := [], laidByText := true, laidKinds := [.data, .data, .data, .data, .sentinel, .sentinel, .pinned], laidTests := true, laidLooks := .later }
def FnExactParseRunnersCardSaid : Prop := Claim7.holds Tryd.pinned (.plain (OpenSpec.ofChange fnExactParseRunnersSpec)) fnExactParseRunnersCard

/-- THE TIED CARD OF 'laws.FnExactWalkersText'. -/
def fnExactWalkersTextCard : Claim7 := { stood := { row := fnExactWalkersTextRow, standIns := [], harness := (true, "4be4f68aee47ea61c69daf01467de3ccbf4b620217b8562456cbfa88756e4512"), looks := true }, kinds := [], alts := [], laidByText := true, laidKinds := [.data, .data, .data], laidTests := true, laidLooks := .later }
def FnExactWalkersTextCardSaid : Prop := Claim7.holds Tryd.pinned (.plain (OpenSpec.ofChange fnExactWalkersTextSpec)) fnExactWalkersTextCard

/-- THE SECOND FORM's CARD OF 'laws.FnExactRunnersText'. -/
def fnExactRunnersTextUptoCard : Claim7 := { stood := { row := fnExactRunnersTextUptoRow, standIns := [], harness := (true, "4be4f68aee47ea61c69daf01467de3ccbf4b620217b8562456cbfa88756e4512"), looks := true }, kinds := [], alts := [], laidByText := true, laidKinds := [.data, .data, .data], laidTests := true, laidLooks := .later }
def FnExactRunnersTextUptoCardSaid : Prop := Claim7.holds Tryd.pinned (.plain (OpenSpec.upto fnExactRunnersTextSpec)) fnExactRunnersTextUptoCard

/-- THE SECOND FORM's CARD OF 'laws.FnExactParseRunners'. -/
def fnExactParseRunnersUptoCard : Claim7 := { stood := { row := fnExactParseRunnersUptoRow, standIns := [], harness := (true, "4be4f68aee47ea61c69daf01467de3ccbf4b620217b8562456cbfa88756e4512"), looks := true }, kinds := [], alts := [], laidByText := true, laidKinds := [.data, .data, .data, .data, .sentinel, .sentinel, .pinned], laidTests := true, laidLooks := .later }
def FnExactParseRunnersUptoCardSaid : Prop := Claim7.holds Tryd.pinned (.plain (OpenSpec.upto fnExactParseRunnersSpec)) fnExactParseRunnersUptoCard

/-- THE SECOND FORM's CARD OF 'laws.FnExactWalkersText'. -/
def fnExactWalkersTextUptoCard : Claim7 := { stood := { row := fnExactWalkersTextUptoRow, standIns := [], harness := (true, "4be4f68aee47ea61c69daf01467de3ccbf4b620217b8562456cbfa88756e4512"), looks := true }, kinds := [], alts := [], laidByText := true, laidKinds := [.data, .data, .data], laidTests := true, laidLooks := .later }
def FnExactWalkersTextUptoCardSaid : Prop := Claim7.holds Tryd.pinned (.plain (OpenSpec.upto fnExactWalkersTextSpec)) fnExactWalkersTextUptoCard
end Rows
end Go.Proofs.YtpopaehlbhnmfabDoor
