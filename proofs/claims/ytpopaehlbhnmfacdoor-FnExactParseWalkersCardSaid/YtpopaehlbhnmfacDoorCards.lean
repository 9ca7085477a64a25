/-
  DERIVED. GIVEN WITH THE SEED: THE CARDS: each row of YtpopaehlbhnmfacDoorRows.lean that lists a variable, with what it lists TIED to the program's text (the seventh form; the later family's looks); each row that meets fmt, with fmt's text TOLD by the authors' own Lean function (tested against real Go, not proved from fmt's source: count such statements apart). THE CARD IS WHAT COUNTS. Prove the row's statement (the work); the ties are given (YtpopaehlbhnmfacDoorTie.lean); close each card by the builder's one call (the guide's Derived/Test/ToyasCard.lean, 'card_holds'). Laid BY PROGRAM, IN A SANDBOX (cutbox-door.mjs). By AI agents, Wed Nov 11 2026. No macro, syntax, notation, axiom, sorry.
-/
import Derived.Test.YtpopaehlbhnmfacDoorRows
import GoSem.ClaimSeven
namespace Go.Proofs.YtpopaehlbhnmfacDoor
namespace Rows

/-- THE TIED CARD OF 'laws.FnExactParseWalkers'. -/
def fnExactParseWalkersCard : Claim7 := { stood := { row := fnExactParseWalkersRow, standIns := [], harness := (true, "e52bf8a0612e9c1109fb4152727f0ea90256eead502817c0061d023349153bb5"), looks := true }, kinds := [], alts := [], laidByText := true, laidKinds := [.data, .data, .data, .data, .sentinel, .sentinel, .pinned], laidTests := true, laidLooks := .later }
def FnExactParseWalkersCardSaid : Prop := Claim7.holds Tryd.pinned (.plain (OpenSpec.ofChange fnExactParseWalkersSpec)) fnExactParseWalkersCard

/-- THE SECOND FORM's CARD OF 'laws.FnExactParseWalkers'. -/
def fnExactParseWalkersUptoCard : Claim7 := { stood := { row := fnExactParseWalkersUptoRow, standIns := [], harness := (true, "e52bf8a0612e9c1109fb4152727f0ea90256eead502817c0061d023349153bb5"), looks := true }, kinds := [], alts := [], laidByText := true, laidKinds := [.data, .data, .data, .data, .sentinel, .sentinel, .pinned], laidTests := true, laidLooks := .later }
def FnExactParseWalkersUptoCardSaid : Prop := Claim7.holds Tryd.pinned (.plain (OpenSpec.upto fnExactParseWalkersSpec)) fnExactParseWalkersUptoCard
end Rows
end Go.Proofs.YtpopaehlbhnmfacDoor
