/-
  DERIVED. GIVEN WITH THE SEED: THE CARDS: each row of YteaefmngfomhgabDoorRows.lean that lists a variable, with what it lists TIED to the program's text (the seventh form; the later family's looks); each row that meets fmt, with fmt's text TOLD by the authors' own Lean function (tested against real Go, not proved from fmt's source: count such statements apart). THE CARD IS WHAT COUNTS. Prove the row's statement (the work); the ties are given (YteaefmngfomhgabDoorTie.lean); close each card by the builder's one call (the guide's Derived/Test/ToyasCard.lean, 'card_holds'). Laid BY PROGRAM, IN A SANDBOX (cutbox-door.mjs). By AI agents, Wed Nov 11 2026. No macro, syntax, notation, axiom, sorry.
-/
import Derived.Test.YteaefmngfomhgabDoorRows
import GoSem.ClaimSeven
namespace Go.Proofs.YteaefmngfomhgabDoor
namespace Rows

/-- THE TIED CARD OF 'laws.FnExactParseSnail'. -/
def fnExactParseSnailCard : Claim7 := { stood := { row := fnExactParseSnailRow, standIns := [], harness := (true, "52afbe97fea2aa233731271944bfd0edc0c7660956c57f441785d500121bce80"), looks := true }, kinds := [], alts := [], laidByText := true, laidKinds := [.data, .data, .data, .sentinel, .sentinel], laidTests := true, laidLooks := .later }
def FnExactParseSnailCardSaid : Prop := Claim7.holds Tryd.pinned (.plain (OpenSpec.ofChange fnExactParseSnailSpec)) fnExactParseSnailCard

/-- THE TIED CARD OF 'laws.FnExactWalkersText'. -/
def fnExactWalkersTextCard : Claim7 := { stood := { row := fnExactWalkersTextRow, standIns := [], harness := (true, "52afbe97fea2aa233731271944bfd0edc0c7660956c57f441785d500121bce80"), looks := true }, kinds := [], alts := [], laidByText := true, laidKinds := [.data, .data, .data], laidTests := true, laidLooks := .later }
def FnExactWalkersTextCardSaid : Prop := Claim7.holds Tryd.pinned (.plain (OpenSpec.ofChange fnExactWalkersTextSpec)) fnExactWalkersTextCard

/-- THE TIED CARD OF 'laws.FnExactParseWalkers'. -/
def fnExactParseWalkersCard : Claim7 := { stood := { row := fnExactParseWalkersRow, standIns := [], harness := (true, "52afbe97fea2aa233731271944bfd0edc0c7660956c57f441785d500121bce80"), looks := true }, kinds := [], alts := [], laidByText := true, laidKinds := [.data, .data, .data, .data, .sentinel, .sentinel, .pinned], laidTests := true, laidLooks := .later }
def FnExactParseWalkersCardSaid : Prop := Claim7.holds Tryd.pinned (.plain (OpenSpec.ofChange fnExactParseWalkersSpec)) fnExactParseWalkersCard

/-- THE TIED CARD OF 'laws.FnExactRunnersText'. -/
def fnExactRunnersTextCard : Claim7 := { stood := { row := fnExactRunnersTextRow, standIns := [], harness := (true, "52afbe97fea2aa233731271944bfd0edc0c7660956c57f441785d500121bce80"), looks := true }, kinds := [], alts := [], laidByText := true, laidKinds := [.data, .data, .data], laidTests := true, laidLooks := .later }
def FnExactRunnersTextCardSaid : Prop := Claim7.holds Tryd.pinned (.plain (OpenSpec.ofChange fnExactRunnersTextSpec)) fnExactRunnersTextCard

/-- THE TIED CARD OF 'laws.FnExactParseRunners'. -/
def fnExactParseRunnersCard : Claim7 := { stood := { row := fnExactParseRunnersRow, standIns := [], harness := (true, "52afbe97fea2aa233731271944bfd0edc0c7660956c57f441785d500121bce80"), looks := true }, kinds := [], alts := [], laidByText := true, laidKinds := [.data, .data, .data, .data, .sentinel, .sentinel, .pinned], laidTests := true, laidLooks := .later }
def FnExactParseRunnersCardSaid : Prop := Claim7.holds Tryd.pinned (.plain (OpenSpec.ofChange fnExactParseRunnersSpec)) fnExactParseRunnersCard

/-- THE TIED CARD OF 'laws.FnExactParseChase'. -/
def fnExactParseChaseCard : Claim7 := { stood := { row := fnExactParseChaseRow, standIns := [], harness := (true, "52afbe97fea2aa233731271944bfd0edc0c7660956c57f441785d500121bce80"), looks := true }, kinds := [], alts := [], laidByText := true, laidKinds := [.data, .data, .data, .data, .sentinel, .sentinel, .pinned], laidTests := true, laidLooks := .later }
def FnExactParseChaseCardSaid : Prop := Claim7.holds Tryd.pinned (.plain (OpenSpec.ofChange fnExactParseChaseSpec)) fnExactParseChaseCard

/-- THE SECOND FORM's CARD OF 'laws.FnExactParseSnail'. -/
def fnExactParseSnailUptoCard : Claim7 := { stood := { row := fnExactParseSnailUptoRow, standIns := [], harness := (true, "52afbe97fea2aa233731271944bfd0edc0c7660956c57f441785d500121bce80"), looks := true }, kinds := [], alts := [], laidByText := true, laidKinds := [.data, .data, .data, .sentinel, .sentinel], laidTests := true, laidLooks := .later }
def FnExactParseSnailUptoCardSaid : Prop := Claim7.holds Tryd.pinned (.plain (OpenSpec.upto fnExactParseSnailSpec)) fnExactParseSnailUptoCard

/-- THE SECOND FORM's CARD OF 'laws.FnExactWalkersText'. -/
def fnExactWalkersTextUptoCard : Claim7 := { stood := { row := fnExactWalkersTextUptoRow, standIns := [], harness := (true, "52afbe97fea2aa233731271944bfd0edc0c7660956c57f441785d500121bce80"), looks := true }, kinds := [], alts := [], laidByText := true, laidKinds := [.data, .data, .data], laidTests := true, laidLooks := .later }
def FnExactWalkersTextUptoCardSaid : Prop := Claim7.holds Tryd.pinned (.plain (OpenSpec.upto fnExactWalkersTextSpec)) fnExactWalkersTextUptoCard

/-- THE SECOND FORM's CARD OF 'laws.FnExactParseWalkers'. -/
def fnExactParseWalkersUptoCard : Claim7 := { stood := { row := fnExactParseWalkersUptoRow, standIns := [], harness := (true, "52afbe97fea2aa233731271944bfd0edc0c7660956c57f441785d500121bce80"), looks := true }, kinds := [], alts := [], laidByText := true, laidKinds := [.data, .data, .data, .data, .sentinel, .sentinel, .pinned], laidTests := true, laidLooks := .later }
def FnExactParseWalkersUptoCardSaid : Prop := Claim7.holds Tryd.pinned (.plain (OpenSpec.upto fnExactParseWalkersSpec)) fnExactParseWalkersUptoCard

/-- THE SECOND FORM's CARD OF 'laws.FnExactRunnersText'. -/
def fnExactRunnersTextUptoCard : Claim7 := { stood := { row := fnExactRunnersTextUptoRow, standIns := [], harness := (true, "52afbe97fea2aa233731271944bfd0edc0c7660956c57f441785d500121bce80"), looks := true }, kinds := [], alts := [], laidByText := true, laidKinds := [.data, .data, .data], laidTests := true, laidLooks := .later }
def FnExactRunnersTextUptoCardSaid : Prop := Claim7.holds Tryd.pinned (.plain (OpenSpec.upto fnExactRunnersTextSpec)) fnExactRunnersTextUptoCard

/-- THE SECOND FORM's CARD OF 'laws.FnExactParseRunners'. -/
def fnExactParseRunnersUptoCard : Claim7 := { stood := { row := fnExactParseRunnersUptoRow, standIns := [], harness := (true, "52afbe97fea2aa233731271944bfd0edc0c7660956c57f441785d500121bce80"), looks := true }, kinds := [], alts := [], laidByText := true, laidKinds := [.data, .data, .data, .data, .sentinel, .sentinel, .pinned], laidTests := true, laidLooks := .later }
def FnExactParseRunnersUptoCardSaid : Prop := Claim7.holds Tryd.pinned (.plain (OpenSpec.upto fnExactParseRunnersSpec)) fnExactParseRunnersUptoCard

/-- THE SECOND FORM's CARD OF 'laws.FnExactParseChase'. -/
def fnExactParseChaseUptoCard : Claim7 := { stood := { row := fnExactParseChaseUptoRow, standIns := [], harness := (true, "52afbe97fea2aa233731271944bfd0edc0c7660956c57f441785d500121bce80"), looks := true }, kinds := [], alts := [], laidByText := true, laidKinds := [.data, .data, .data, .data, .sentinel, .sentinel, .pinned], laidTests := true, laidLooks := .later }
def FnExactParseChaseUptoCardSaid : Prop := Claim7.holds Tryd.pinned (.plain (OpenSpec.upto fnExactParseChaseSpec)) fnExactParseChaseUptoCard
end Rows
end Go.Proofs.YteaefmngfomhgabDoor
