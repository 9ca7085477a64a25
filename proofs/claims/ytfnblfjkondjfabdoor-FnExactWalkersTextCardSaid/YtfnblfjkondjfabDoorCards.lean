/-
  DERIVED. GIVEN WITH THE SEED: THE CARDS: each row of YtfnblfjkondjfabDoorRows.lean that lists a variable, with what it lists TIED to the program's text (the seventh form; the later family's looks); each row that meets fmt, with fmt's text TOLD by the authors' own Lean function (tested against real Go, not proved from fmt's source: count such statements apart). THE CARD IS WHAT COUNTS. Prove the row's statement (the work); the ties are given (YtfnblfjkondjfabDoorTie.lean); close each card by the builder's one call (the guide's Derived/Test/ToyasCard.lean, 'card_holds'). Laid BY PROGRAM, IN A SANDBOX (cutbox-door.mjs). By AI agents, Wed Nov 11 2026. No macro, syntax, notation, axiom, sorry.
-/
import Derived.Test.YtfnblfjkondjfabDoorRows
import GoSem.ClaimSeven
namespace Go.Proofs.YtfnblfjkondjfabDoor
namespace Rows

/-- THE TIED CARD OF 'laws.FnExactWalkersText'. -/
def fnExactWalkersTextCard : Claim7 := { stood := { row := fnExactWalkersTextRow, standIns := [], harness := (true, "a255cc1f3a697d256b8d64a71e2bc2d56af5914d4a478a1e64f2f3280d819f7c"), looks := true }, kinds := [], alts := [], laidByText := true, laidKinds := [.data, .data, .data], laidTests := true, laidLooks := .later }
def FnExactWalkersTextCardSaid : Prop := Claim7.holds Tryd.pinned (.plain (OpenSpec.ofChange fnExactWalkersTextSpec)) fnExactWalkersTextCard

/-- THE TIED CARD OF 'laws.FnExactParseWalkers'. -/
def fnExactParseWalkersCard : Claim7 := { stood := { row := fnExactParseWalkersRow, standIns := [], harness := (true, "a255cc1f3a697d256b8d64a71e2bc2d56af5914d4a478a1e64f2f3280d819f7c"), looks := true }, kinds := [], alts := [], laidByText := true, laidKinds := [.data, .data, .data, .data, .sentinel, .sentinel, .pinned], laidTests := true, laidLooks := .later }
def FnExactParseWalkersCardSaid : Prop := Claim7.holds Tryd.pinned (.plain (OpenSpec.ofChange fnExactParseWalkersSpec)) fnExactParseWalkersCard

/-- THE TIED CARD OF 'laws.FnExactParseSnail'. -/
def fnExactParseSnailCard : Claim7 := { stood := { row := fnExactParseSnailRow, standIns := [], harness := (true, "a255cc1f3a697d256b8d64a71e2bc2d56af5914d4a478a1e64f2f3280d819f7c"), looks := true }, kinds := [], alts := [], laidByText := true, laidKinds := [.data, .data, .data, .sentinel, .sentinel], laidTests := true, laidLooks := .later }
def FnExactParseSnailCardSaid : Prop := Claim7.holds Tryd.pinned (.plain (OpenSpec.ofChange fnExactParseSnailSpec)) fnExactParseSnailCard

/-- THE SECOND FORM's CARD OF 'laws.FnExactWalkersText'. -/
def fnExactWalkersTextUptoCard : Claim7 := { stood := { row := fnExactWalkersTextUptoRow, standIns := [], harness := (true, "a255cc1f3a697d256b8d64a71e2bc2d56af5914d4a478a1e64f2f3280d819f7c"), looks := true }, kinds := [], alts := [], laidByText := true, laidKinds := [.data, .data, .data], laidTests := true, laidLooks := .later }
def FnExactWalkersTextUptoCardSaid : Prop := Claim7.holds Tryd.pinned (.plain (OpenSpec.upto fnExactWalkersTextSpec)) fnExactWalkersTextUptoCard

/-- THE SECOND FORM's CARD OF 'laws.FnExactParseWalkers'. -/
def fnExactParseWalkersUptoCard : Claim7 := { stood := { row := fnExactParseWalkersUptoRow, standIns := [], harness := (true, "a255cc1f3a697d256b8d64a71e2bc2d56af5914d4a478a1e64f2f3280d819f7c"), looks := true }, kinds := [], alts := [], laidByText := true, laidKinds := [.data, .data, .data, .data, .sentinel, .sentinel, .pinned], laidTests := true, laidLooks := .later }
def FnExactParseWalkersUptoCardSaid : Prop := Claim7.holds Tryd.pinned (.plain (OpenSpec.upto fnExactParseWalkersSpec)) fnExactParseWalkersUptoCard

/-- THE SECOND FORM's CARD OF 'laws.FnExactParseSnail'. -/
def fnExactParseSnailUptoCard : Claim7 := { stood := { row := fnExactParseSnailUptoRow, standIns := [], harness := (true, "a255cc1f3a697d256b8d64a71e2bc2d56af5914d4a478a1e64f2f3280d819f7c"), looks := true }, kinds := [], alts := [], laidByText := true, laidKinds := [.data, .data, .data, .sentinel, .sentinel], laidTests := true, laidLooks := .later }
def FnExactParseSnailUptoCardSaid : Prop := Claim7.holds Tryd.pinned (.plain (OpenSpec.upto fnExactParseSnailSpec)) fnExactParseSnailUptoCard
end Rows
end Go.Proofs.YtfnblfjkondjfabDoor
