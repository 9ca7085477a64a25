/-
  DERIVED. GIVEN WITH THE SEED: THE CARDS: each row of YtjfmmdblfhgelaaDoorRows.lean that lists a variable, with what it lists TIED to the program's text (the seventh form; the later family's looks); each row that meets fmt, with fmt's text TOLD by the authors' own Lean function (tested against real Go, not proved from fmt's source: count such statements apart). THE CARD IS WHAT COUNTS. Prove the row's statement (the work); the ties are given (YtjfmmdblfhgelaaDoorTie.lean); close each card by the builder's one call (the guide's Derived/Test/ToyasCard.lean, 'card_holds'). Laid BY PROGRAM, IN A SANDBOX (cutbox-door.mjs). By AI agents, Wed Nov 11 2026. No macro, syntax, notation, axiom, sorry.
-/
import Derived.Test.YtjfmmdblfhgelaaDoorRows
import GoSem.ClaimSeven
namespace Go.Proofs.YtjfmmdblfhgelaaDoor
namespace Rows

/-- THE TIED CARD OF 'laws.FnExactVisitsText'. -/
def fnExactVisitsTextCard : Claim7 := { stood := { row := fnExactVisitsTextRow, standIns := [], harness := (true, "4143ac10b1300c80934b16be9d780a1f6377441fc05225ca7814cefc20b4c01d"), looks := true }, kinds := [], alts := [], laidByText := true, laidKinds := [.data, .data, .data], laidTests := true, laidLooks := .later }
def FnExactVisitsTextCardSaid : Prop := Claim7.holds Tryd.pinned (.plain (OpenSpec.ofChange fnExactVisitsTextSpec)) fnExactVisitsTextCard

/-- THE TIED CARD OF 'laws.FnExactParseVisits'. -/
def fnExactParseVisitsCard : Claim7 := { stood := { row := fnExactParseVisitsRow, standIns := [], harness := (true, "4143ac10b1300c80934b16be9d780a1f6377441fc05225ca7814cefc20b4c01d"), looks := true }, kinds := [], alts := [], laidByText := true, laidKinds := [.data, .data, .data, .data, .sentinel, .sentinel, .pinned], laidTests := true, laidLooks := .later }
def FnExactParseVisitsCardSaid : Prop := Claim7.holds Tryd.pinned (.plain (OpenSpec.ofChange fnExactParseVisitsSpec)) fnExactParseVisitsCard

/-- THE SECOND FORM's CARD OF 'laws.FnExactVisitsText'. -/
def fnExactVisitsTextUptoCard : Claim7 := { stood := { row := fnExactVisitsTextUptoRow, standIns := [], harness := (true, "4143ac10b1300c80934b16be9d780a1f6377441fc05225ca7814cefc20b4c01d"), looks := true }, kinds := [], alts := [], laidByText := true, laidKinds := [.data, .data, .data], laidTests := true, laidLooks := .later }
def FnExactVisitsTextUptoCardSaid : Prop := Claim7.holds Tryd.pinned (.plain (OpenSpec.upto fnExactVisitsTextSpec)) fnExactVisitsTextUptoCard

/-- THE SECOND FORM's CARD OF 'laws.FnExactParseVisits'. -/
def fnExactParseVisitsUptoCard : Claim7 := { stood := { row := fnExactParseVisitsUptoRow, standIns := [], harness := (true, "4143ac10b1300c80934b16be9d780a1f6377441fc05225ca7814cefc20b4c01d"), looks := true }, kinds := [], alts := [], laidByText := true, laidKinds := [.data, .data, .data, .data, .sentinel, .sentinel, .pinned], laidTests := true, laidLooks := .later }
def FnExactParseVisitsUptoCardSaid : Prop := Claim7.holds Tryd.pinned (.plain (OpenSpec.upto fnExactParseVisitsSpec)) fnExactParseVisitsUptoCard
end Rows
end Go.Proofs.YtjfmmdblfhgelaaDoor
