/-
  DERIVED. GIVEN WITH THE SEED: THE CARDS: each row of YtchpdmcfnpcfeaaDoorRows.lean that lists a variable, with what it lists TIED to the program's text (the seventh form; the later family's looks); each row that meets fmt, with fmt's text TOLD by the authors' own Lean function (tested against real Go, not proved from fmt's source: count such statements apart). THE CARD IS WHAT COUNTS. Prove the row's statement (the work); the ties are given (YtchpdmcfnpcfeaaDoorTie.lean); close each card by the builder's one call (the guide's Derived/Test/ToyasCard.lean, 'card_holds'). Laid BY PROGRAM, IN A SANDBOX (cutbox-door.mjs). By AI agents, Wed Nov 11 2026. No macro, syntax, notation, axiom, sorry.
-/
import Derived.Test.YtchpdmcfnpcfeaaDoorRows
import GoSem.ClaimSeven
namespace Go.Proofs.YtchpdmcfnpcfeaaDoor
namespace Rows

/-- THE TIED CARD OF 'laws.FnExactChaseText'. -/
def fnExactChaseTextCard : Claim7 := { stood := { row := fnExactChaseTextRow, standIns := [], harness := (true, "773c280aa052f044303bfc5530b0df97861eb2c82b0964185ae436a96573f470"), looks := true }, kinds := [], alts := [], laidByText := true, laidKinds := [.data, .data, .data], laidTests := true, laidLooks := .later }
def FnExactChaseTextCardSaid : Prop := Claim7.holds Tryd.pinned (.plain (OpenSpec.ofChange fnExactChaseTextSpec)) fnExactChaseTextCard

/-- THE TIED CARD OF 'laws.FnExactParseChase'. -/
def fnExactParseChaseCard : Claim7 := { stood := { row := fnExactParseChaseRow, standIns := [], harness := (true, "773c280aa052f044303bfc5530b0df97861eb2c82b0964185ae436a96573f470"), looks := true }, kinds := [], alts := [], laidByText := true, laidKinds := [.data, .data, .data, .data, .sentinel, .sentinel, .pinned], laidTests := true, laidLooks := .later }
def FnExactParseChaseCardSaid : Prop := Claim7.holds Tryd.pinned (.plain (OpenSpec.ofChange fnExactParseChaseSpec)) fnExactParseChaseCard

/-- THE SECOND FORM's CARD OF 'laws.FnExactChaseText'. -/
def fnExactChaseTextUptoCard : Claim7 := { stood := { row := fnExactChaseTextUptoRow, standIns := [], harness := (true, "773c280aa052f044303bfc5530b0df97861eb2c82b0964185ae436a96573f470"), looks := true }, kinds := [], alts := [], laidByText := true, laidKinds := [.data, .data, .data], laidTests := true, laidLooks := .later }
def FnExactChaseTextUptoCardSaid : Prop := Claim7.holds Tryd.pinned (.plain (OpenSpec.upto fnExactChaseTextSpec)) fnExactChaseTextUptoCard

/-- THE SECOND FORM's CARD OF 'laws.FnExactParseChase'. -/
def fnExactParseChaseUptoCard : Claim7 := { stood := { row := fnExactParseChaseUptoRow, standIns := [], harness := (true, "773c280aa052f044303bfc5530b0df97861eb2c82b0964185ae436a96573f470"), looks := true }, kinds := [], alts := [], laidByText := true, laidKinds := [.data, .data, .data, .data, .sentinel, .sentinel, .pinned], laidTests := true, laidLooks := .later }
def FnExactParseChaseUptoCardSaid : Prop := Claim7.holds Tryd.pinned (.plain (OpenSpec.upto fnExactParseChaseSpec)) fnExactParseChaseUptoCard
end Rows
end Go.Proofs.YtchpdmcfnpcfeaaDoor
