/-
  DERIVED. GIVEN WITH THE SEED: THE CARDS: each row of YtlfjgggidoakaaaDoorRows.lean that lists a variable, with what it lists TIED to the program's text (the seventh form; the later family's looks); each row that meets fmt, with fmt's text TOLD by the authors' own Lean function (tested against real Go, not proved from fmt's source: count such statements apart). THE CARD IS WHAT COUNTS. Prove the row's statement (the work); the ties are given (YtlfjgggidoakaaaDoorTie.lean); close each card by the builder's one call (the guide's Derived/Test/ToyasCard.lean, 'card_holds'). Laid BY PROGRAM, IN A SANDBOX (cutbox-door.mjs). By AI agents, Wed Nov 11 2026. No macro, syntax, notation, axiom, sorry.
-/
import Derived.Test.YtlfjgggidoakaaaDoorRows
import GoSem.ClaimSeven
namespace Go.Proofs.YtlfjgggidoakaaaDoor
namespace Rows

/-- THE TIED CARD OF 'laws.FnExactLegsText'. -/
def fnExactLegsTextCard : Claim7 := { stood := { row := fnExactLegsTextRow, standIns := [], harness := (true, "51ccf924e49ecab05c745e766fec2051103a91c642c392718c2737bd2149ec52"), looks := true }, kinds := [], alts := [], laidByText := true, laidKinds := [.data, .data, .data], laidTests := true, laidLooks := .later }
def FnExactLegsTextCardSaid : Prop := Claim7.holds Tryd.pinned (.plain (OpenSpec.ofChange fnExactLegsTextSpec)) fnExactLegsTextCard

/-- THE TIED CARD OF 'laws.FnExactParseLegs'. -/
def fnExactParseLegsCard : Claim7 := { stood := { row := fnExactParseLegsRow, standIns := [], harness := (true, "51ccf924e49ecab05c745e766fec2051103a91c642c392718c2737bd2149ec52"), looks := true }, kinds := [], alts := [], laidByText := true, laidKinds := [.data, .data, .data, .data, .sentinel, .sentinel, .pinned], laidTests := true, laidLooks := .later }
def FnExactParseLegsCardSaid : Prop := Claim7.holds Tryd.pinned (.plain (OpenSpec.ofChange fnExactParseLegsSpec)) fnExactParseLegsCard

/-- THE TIED CARD OF 'laws.FnExactWalkersText'. -/
def fnExactWalkersTextCard : Claim7 := { stood := { row := fnExactWalkersTextRow, standIns := [], harness := (true, "51ccf924e49ecab05c745e766fec2051103a91c642c392718c2737bd2149ec52"), looks := true }, kinds := [], alts := [], laidByText := true, laidKinds := [.data, .data, .data], laidTests := true, laidLooks := .later }
def FnExactWalkersTextCardSaid : Prop := Claim7.holds Tryd.pinned (.plain (OpenSpec.ofChange fnExactWalkersTextSpec)) fnExactWalkersTextCard

/-- THE TIED CARD OF 'laws.FnExactParseWalkers'. -/
def fnExactParseWalkersCard : Claim7 := { stood := { row := fnExactParseWalkersRow, standIns := [], harness := (true, "51ccf924e49ecab05c745e766fec2051103a91c642c392718c2737bd2149ec52"), looks := true }, kinds := [], alts := [], laidByText := true, laidKinds := [.data, .data, .data, .data, .sentinel, .sentinel, .pinned], laidTests := true, laidLooks := .later }
def FnExactParseWalkersCardSaid : Prop := Claim7.holds Tryd.pinned (.plain (OpenSpec.ofChange fnExactParseWalkersSpec)) fnExactParseWalkersCard

/-- THE TIED CARD OF 'laws.FnExactRunnersText'. -/
def fnExactRunnersTextCard : Claim7 := { stood := { row := fnExactRunnersTextRow, standIns := [], harness := (true, "51ccf924e49ecab05c745e766fec2051103a91c642c392718c2737bd2149ec52"), looks := true }, kinds := [], alts := [], laidByText := true, laidKinds := [.data, .data, .data], laidTests := true, laidLooks := .later }
def FnExactRunnersTextCardSaid : Prop := Claim7.holds Tryd.pinned (.plain (OpenSpec.ofChange fnExactRunnersTextSpec)) fnExactRunnersTextCard

/-- THE TIED CARD OF 'laws.FnExactParseRunners'. -/
def fnExactParseRunnersCard : Claim7 := { stood := { row := fnExactParseRunnersRow, standIns := [], harness := (true, "51ccf924e49ecab05c745e766fec2051103a91c642c392718c2737bd2149ec52"), looks := true }, kinds := [], alts := [], laidByText := true, laidKinds := [.data, .data, .data, .data, .sentinel, .sentinel, .pinned], laidTests := true, laidLooks := .later }
def FnExactParseRunnersCardSaid : Prop := Claim7.holds Tryd.pinned (.plain (OpenSpec.ofChange fnExactParseRunnersSpec)) fnExactParseRunnersCard

/-- THE SECOND FORM's CARD OF 'laws.FnExactLegsText'. -/
def fnExactLegsTextUptoCard : Claim7 := { stood := { row := fnExactLegsTextUptoRow, standIns := [], harness := (true, "51ccf924e49ecab05c745e766fec2051103a91c642c392718c2737bd2149ec52"), looks := true }, kinds := [], alts := [], laidByText := true, laidKinds := [.data, .data, .data], laidTests := true, laidLooks := .later }
def FnExactLegsTextUptoCardSaid : Prop := Claim7.holds Tryd.pinned (.plain (OpenSpec.upto fnExactLegsTextSpec)) fnExactLegsTextUptoCard

/-- THE SECOND FORM's CARD OF 'laws.FnExactParseLegs'. -/
def fnExactParseLegsUptoCard : Claim7 := { stood := { row := fnExactParseLegsUptoRow, standIns := [], harness := (true, "51ccf924e49ecab05c745e766fec2051103a91c642c392718c2737bd2149ec52"), looks := true }, kinds := [], alts := [], laidByText := true, laidKinds := [.data, .data, .data, .data, .sentinel, .sentinel, .pinned], laidTests := true, laidLooks := .later }
def FnExactParseLegsUptoCardSaid : Prop := Claim7.holds Tryd.pinned (.plain (OpenSpec.upto fnExactParseLegsSpec)) fnExactParseLegsUptoCard

/-- THE SECOND FORM's CARD OF 'laws.FnExactWalkersText'. -/
def fnExactWalkersTextUptoCard : Claim7 := { stood := { row := fnExactWalkersTextUptoRow, standIns := [], harness := (true, "51ccf924e49ecab05c745e766fec2051103a91c642c392718c2737bd2149ec52"), looks := true }, kinds := [], alts := [], laidByText := true, laidKinds := [.data, .data, .data], laidTests := true, laidLooks := .later }
def FnExactWalkersTextUptoCardSaid : Prop := Claim7.holds Tryd.pinned (.plain (OpenSpec.upto fnExactWalkersTextSpec)) fnExactWalkersTextUptoCard

/-- THE SECOND FORM's CARD OF 'laws.FnExactParseWalkers'. -/
def fnExactParseWalkersUptoCard : Claim7 := { stood := { row := fnExactParseWalkersUptoRow, standIns := [], harness := (true, "51ccf924e49ecab05c745e766fec2051103a91c642c392718c2737bd2149ec52"), looks := true }, kinds := [], alts := [], laidByText := true, laidKinds := [.data, .data, .data, .data, .sentinel, .sentinel, .pinned], laidTests := true, laidLooks := .later }
def FnExactParseWalkersUptoCardSaid : Prop := Claim7.holds Tryd.pinned (.plain (OpenSpec.upto fnExactParseWalkersSpec)) fnExactParseWalkersUptoCard

/-- THE SECOND FORM's CARD OF 'laws.FnExactRunnersText'. -/
def fnExactRunnersTextUptoCard : Claim7 := { stood := { row := fnExactRunnersTextUptoRow, standIns := [], harness := (true, "51ccf924e49ecab05c745e766fec2051103a91c642c392718c2737bd2149ec52"), looks := true }, kinds := [], alts := [], laidByText := true, laidKinds := [.data, .data, .data], laidTests := true, laidLooks := .later }
def FnExactRunnersTextUptoCardSaid : Prop := Claim7.holds Tryd.pinned (.plain (OpenSpec.upto fnExactRunnersTextSpec)) fnExactRunnersTextUptoCard

/-- THE SECOND FORM's CARD OF 'laws.FnExactParseRunners'. -/
def fnExactParseRunnersUptoCard : Claim7 := { stood := { row := fnExactParseRunnersUptoRow, standIns := [], harness := (true, "51ccf924e49ecab05c745e766fec2051103a91c642c392718c2737bd2149ec52"), looks := true }, kinds := [], alts := [], laidByText := true, laidKinds := [.data, .data, .data, .data, .sentinel, .sentinel, .pinned], laidTests := true, laidLooks := .later }
def FnExactParseRunnersUptoCardSaid : Prop := Claim7.holds Tryd.pinned (.plain (OpenSpec.upto fnExactParseRunnersSpec)) fnExactParseRunnersUptoCard
end Rows
end Go.Proofs.YtlfjgggidoakaaaDoor
