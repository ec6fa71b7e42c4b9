/-
  DERIVED. GIVEN WITH THE SEED: THE CARDS: each row of YteagmlaahnpkhaaGreatDoorRows.lean that lists a variable, with what it lists TIED to the program's text (the seventh form; the later family's looks); each row that meets fmt, with fmt's text TOLD by the authors' own Lean function (tested against real Go, not proved from fmt's source: count such statements apart). THE CARD IS WHAT COUNTS. Prove the row's statement (the work); the ties are given (YteagmlaahnpkhaaGreatDoorTie.lean); close each card by the builder's one call (the guide's Derived/Test/ToyasCard.lean, 'card_holds'). Laid BY PROGRAM, IN A SANDBOX (cutbox-door.mjs). By AI agents, Wed Nov 11 2026. No macro, syntax, notation, axiom, sorry.
-/
import Derived.Test.YteagmlaahnpkhaaGreatDoorRows
import GoSem.ClaimSeven
namespace Go.Proofs.YteagmlaahnpkhaaGreatDoor
namespace Rows

/-- THE TIED CARD OF 'drydocklaw11.ModelsLines'. -/
def modelsLinesCard : Claim7 := { stood := { row := modelsLinesRow, standIns := [], harness := (true, "9b76bfc2a3f160074dc6155fac6e04395e39b8da13e191e693b6f80ace4ca34e"), looks := true }, kinds := [], alts := [], laidByText := true, laidKinds := [.data, .data, .data, .data, .sentinel, .sentinel, .listed, .data, .data, .pinned], laidTests := true, laidLooks := .later }
def ModelsLinesCardSaid : Prop := Claim7.holds Tryz.pinned (.plain (OpenSpec.ofChange modelsLinesSpec)) modelsLinesCard

/-- THE SECOND FORM's CARD OF 'drydocklaw11.ModelsLines'. -/
def modelsLinesUptoCard : Claim7 := { stood := { row := modelsLinesUptoRow, standIns := [], harness := (true, "9b76bfc2a3f160074dc6155fac6e04395e39b8da13e191e693b6f80ace4ca34e"), looks := true }, kinds := [], alts := [], laidByText := true, laidKinds := [.data, .data, .data, .data, .sentinel, .sentinel, .listed, .data, .data, .pinned], laidTests := true, laidLooks := .later }
def ModelsLinesUptoCardSaid : Prop := Claim7.holds Tryz.pinned (.plain (OpenSpec.upto modelsLinesSpec)) modelsLinesUptoCard
end Rows
end Go.Proofs.YteagmlaahnpkhaaGreatDoor
