/-
  DERIVED. GIVEN WITH THE SEED: THE CARDS: each row of YtohndckbhjakfaaGreatDoorRows.lean that lists a variable, with what it lists TIED to the program's text (the seventh form; the later family's looks); each row that meets fmt, with fmt's text TOLD by the authors' own Lean function (tested against real Go, not proved from fmt's source: count such statements apart). THE CARD IS WHAT COUNTS. Prove the row's statement (the work); the ties are given (YtohndckbhjakfaaGreatDoorTie.lean); close each card by the builder's one call (the guide's Derived/Test/ToyasCard.lean, 'card_holds'). Laid BY PROGRAM, IN A SANDBOX (cutbox-door.mjs). By AI agents, Wed Nov 11 2026. No macro, syntax, notation, axiom, sorry.
-/
import Derived.Test.YtohndckbhjakfaaGreatDoorRows
import GoSem.ClaimSeven
namespace Go.Proofs.YtohndckbhjakfaaGreatDoor
namespace Rows

/-- THE TIED CARD OF 'drydocklaw11.ModelsBack'. -/
def modelsBackCard : Claim7 := { stood := { row := modelsBackRow, standIns := [], harness := (true, "d25b963ff6198359c1afa423f824179baad67f0ee70fd06edf6d83ad89f35032"), looks := true }, kinds := [], alts := [], laidByText := true, laidKinds := [.data, .data, .data, .data, .sentinel, .sentinel, .listed, .data, .data, .pinned], laidTests := true, laidLooks := .later }
def ModelsBackCardSaid : Prop := Claim7.holds Tryz.pinned (.plain (OpenSpec.ofChange modelsBackSpec)) modelsBackCard

/-- THE TIED CARD OF 'drydocklaw11.ModelsTurned'. -/
def modelsTurnedCard : Claim7 := { stood := { row := modelsTurnedRow, standIns := [], harness := (true, "d25b963ff6198359c1afa423f824179baad67f0ee70fd06edf6d83ad89f35032"), looks := true }, kinds := [], alts := [], laidByText := true, laidKinds := [.data, .data, .data, .data, .sentinel, .sentinel, .listed, .data, .data, .pinned], laidTests := true, laidLooks := .later }
def ModelsTurnedCardSaid : Prop := Claim7.holds Tryz.pinned (.plain (OpenSpec.ofChange modelsTurnedSpec)) modelsTurnedCard

/-- THE TIED CARD OF 'drydocklaw11.ModelsUnlike'. -/
def modelsUnlikeCard : Claim7 := { stood := { row := modelsUnlikeRow, standIns := [], harness := (true, "d25b963ff6198359c1afa423f824179baad67f0ee70fd06edf6d83ad89f35032"), looks := true }, kinds := [], alts := [], laidByText := true, laidKinds := [.data, .data, .data, .data, .sentinel, .sentinel, .listed, .data, .data, .pinned], laidTests := true, laidLooks := .later }
def ModelsUnlikeCardSaid : Prop := Claim7.holds Tryz.pinned (.plain (OpenSpec.ofChange modelsUnlikeSpec)) modelsUnlikeCard

/-- THE SECOND FORM's CARD OF 'drydocklaw11.ModelsBack'. -/
def modelsBackUptoCard : Claim7 := { stood := { row := modelsBackUptoRow, standIns := [], harness := (true, "d25b963ff6198359c1afa423f824179baad67f0ee70fd06edf6d83ad89f35032"), looks := true }, kinds := [], alts := [], laidByText := true, laidKinds := [.data, .data, .data, .data, .sentinel, .sentinel, .listed, .data, .data, .pinned], laidTests := true, laidLooks := .later }
def ModelsBackUptoCardSaid : Prop := Claim7.holds Tryz.pinned (.plain (OpenSpec.upto modelsBackSpec)) modelsBackUptoCard

/-- THE SECOND FORM's CARD OF 'drydocklaw11.ModelsTurned'. -/
def modelsTurnedUptoCard : Claim7 := { stood := { row := modelsTurnedUptoRow, standIns := [], harness := (true, "d25b963ff6198359c1afa423f824179baad67f0ee70fd06edf6d83ad89f35032"), looks := true }, kinds := [], alts := [], laidByText := true, laidKinds := [.data, .data, .data, .data, .sentinel, .sentinel, .listed, .data, .data, .pinned], laidTests := true, laidLooks := .later }
def ModelsTurnedUptoCardSaid : Prop := Claim7.holds Tryz.pinned (.plain (OpenSpec.upto modelsTurnedSpec)) modelsTurnedUptoCard

/-- THE SECOND FORM's CARD OF 'drydocklaw11.ModelsUnlike'. -/
def modelsUnlikeUptoCard : Claim7 := { stood := { row := modelsUnlikeUptoRow, standIns := [], harness := (true, "d25b963ff6198359c1afa423f824179baad67f0ee70fd06edf6d83ad89f35032"), looks := true }, kinds := [], alts := [], laidByText := true, laidKinds := [.data, .data, .data, .data, .sentinel, .sentinel, .listed, .data, .data, .pinned], laidTests := true, laidLooks := .later }
def ModelsUnlikeUptoCardSaid : Prop := Claim7.holds Tryz.pinned (.plain (OpenSpec.upto modelsUnlikeSpec)) modelsUnlikeUptoCard
end Rows
end Go.Proofs.YtohndckbhjakfaaGreatDoor
