/-
  DERIVED. GIVEN WITH THE SEED: THE CARDS: each row of YtgkilankaknfcaaGreatDoorRows.lean that lists a variable, with what it lists TIED to the program's text (the seventh form; the later family's looks); each row that meets fmt, with fmt's text TOLD by the authors' own Lean function (tested against real Go, not proved from fmt's source: count such statements apart). THE CARD IS WHAT COUNTS. Prove the row's statement (the work); the ties are given (YtgkilankaknfcaaGreatDoorTie.lean); close each card by the builder's one call (the guide's Derived/Test/ToyasCard.lean, 'card_holds'). Laid BY PROGRAM, IN A SANDBOX (cutbox-door.mjs). By AI agents, Wed Nov 11 2026. No macro, syntax, notation, axiom, sorry.
-/
import Derived.Test.YtgkilankaknfcaaGreatDoorRows
import GoSem.ClaimSeven
namespace Go.Proofs.YtgkilankaknfcaaGreatDoor
namespace Rows

/-- THE TIED CARD OF 'drydocklaw08.WindowsOf'. -/
def windowsOfCard : Claim7 := { stood := { row := windowsOfRow, standIns := [], harness := (true, "3de3bbad0710889191935a91b065310f724a381fea60bea4c3a7041c22f682ce"), looks := false }, kinds := [], alts := [], laidByText := true, laidKinds := [.data, .data, .data], laidTests := true, laidLooks := .later }
def WindowsOfCardSaid : Prop := Claim7.holds Tryz.pinned (.plain (OpenSpec.ofChange windowsOfSpec)) windowsOfCard

/-- THE TIED CARD OF 'drydocklaw08.WindowsPool'. -/
def windowsPoolCard : Claim7 := { stood := { row := windowsPoolRow, standIns := [], harness := (true, "3de3bbad0710889191935a91b065310f724a381fea60bea4c3a7041c22f682ce"), looks := false }, kinds := [], alts := [], laidByText := true, laidKinds := [.data, .data, .data], laidTests := true, laidLooks := .later }
def WindowsPoolCardSaid : Prop := Claim7.holds Tryz.pinned (.plain (OpenSpec.ofChange windowsPoolSpec)) windowsPoolCard

/-- THE SECOND FORM's CARD OF 'drydocklaw08.WindowsOf'. -/
def windowsOfUptoCard : Claim7 := { stood := { row := windowsOfUptoRow, standIns := [], harness := (true, "3de3bbad0710889191935a91b065310f724a381fea60bea4c3a7041c22f682ce"), looks := false }, kinds := [], alts := [], laidByText := true, laidKinds := [.data, .data, .data], laidTests := true, laidLooks := .later }
def WindowsOfUptoCardSaid : Prop := Claim7.holds Tryz.pinned (.plain (OpenSpec.upto windowsOfSpec)) windowsOfUptoCard

/-- THE SECOND FORM's CARD OF 'drydocklaw08.WindowsPool'. -/
def windowsPoolUptoCard : Claim7 := { stood := { row := windowsPoolUptoRow, standIns := [], harness := (true, "3de3bbad0710889191935a91b065310f724a381fea60bea4c3a7041c22f682ce"), looks := false }, kinds := [], alts := [], laidByText := true, laidKinds := [.data, .data, .data], laidTests := true, laidLooks := .later }
def WindowsPoolUptoCardSaid : Prop := Claim7.holds Tryz.pinned (.plain (OpenSpec.upto windowsPoolSpec)) windowsPoolUptoCard
end Rows
end Go.Proofs.YtgkilankaknfcaaGreatDoor
