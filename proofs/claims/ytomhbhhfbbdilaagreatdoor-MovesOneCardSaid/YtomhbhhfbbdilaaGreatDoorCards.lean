/-
  DERIVED. GIVEN WITH THE SEED: THE CARDS: each row of YtomhbhhfbbdilaaGreatDoorRows.lean that lists a variable, with what it lists TIED to the program's text (the seventh form; the later family's looks); each row that meets fmt, with fmt's text TOLD by the authors' own Lean function (tested against real Go, not proved from fmt's source: count such statements apart). THE CARD IS WHAT COUNTS. Prove the row's statement (the work); the ties are given (YtomhbhhfbbdilaaGreatDoorTie.lean); close each card by the builder's one call (the guide's Derived/Test/ToyasCard.lean, 'card_holds'). Laid BY PROGRAM, IN A SANDBOX (cutbox-door.mjs). By AI agents, Wed Nov 11 2026. No macro, syntax, notation, axiom, sorry.
-/
import Derived.Test.YtomhbhhfbbdilaaGreatDoorRows
import GoSem.ClaimSeven
namespace Go.Proofs.YtomhbhhfbbdilaaGreatDoor
namespace Rows

/-- THE TIED CARD OF 'drydocklaw10.GraphsOf'. -/
def graphsOfCard : Claim7 := { stood := { row := graphsOfRow, standIns := [], harness := (true, "0ca34bfe5d4fc7ad43e0fed85e6ad40022ec7b93bbe7031eba477df8af4bc109"), looks := false }, kinds := [], alts := [], laidByText := true, laidKinds := [.data, .data, .data], laidTests := true, laidLooks := .later }
def GraphsOfCardSaid : Prop := Claim7.holds Tryz.pinned (.plain (OpenSpec.ofChange graphsOfSpec)) graphsOfCard

/-- THE TIED CARD OF 'drydocklaw09.MovesOne'. -/
def movesOneCard : Claim7 := { stood := { row := movesOneRow, standIns := [], harness := (true, "0ca34bfe5d4fc7ad43e0fed85e6ad40022ec7b93bbe7031eba477df8af4bc109"), looks := false }, kinds := [], alts := [], laidByText := true, laidKinds := [.data, .data, .data], laidTests := true, laidLooks := .later }
def MovesOneCardSaid : Prop := Claim7.holds Tryz.pinned (.plain (OpenSpec.ofChange movesOneSpec)) movesOneCard

/-- THE TIED CARD OF 'drydocklaw09.MovesJoin'. -/
def movesJoinCard : Claim7 := { stood := { row := movesJoinRow, standIns := [], harness := (true, "0ca34bfe5d4fc7ad43e0fed85e6ad40022ec7b93bbe7031eba477df8af4bc109"), looks := false }, kinds := [], alts := [], laidByText := true, laidKinds := [.data, .data, .data], laidTests := true, laidLooks := .later }
def MovesJoinCardSaid : Prop := Claim7.holds Tryz.pinned (.plain (OpenSpec.ofChange movesJoinSpec)) movesJoinCard

/-- THE SECOND FORM's CARD OF 'drydocklaw10.GraphsOf'. -/
def graphsOfUptoCard : Claim7 := { stood := { row := graphsOfUptoRow, standIns := [], harness := (true, "0ca34bfe5d4fc7ad43e0fed85e6ad40022ec7b93bbe7031eba477df8af4bc109"), looks := false }, kinds := [], alts := [], laidByText := true, laidKinds := [.data, .data, .data], laidTests := true, laidLooks := .later }
def GraphsOfUptoCardSaid : Prop := Claim7.holds Tryz.pinned (.plain (OpenSpec.upto graphsOfSpec)) graphsOfUptoCard

/-- THE SECOND FORM's CARD OF 'drydocklaw09.MovesOne'. -/
def movesOneUptoCard : Claim7 := { stood := { row := movesOneUptoRow, standIns := [], harness := (true, "0ca34bfe5d4fc7ad43e0fed85e6ad40022ec7b93bbe7031eba477df8af4bc109"), looks := false }, kinds := [], alts := [], laidByText := true, laidKinds := [.data, .data, .data], laidTests := true, laidLooks := .later }
def MovesOneUptoCardSaid : Prop := Claim7.holds Tryz.pinned (.plain (OpenSpec.upto movesOneSpec)) movesOneUptoCard

/-- THE SECOND FORM's CARD OF 'drydocklaw09.MovesJoin'. -/
def movesJoinUptoCard : Claim7 := { stood := { row := movesJoinUptoRow, standIns := [], harness := (true, "0ca34bfe5d4fc7ad43e0fed85e6ad40022ec7b93bbe7031eba477df8af4bc109"), looks := false }, kinds := [], alts := [], laidByText := true, laidKinds := [.data, .data, .data], laidTests := true, laidLooks := .later }
def MovesJoinUptoCardSaid : Prop := Claim7.holds Tryz.pinned (.plain (OpenSpec.upto movesJoinSpec)) movesJoinUptoCard
end Rows
end Go.Proofs.YtomhbhhfbbdilaaGreatDoor
