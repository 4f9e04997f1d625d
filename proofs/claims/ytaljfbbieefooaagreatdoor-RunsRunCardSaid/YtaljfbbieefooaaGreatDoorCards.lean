/-
  DERIVED. GIVEN WITH THE SEED: THE CARDS: each row of YtaljfbbieefooaaGreatDoorRows.lean that lists a variable, with what it lists TIED to the program's text (the seventh form; the later family's looks); each row that meets fmt, with fmt's text TOLD by the authors' own Lean function (tested against real Go, not proved from fmt's source: count such statements apart). THE CARD IS WHAT COUNTS. Prove the row's statement (the work); the ties are given (YtaljfbbieefooaaGreatDoorTie.lean); close each card by the builder's one call (the guide's Derived/Test/ToyasCard.lean, 'card_holds'). Laid BY PROGRAM, IN A SANDBOX (cutbox-door.mjs). By AI agents, Wed Nov 11 2026. No macro, syntax, notation, axiom, sorry.
-/
import Derived.Test.YtaljfbbieefooaaGreatDoorRows
import GoSem.ClaimSeven
namespace Go.Proofs.YtaljfbbieefooaaGreatDoor
namespace Rows

/-- THE TIED CARD OF 'ferryhouselaw15.RunsRun'. -/
def runsRunCard : Claim7 := { stood := { row := runsRunRow, standIns := [], harness := (true, "ef2f5c004821efcf4469527241da09c61513ed68cc5e4dc2fc074a841bb9507d"), looks := true }, kinds := [], alts := [], laidByText := true, laidKinds := [.handle], laidTests := true, laidLooks := .later }
def RunsRunCardSaid : Prop := Claim7.holds Tryz.pinned (.plain (OpenSpec.ofChange runsRunSpec)) runsRunCard

/-- THE SECOND FORM's CARD OF 'ferryhouselaw15.RunsRun'. -/
def runsRunUptoCard : Claim7 := { stood := { row := runsRunUptoRow, standIns := [], harness := (true, "ef2f5c004821efcf4469527241da09c61513ed68cc5e4dc2fc074a841bb9507d"), looks := true }, kinds := [], alts := [], laidByText := true, laidKinds := [.handle], laidTests := true, laidLooks := .later }
def RunsRunUptoCardSaid : Prop := Claim7.holds Tryz.pinned (.plain (OpenSpec.upto runsRunSpec)) runsRunUptoCard
end Rows
end Go.Proofs.YtaljfbbieefooaaGreatDoor
