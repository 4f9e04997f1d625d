/-
  DERIVED. GIVEN WITH THE SEED: THE CARDS: each row of YtaljfbbieefooaaDoorRows.lean that lists a variable, with what it lists TIED to the program's text (the seventh form; the later family's looks); each row that meets fmt, with fmt's text TOLD by the authors' own Lean function (tested against real Go, not proved from fmt's source: count such statements apart). THE CARD IS WHAT COUNTS. Prove the row's statement (the work); the ties are given (YtaljfbbieefooaaDoorTie.lean); close each card by the builder's one call (the guide's Derived/Test/ToyasCard.lean, 'card_holds'). Laid BY PROGRAM, IN A SANDBOX (cutbox-door.mjs). By AI agents, Wed Nov 11 2026. No macro, syntax, notation, axiom, sorry.
-/
import Derived.Test.YtaljfbbieefooaaDoorRows
import GoSem.ClaimSeven
namespace Go.Proofs.YtaljfbbieefooaaDoor
namespace Rows

/-- THE TIED CARD OF 'ferryhouselaw15.RunsCoins'. -/
def runsCoinsCard : Claim7 := { stood := { row := runsCoinsRow, standIns := [], harness := (true, "6410ab0a47c1ac7fac311d46850a08d48365e10691164daef230ca2a15d093c5"), looks := true }, kinds := [], alts := [], laidByText := true, laidKinds := [.handle], laidTests := true, laidLooks := .later }
def RunsCoinsCardSaid : Prop := Claim7.holds Tryd.pinned (.plain (OpenSpec.ofChange runsCoinsSpec)) runsCoinsCard

/-- THE TIED CARD OF 'ferryhouselaw15.RunsFail'. -/
def runsFailCard : Claim7 := { stood := { row := runsFailRow, standIns := [], harness := (true, "6410ab0a47c1ac7fac311d46850a08d48365e10691164daef230ca2a15d093c5"), looks := true }, kinds := [], alts := [], laidByText := true, laidKinds := [.handle], laidTests := true, laidLooks := .later }
def RunsFailCardSaid : Prop := Claim7.holds Tryd.pinned (.plain (OpenSpec.ofChange runsFailSpec)) runsFailCard

/-- THE TIED CARD OF 'ferryhouselaw15.RunsAhead'. -/
def runsAheadCard : Claim7 := { stood := { row := runsAheadRow, standIns := [], harness := (true, "6410ab0a47c1ac7fac311d46850a08d48365e10691164daef230ca2a15d093c5"), looks := true }, kinds := [], alts := [], laidByText := true, laidKinds := [.handle], laidTests := true, laidLooks := .later }
def RunsAheadCardSaid : Prop := Claim7.holds Tryd.pinned (.plain (OpenSpec.ofChange runsAheadSpec)) runsAheadCard

/-- THE SECOND FORM's CARD OF 'ferryhouselaw15.RunsCoins'. -/
def runsCoinsUptoCard : Claim7 := { stood := { row := runsCoinsUptoRow, standIns := [], harness := (true, "6410ab0a47c1ac7fac311d46850a08d48365e10691164daef230ca2a15d093c5"), looks := true }, kinds := [], alts := [], laidByText := true, laidKinds := [.handle], laidTests := true, laidLooks := .later }
def RunsCoinsUptoCardSaid : Prop := Claim7.holds Tryd.pinned (.plain (OpenSpec.upto runsCoinsSpec)) runsCoinsUptoCard

/-- THE SECOND FORM's CARD OF 'ferryhouselaw15.RunsFail'. -/
def runsFailUptoCard : Claim7 := { stood := { row := runsFailUptoRow, standIns := [], harness := (true, "6410ab0a47c1ac7fac311d46850a08d48365e10691164daef230ca2a15d093c5"), looks := true }, kinds := [], alts := [], laidByText := true, laidKinds := [.handle], laidTests := true, laidLooks := .later }
def RunsFailUptoCardSaid : Prop := Claim7.holds Tryd.pinned (.plain (OpenSpec.upto runsFailSpec)) runsFailUptoCard

/-- THE SECOND FORM's CARD OF 'ferryhouselaw15.RunsAhead'. -/
def runsAheadUptoCard : Claim7 := { stood := { row := runsAheadUptoRow, standIns := [], harness := (true, "6410ab0a47c1ac7fac311d46850a08d48365e10691164daef230ca2a15d093c5"), looks := true }, kinds := [], alts := [], laidByText := true, laidKinds := [.handle], laidTests := true, laidLooks := .later }
def RunsAheadUptoCardSaid : Prop := Claim7.holds Tryd.pinned (.plain (OpenSpec.upto runsAheadSpec)) runsAheadUptoCard
end Rows
end Go.Proofs.YtaljfbbieefooaaDoor
