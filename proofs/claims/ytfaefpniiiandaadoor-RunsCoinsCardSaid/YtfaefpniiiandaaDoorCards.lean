/-
  DERIVED. GIVEN WITH THE SEED: THE CARDS: each row of YtfaefpniiiandaaDoorRows.lean that lists a variable, with what it lists TIED to the program's text (the seventh form; the later family's looks); each row that meets fmt, with fmt's text TOLD by the authors' own Lean function (tested against real Go, not proved from fmt's source: count such statements apart). THE CARD IS WHAT COUNTS. Prove the row's statement (the work); the ties are given (YtfaefpniiiandaaDoorTie.lean); close each card by the builder's one call (the guide's Derived/Test/ToyasCard.lean, 'card_holds'). Laid BY PROGRAM, IN A SANDBOX (cutbox-door.mjs). By AI agents, Wed Nov 11 2026. No macro, syntax, notation, axiom, sorry.
-/
import Derived.Test.YtfaefpniiiandaaDoorRows
import GoSem.ClaimSeven
namespace Go.Proofs.YtfaefpniiiandaaDoor
namespace Rows

/-- THE TIED CARD OF 'ferryhouselaw15.RunsCoins'. -/
def runsCoinsCard : Claim7 := { stood := { row := runsCoinsRow, standIns := [], harness := (true, "c478b65fb560741d66268de2c1119b74dddc2d50dc96e88f416f5ece470ae6ff"), looks := true }, kinds := [], alts := [], laidByText := true, laidKinds := [.handle], laidTests := true, laidLooks := .later }
def RunsCoinsCardSaid : Prop := Claim7.holds Tryd.pinned (.plain (OpenSpec.ofChange runsCoinsSpec)) runsCoinsCard

/-- THE TIED CARD OF 'ferryhouselaw15.RunsAhead'. -/
def runsAheadCard : Claim7 := { stood := { row := runsAheadRow, standIns := [], harness := (true, "c478b65fb560741d66268de2c1119b74dddc2d50dc96e88f416f5ece470ae6ff"), looks := true }, kinds := [], alts := [], laidByText := true, laidKinds := [.handle], laidTests := true, laidLooks := .later }
def RunsAheadCardSaid : Prop := Claim7.holds Tryd.pinned (.plain (OpenSpec.ofChange runsAheadSpec)) runsAheadCard

/-- THE TIED CARD OF 'ferryhouselaw16.LedgersApart'. -/
def ledgersApartCard : Claim7 := { stood := { row := ledgersApartRow, standIns := [], harness := (true, "c478b65fb560741d66268de2c1119b74dddc2d50dc96e88f416f5ece470ae6ff"), looks := true }, kinds := [], alts := [], laidByText := true, laidKinds := [.handle], laidTests := true, laidLooks := .later }
def LedgersApartCardSaid : Prop := Claim7.holds Tryd.pinned (.plain (OpenSpec.ofChange ledgersApartSpec)) ledgersApartCard

/-- THE TIED CARD OF 'ferryhouselaw16.LedgersBehind'. -/
def ledgersBehindCard : Claim7 := { stood := { row := ledgersBehindRow, standIns := [], harness := (true, "c478b65fb560741d66268de2c1119b74dddc2d50dc96e88f416f5ece470ae6ff"), looks := true }, kinds := [], alts := [], laidByText := true, laidKinds := [.handle], laidTests := true, laidLooks := .later }
def LedgersBehindCardSaid : Prop := Claim7.holds Tryd.pinned (.plain (OpenSpec.ofChange ledgersBehindSpec)) ledgersBehindCard

/-- THE TIED CARD OF 'ferryhouselaw16.LedgersKeys'. -/
def ledgersKeysCard : Claim7 := { stood := { row := ledgersKeysRow, standIns := [], harness := (true, "c478b65fb560741d66268de2c1119b74dddc2d50dc96e88f416f5ece470ae6ff"), looks := true }, kinds := [], alts := [], laidByText := true, laidKinds := [.handle], laidTests := true, laidLooks := .later }
def LedgersKeysCardSaid : Prop := Claim7.holds Tryd.pinned (.plain (OpenSpec.ofChange ledgersKeysSpec)) ledgersKeysCard

/-- THE SECOND FORM's CARD OF 'ferryhouselaw15.RunsCoins'. -/
def runsCoinsUptoCard : Claim7 := { stood := { row := runsCoinsUptoRow, standIns := [], harness := (true, "c478b65fb560741d66268de2c1119b74dddc2d50dc96e88f416f5ece470ae6ff"), looks := true }, kinds := [], alts := [], laidByText := true, laidKinds := [.handle], laidTests := true, laidLooks := .later }
def RunsCoinsUptoCardSaid : Prop := Claim7.holds Tryd.pinned (.plain (OpenSpec.upto runsCoinsSpec)) runsCoinsUptoCard

/-- THE SECOND FORM's CARD OF 'ferryhouselaw15.RunsAhead'. -/
def runsAheadUptoCard : Claim7 := { stood := { row := runsAheadUptoRow, standIns := [], harness := (true, "c478b65fb560741d66268de2c1119b74dddc2d50dc96e88f416f5ece470ae6ff"), looks := true }, kinds := [], alts := [], laidByText := true, laidKinds := [.handle], laidTests := true, laidLooks := .later }
def RunsAheadUptoCardSaid : Prop := Claim7.holds Tryd.pinned (.plain (OpenSpec.upto runsAheadSpec)) runsAheadUptoCard

/-- THE SECOND FORM's CARD OF 'ferryhouselaw16.LedgersApart'. -/
def ledgersApartUptoCard : Claim7 := { stood := { row := ledgersApartUptoRow, standIns := [], harness := (true, "c478b65fb560741d66268de2c1119b74dddc2d50dc96e88f416f5ece470ae6ff"), looks := true }, kinds := [], alts := [], laidByText := true, laidKinds := [.handle], laidTests := true, laidLooks := .later }
def LedgersApartUptoCardSaid : Prop := Claim7.holds Tryd.pinned (.plain (OpenSpec.upto ledgersApartSpec)) ledgersApartUptoCard

/-- THE SECOND FORM's CARD OF 'ferryhouselaw16.LedgersBehind'. -/
def ledgersBehindUptoCard : Claim7 := { stood := { row := ledgersBehindUptoRow, standIns := [], harness := (true, "c478b65fb560741d66268de2c1119b74dddc2d50dc96e88f416f5ece470ae6ff"), looks := true }, kinds := [], alts := [], laidByText := true, laidKinds := [.handle], laidTests := true, laidLooks := .later }
def LedgersBehindUptoCardSaid : Prop := Claim7.holds Tryd.pinned (.plain (OpenSpec.upto ledgersBehindSpec)) ledgersBehindUptoCard

/-- THE SECOND FORM's CARD OF 'ferryhouselaw16.LedgersKeys'. -/
def ledgersKeysUptoCard : Claim7 := { stood := { row := ledgersKeysUptoRow, standIns := [], harness := (true, "c478b65fb560741d66268de2c1119b74dddc2d50dc96e88f416f5ece470ae6ff"), looks := true }, kinds := [], alts := [], laidByText := true, laidKinds := [.handle], laidTests := true, laidLooks := .later }
def LedgersKeysUptoCardSaid : Prop := Claim7.holds Tryd.pinned (.plain (OpenSpec.upto ledgersKeysSpec)) ledgersKeysUptoCard
end Rows
end Go.Proofs.YtfaefpniiiandaaDoor
