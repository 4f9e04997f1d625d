/-
  DERIVED. GIVEN WITH THE SEED: THE CARDS: each row of YtdeadehcnellpaaDoorRows.lean that lists a variable, with what it lists TIED to the program's text (the seventh form; the later family's looks); each row that meets fmt, with fmt's text TOLD by the authors' own Lean function (tested against real Go, not proved from fmt's source: count such statements apart). THE CARD IS WHAT COUNTS. Prove the row's statement (the work); the ties are given (YtdeadehcnellpaaDoorTie.lean); close each card by the builder's one call (the guide's Derived/Test/ToyasCard.lean, 'card_holds'). Laid BY PROGRAM, IN A SANDBOX (cutbox-door.mjs). By AI agents, Wed Nov 11 2026. No macro, syntax, notation, axiom, sorry.
-/
import Derived.Test.YtdeadehcnellpaaDoorRows
import GoSem.ClaimSeven
namespace Go.Proofs.YtdeadehcnellpaaDoor
namespace Rows

/-- THE TIED CARD OF 'ferryhouselaw08.BudgetsOf'. -/
def budgetsOfCard : Claim7 := { stood := { row := budgetsOfRow, standIns := [], harness := (true, "b8580d125655c9a2e04d10d64175d830dd2f49ee005e9e9428c2d434fe7e3b76"), looks := false }, kinds := [], alts := [], laidByText := true, laidKinds := [.data], laidTests := true, laidLooks := .later }
def BudgetsOfCardSaid : Prop := Claim7.holds Tryd.pinned (.plain (OpenSpec.ofChange budgetsOfSpec)) budgetsOfCard

/-- THE TIED CARD OF 'ferryhouselaw08.BudgetsTold'. -/
def budgetsToldCard : Claim7 := { stood := { row := budgetsToldRow, standIns := [], harness := (true, "b8580d125655c9a2e04d10d64175d830dd2f49ee005e9e9428c2d434fe7e3b76"), looks := false }, kinds := [], alts := [], laidByText := true, laidKinds := [.data], laidTests := true, laidLooks := .later }
def BudgetsToldCardSaid : Prop := Claim7.holds Tryd.pinned (.plain (OpenSpec.ofChange budgetsToldSpec)) budgetsToldCard

/-- THE TIED CARD OF 'ferryhouselaw08.BudgetsBad'. -/
def budgetsBadCard : Claim7 := { stood := { row := budgetsBadRow, standIns := [], harness := (true, "b8580d125655c9a2e04d10d64175d830dd2f49ee005e9e9428c2d434fe7e3b76"), looks := false }, kinds := [], alts := [], laidByText := true, laidKinds := [.data], laidTests := true, laidLooks := .later }
def BudgetsBadCardSaid : Prop := Claim7.holds Tryd.pinned (.plain (OpenSpec.ofChange budgetsBadSpec)) budgetsBadCard

/-- THE TIED CARD OF 'ferryhouselaw08.BudgetsOthers'. -/
def budgetsOthersCard : Claim7 := { stood := { row := budgetsOthersRow, standIns := [], harness := (true, "b8580d125655c9a2e04d10d64175d830dd2f49ee005e9e9428c2d434fe7e3b76"), looks := false }, kinds := [], alts := [], laidByText := true, laidKinds := [.data], laidTests := true, laidLooks := .later }
def BudgetsOthersCardSaid : Prop := Claim7.holds Tryd.pinned (.plain (OpenSpec.ofChange budgetsOthersSpec)) budgetsOthersCard

/-- THE SECOND FORM's CARD OF 'ferryhouselaw08.BudgetsOf'. -/
def budgetsOfUptoCard : Claim7 := { stood := { row := budgetsOfUptoRow, standIns := [], harness := (true, "b8580d125655c9a2e04d10d64175d830dd2f49ee005e9e9428c2d434fe7e3b76"), looks := false }, kinds := [], alts := [], laidByText := true, laidKinds := [.data], laidTests := true, laidLooks := .later }
def BudgetsOfUptoCardSaid : Prop := Claim7.holds Tryd.pinned (.plain (OpenSpec.upto budgetsOfSpec)) budgetsOfUptoCard

/-- THE SECOND FORM's CARD OF 'ferryhouselaw08.BudgetsTold'. -/
def budgetsToldUptoCard : Claim7 := { stood := { row := budgetsToldUptoRow, standIns := [], harness := (true, "b8580d125655c9a2e04d10d64175d830dd2f49ee005e9e9428c2d434fe7e3b76"), looks := false }, kinds := [], alts := [], laidByText := true, laidKinds := [.data], laidTests := true, laidLooks := .later }
def BudgetsToldUptoCardSaid : Prop := Claim7.holds Tryd.pinned (.plain (OpenSpec.upto budgetsToldSpec)) budgetsToldUptoCard

/-- THE SECOND FORM's CARD OF 'ferryhouselaw08.BudgetsBad'. -/
def budgetsBadUptoCard : Claim7 := { stood := { row := budgetsBadUptoRow, standIns := [], harness := (true, "b8580d125655c9a2e04d10d64175d830dd2f49ee005e9e9428c2d434fe7e3b76"), looks := false }, kinds := [], alts := [], laidByText := true, laidKinds := [.data], laidTests := true, laidLooks := .later }
def BudgetsBadUptoCardSaid : Prop := Claim7.holds Tryd.pinned (.plain (OpenSpec.upto budgetsBadSpec)) budgetsBadUptoCard

/-- THE SECOND FORM's CARD OF 'ferryhouselaw08.BudgetsOthers'. -/
def budgetsOthersUptoCard : Claim7 := { stood := { row := budgetsOthersUptoRow, standIns := [], harness := (true, "b8580d125655c9a2e04d10d64175d830dd2f49ee005e9e9428c2d434fe7e3b76"), looks := false }, kinds := [], alts := [], laidByText := true, laidKinds := [.data], laidTests := true, laidLooks := .later }
def BudgetsOthersUptoCardSaid : Prop := Claim7.holds Tryd.pinned (.plain (OpenSpec.upto budgetsOthersSpec)) budgetsOthersUptoCard
end Rows
end Go.Proofs.YtdeadehcnellpaaDoor
