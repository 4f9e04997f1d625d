/-
  NARROWER THAN 'FOR EVERY INPUT', by the rows' own cells (each row's printed sentence says how): BudgetsOf: laid · BudgetsTold: laid · BudgetsBad: laid · BudgetsOthers: laid.
  DERIVED. THE GIVEN ROWS OF THIS SEAT. 4 by the template 'for every input the law returns true; each argument reads behind the call as it read before'; 0 by the template 'total and deterministic' (their statements: YtdeadehcnellpaaDoorTotals.lean).
  GIVEN WITH THE SEED: the statements are not yours to turn. If you find one false, say at which input.
  Laid BY PROGRAM, IN A SANDBOX (cutbox-rows.mjs): the forced cells as the released guide's own fill.sh prints them over the translation 9eb11add0ea81b82… (all of the seat's roots in one cut). By AI agents, Wed Nov 11 2026. No macro, syntax, notation, axiom, sorry.
-/
import Derived.Test.YtdeadehcnellpaaDoorChecked
import GoSem.Claim
import GoSem.ClaimJoined
import GoSem.ClaimMapViews
import Derived.JoinedTies
import Derived.KernelRfl
namespace Go.Proofs.YtdeadehcnellpaaDoor
/- THE CELL 'sum', in the pinned program and in every row, IS THE sha256 OF THE DUMP (.gsa) THAT YtdeadehcnellpaaDoorProg.lean LOADS. Nothing in Lean hashes anything: it is a label: what it is worth is what the hold of that sum in a sandbox is worth. -/
noncomputable def Tryd.pinned : Pinned := { name := "ytdeadehcnellpaadoor", sum := "9eb11add0ea81b820a1f7a182748935dd76934701d6e0d67f4dcadd8a670414e", checked := Tryd.checked }
namespace Rows
def none {H : Type} : Left H := { results := [], args := [] }

/- WHAT THE LISTED PACKAGE-LEVEL VARIABLES READ AS WHEN THE CALL BEGINS. Each datum BY PROGRAM (the guide's laid-datum.mjs) off the statement by which the dump's own 'gosem.cut.vars' lays the variable. In a bare row this is a premise. The card (YtdeadehcnellpaaDoorCards.lean) ties it to the program's text. -/
def laid_ferryhouse_budgets_lengths {H : Type} : DataW H := .agg [.lit (.int .i64 0), .lit (.int .i64 0), .lit (.int .i64 4), .lit (.int .i64 8)]

/-- 'ferryhouselaw08.BudgetsOf': WHATEVER THE INPUT: true; the input reads as it did. -/
def budgetsOfSpec : ChangeSpec := { name := "budgetsOf", fn := fun _ => fun
  | [d] => { results := [.lit (.bool true)], args := [d] }
  | _ => none }
def budgetsOfRow : OpenClaim := { program := "ytdeadehcnellpaadoor", sum := "9eb11add0ea81b820a1f7a182748935dd76934701d6e0d67f4dcadd8a670414e", func := "ferryhouse/ferryhouselaw08.BudgetsOf", spec := "budgetsOf", named := ["ferryhouse/budgets.lengths"], apart := false, laid := [("ferryhouse/budgets.lengths", laid_ferryhouse_budgets_lengths)] }
def BudgetsOfSaid : Prop := budgetsOfRow.holds Tryd.pinned (OpenSpec.ofChange budgetsOfSpec)

/-- ITS FALSE NEIGHBOUR: 'it returns false'. Refute it at one input. -/
def budgetsOfWrong : ChangeSpec := { name := "budgetsOf", fn := fun _ => fun
  | [d] => { results := [.lit (.bool false)], args := [d] }
  | _ => none }
def BudgetsOfWrongFalsely : Prop := budgetsOfRow.holds Tryd.pinned (OpenSpec.ofChange budgetsOfWrong)

/-- 'ferryhouselaw08.BudgetsTold': WHATEVER THE INPUT: true; the input reads as it did. -/
def budgetsToldSpec : ChangeSpec := { name := "budgetsTold", fn := fun _ => fun
  | [d1, d2, d3] => { results := [.lit (.bool true)], args := [d1, d2, d3] }
  | _ => none }
def budgetsToldRow : OpenClaim := { program := "ytdeadehcnellpaadoor", sum := "9eb11add0ea81b820a1f7a182748935dd76934701d6e0d67f4dcadd8a670414e", func := "ferryhouse/ferryhouselaw08.BudgetsTold", spec := "budgetsTold", named := ["ferryhouse/budgets.lengths"], apart := false, laid := [("ferryhouse/budgets.lengths", laid_ferryhouse_budgets_lengths)] }
def BudgetsToldSaid : Prop := budgetsToldRow.holds Tryd.pinned (OpenSpec.ofChange budgetsToldSpec)

/-- ITS FALSE NEIGHBOUR: 'it returns false'. Refute it at one input. -/
def budgetsToldWrong : ChangeSpec := { name := "budgetsTold", fn := fun _ => fun
  | [d1, d2, d3] => { results := [.lit (.bool false)], args := [d1, d2, d3] }
  | _ => none }
def BudgetsToldWrongFalsely : Prop := budgetsToldRow.holds Tryd.pinned (OpenSpec.ofChange budgetsToldWrong)

/-- 'ferryhouselaw08.BudgetsBad': WHATEVER THE INPUT: true; the input reads as it did. -/
def budgetsBadSpec : ChangeSpec := { name := "budgetsBad", fn := fun _ => fun
  | [d1, d2] => { results := [.lit (.bool true)], args := [d1, d2] }
  | _ => none }
def budgetsBadRow : OpenClaim := { program := "ytdeadehcnellpaadoor", sum := "9eb11add0ea81b820a1f7a182748935dd76934701d6e0d67f4dcadd8a670414e", func := "ferryhouse/ferryhouselaw08.BudgetsBad", spec := "budgetsBad", named := ["ferryhouse/budgets.lengths"], apart := false, laid := [("ferryhouse/budgets.lengths", laid_ferryhouse_budgets_lengths)] }
def BudgetsBadSaid : Prop := budgetsBadRow.holds Tryd.pinned (OpenSpec.ofChange budgetsBadSpec)

/-- ITS FALSE NEIGHBOUR: 'it returns false'. Refute it at one input. -/
def budgetsBadWrong : ChangeSpec := { name := "budgetsBad", fn := fun _ => fun
  | [d1, d2] => { results := [.lit (.bool false)], args := [d1, d2] }
  | _ => none }
def BudgetsBadWrongFalsely : Prop := budgetsBadRow.holds Tryd.pinned (OpenSpec.ofChange budgetsBadWrong)

/-- 'ferryhouselaw08.BudgetsOthers': WHATEVER THE INPUT: true; the input reads as it did. -/
def budgetsOthersSpec : ChangeSpec := { name := "budgetsOthers", fn := fun _ => fun
  | [d1, d2] => { results := [.lit (.bool true)], args := [d1, d2] }
  | _ => none }
def budgetsOthersRow : OpenClaim := { program := "ytdeadehcnellpaadoor", sum := "9eb11add0ea81b820a1f7a182748935dd76934701d6e0d67f4dcadd8a670414e", func := "ferryhouse/ferryhouselaw08.BudgetsOthers", spec := "budgetsOthers", named := ["ferryhouse/budgets.lengths"], apart := false, laid := [("ferryhouse/budgets.lengths", laid_ferryhouse_budgets_lengths)] }
def BudgetsOthersSaid : Prop := budgetsOthersRow.holds Tryd.pinned (OpenSpec.ofChange budgetsOthersSpec)

/-- ITS FALSE NEIGHBOUR: 'it returns false'. Refute it at one input. -/
def budgetsOthersWrong : ChangeSpec := { name := "budgetsOthers", fn := fun _ => fun
  | [d1, d2] => { results := [.lit (.bool false)], args := [d1, d2] }
  | _ => none }
def BudgetsOthersWrongFalsely : Prop := budgetsOthersRow.holds Tryd.pinned (OpenSpec.ofChange budgetsOthersWrong)

/- THE SECOND FORM. 'bulk': how many values and letters a reading holds, each counted each time it is reached (what is shared counts as often as it is met; a slice's spare places count too). A statement '..UptoSaid' is the law's where the arguments, and the package variables that the reading takes, are together of bulk at most 1048576: NARROWER than '..Said'. Prove '..Said' where nothing that the law and all that it calls make is longer than what came in: it says more and counts as full. Else prove '..UptoSaid'. A law counts once. -/
mutual
def uptoBulk {H : Type} : DataW H → Nat
  | .lit (.string bytes) => bytes.length + 1
  | .lit _ => 1
  | .nil => 1
  | .ptr d => uptoBulk d + 1
  | .slice elems spare => uptoBulkAll elems + uptoBulkAll spare + 1
  | .agg parts => uptoBulkAll parts + 1
  | .iface _ d => uptoBulk d + 1
  | .map entries => uptoBulkEntries entries + 1
  | .held _ => 1
def uptoBulkAll {H : Type} : List (DataW H) → Nat
  | [] => 0
  | d :: r => uptoBulk d + uptoBulkAll r
def uptoBulkEntries {H : Type} : List (Lit × DataW H) → Nat
  | [] => 0
  | x :: r => uptoBulkEntry x + uptoBulkEntries r
def uptoBulkEntry {H : Type} : Lit × DataW H → Nat
  | (.string bytes, d) => bytes.length + uptoBulk d + 1
  | (_, d) => uptoBulk d + 1
 end
def uptoSmall : (H : Type) → List (DataW H) → Bool := fun _ ds => decide (uptoBulkAll ds ≤ 1048576)
def OpenSpec.upto (s : _root_.Go.ChangeSpec) : _root_.Go.OpenSpec := { _root_.Go.OpenSpec.ofChange s with cond := some uptoSmall }

/-- 'ferryhouselaw08.BudgetsOf', WHERE WHAT IT READS IS OF BULK AT MOST 1048576: true; the input reads as it did. -/
def budgetsOfUptoRow : OpenClaim := { program := "ytdeadehcnellpaadoor", sum := "9eb11add0ea81b820a1f7a182748935dd76934701d6e0d67f4dcadd8a670414e", func := "ferryhouse/ferryhouselaw08.BudgetsOf", spec := "budgetsOf", named := ["ferryhouse/budgets.lengths"], apart := false, laid := [("ferryhouse/budgets.lengths", laid_ferryhouse_budgets_lengths)], narrowed := true }
def BudgetsOfUptoSaid : Prop := budgetsOfUptoRow.holds Tryd.pinned (OpenSpec.upto budgetsOfSpec)

/-- 'ferryhouselaw08.BudgetsTold', WHERE WHAT IT READS IS OF BULK AT MOST 1048576: true; the input reads as it did. -/
def budgetsToldUptoRow : OpenClaim := { program := "ytdeadehcnellpaadoor", sum := "9eb11add0ea81b820a1f7a182748935dd76934701d6e0d67f4dcadd8a670414e", func := "ferryhouse/ferryhouselaw08.BudgetsTold", spec := "budgetsTold", named := ["ferryhouse/budgets.lengths"], apart := false, laid := [("ferryhouse/budgets.lengths", laid_ferryhouse_budgets_lengths)], narrowed := true }
def BudgetsToldUptoSaid : Prop := budgetsToldUptoRow.holds Tryd.pinned (OpenSpec.upto budgetsToldSpec)

/-- 'ferryhouselaw08.BudgetsBad', WHERE WHAT IT READS IS OF BULK AT MOST 1048576: true; the input reads as it did. -/
def budgetsBadUptoRow : OpenClaim := { program := "ytdeadehcnellpaadoor", sum := "9eb11add0ea81b820a1f7a182748935dd76934701d6e0d67f4dcadd8a670414e", func := "ferryhouse/ferryhouselaw08.BudgetsBad", spec := "budgetsBad", named := ["ferryhouse/budgets.lengths"], apart := false, laid := [("ferryhouse/budgets.lengths", laid_ferryhouse_budgets_lengths)], narrowed := true }
def BudgetsBadUptoSaid : Prop := budgetsBadUptoRow.holds Tryd.pinned (OpenSpec.upto budgetsBadSpec)

/-- 'ferryhouselaw08.BudgetsOthers', WHERE WHAT IT READS IS OF BULK AT MOST 1048576: true; the input reads as it did. -/
def budgetsOthersUptoRow : OpenClaim := { program := "ytdeadehcnellpaadoor", sum := "9eb11add0ea81b820a1f7a182748935dd76934701d6e0d67f4dcadd8a670414e", func := "ferryhouse/ferryhouselaw08.BudgetsOthers", spec := "budgetsOthers", named := ["ferryhouse/budgets.lengths"], apart := false, laid := [("ferryhouse/budgets.lengths", laid_ferryhouse_budgets_lengths)], narrowed := true }
def BudgetsOthersUptoSaid : Prop := budgetsOthersUptoRow.holds Tryd.pinned (OpenSpec.upto budgetsOthersSpec)

end Rows
end Go.Proofs.YtdeadehcnellpaaDoor
