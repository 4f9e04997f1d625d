/-
  No cell of these rows narrows 'for every input' (looked for: loops, veiled, ifaces, maps, wideKeys, modest, calm, conditions, laid).
  DERIVED. THE GIVEN ROWS OF THIS SEAT. 5 by the template 'for every input the law returns true; each argument reads behind the call as it read before'; 0 by the template 'total and deterministic' (their statements: YtodoaebpkmhhmaaTotals.lean).
  GIVEN WITH THE SEED: the statements are not yours to turn. If you find one false, say at which input.
  Laid BY PROGRAM, IN A SANDBOX (cutbox-rows.mjs): the forced cells as the released guide's own fill.sh prints them over the translation 9d384d80c97e0ca9… (all of the seat's roots in one cut). By AI agents, Wed Nov 11 2026. No macro, syntax, notation, axiom, sorry.
-/
import Derived.Test.YtodoaebpkmhhmaaChecked
import GoSem.Claim
import GoSem.ClaimJoined
import GoSem.ClaimMapViews
import Derived.JoinedTies
import Derived.KernelRfl
namespace Go.Proofs.Ytodoaebpkmhhmaa
/- THE CELL 'sum', in the pinned program and in every row, IS THE sha256 OF THE DUMP (.gsa) THAT YtodoaebpkmhhmaaProg.lean LOADS. Nothing in Lean hashes anything: it is a label: what it is worth is what the hold of that sum in a sandbox is worth. -/
noncomputable def Try.pinned : Pinned := { name := "ytodoaebpkmhhmaa", sum := "9d384d80c97e0ca98d6cb2b6d5f1e3c023bea286891d73e18da9f52868171d4d", checked := Try.checked }
namespace Rows
def none {H : Type} : Left H := { results := [], args := [] }

/-- 'ferryhouselaw14.SystemsDo': WHATEVER THE INPUT: true; the input reads as it did. -/
def systemsDoSpec : ChangeSpec := { name := "systemsDo", fn := fun _ => fun
  | [d] => { results := [.lit (.bool true)], args := [d] }
  | _ => none }
def systemsDoRow : OpenClaim := { program := "ytodoaebpkmhhmaa", sum := "9d384d80c97e0ca98d6cb2b6d5f1e3c023bea286891d73e18da9f52868171d4d", func := "ferryhouse/ferryhouselaw14.SystemsDo", spec := "systemsDo", unfollowed := true, recurses := true, apart := false }
def SystemsDoSaid : Prop := systemsDoRow.holds Try.pinned (OpenSpec.ofChange systemsDoSpec)

/-- ITS FALSE NEIGHBOUR: 'it returns false'. Refute it at one input. -/
def systemsDoWrong : ChangeSpec := { name := "systemsDo", fn := fun _ => fun
  | [d] => { results := [.lit (.bool false)], args := [d] }
  | _ => none }
def SystemsDoWrongFalsely : Prop := systemsDoRow.holds Try.pinned (OpenSpec.ofChange systemsDoWrong)

/-- 'ferryhouselaw14.SystemsCoins': WHATEVER THE INPUT: true; the input reads as it did. -/
def systemsCoinsSpec : ChangeSpec := { name := "systemsCoins", fn := fun _ => fun
  | [d] => { results := [.lit (.bool true)], args := [d] }
  | _ => none }
def systemsCoinsRow : OpenClaim := { program := "ytodoaebpkmhhmaa", sum := "9d384d80c97e0ca98d6cb2b6d5f1e3c023bea286891d73e18da9f52868171d4d", func := "ferryhouse/ferryhouselaw14.SystemsCoins", spec := "systemsCoins", unfollowed := true, recurses := true, apart := false }
def SystemsCoinsSaid : Prop := systemsCoinsRow.holds Try.pinned (OpenSpec.ofChange systemsCoinsSpec)

/-- ITS FALSE NEIGHBOUR: 'it returns false'. Refute it at one input. -/
def systemsCoinsWrong : ChangeSpec := { name := "systemsCoins", fn := fun _ => fun
  | [d] => { results := [.lit (.bool false)], args := [d] }
  | _ => none }
def SystemsCoinsWrongFalsely : Prop := systemsCoinsRow.holds Try.pinned (OpenSpec.ofChange systemsCoinsWrong)

/-- 'ferryhouselaw14.SystemsMove': WHATEVER THE INPUT: true; the input reads as it did. -/
def systemsMoveSpec : ChangeSpec := { name := "systemsMove", fn := fun _ => fun
  | [d1, d2, d3] => { results := [.lit (.bool true)], args := [d1, d2, d3] }
  | _ => none }
def systemsMoveRow : OpenClaim := { program := "ytodoaebpkmhhmaa", sum := "9d384d80c97e0ca98d6cb2b6d5f1e3c023bea286891d73e18da9f52868171d4d", func := "ferryhouse/ferryhouselaw14.SystemsMove", spec := "systemsMove", unfollowed := true, recurses := true, apart := false }
def SystemsMoveSaid : Prop := systemsMoveRow.holds Try.pinned (OpenSpec.ofChange systemsMoveSpec)

/-- ITS FALSE NEIGHBOUR: 'it returns false'. Refute it at one input. -/
def systemsMoveWrong : ChangeSpec := { name := "systemsMove", fn := fun _ => fun
  | [d1, d2, d3] => { results := [.lit (.bool false)], args := [d1, d2, d3] }
  | _ => none }
def SystemsMoveWrongFalsely : Prop := systemsMoveRow.holds Try.pinned (OpenSpec.ofChange systemsMoveWrong)

/-- 'ferryhouselaw14.SystemsMake': WHATEVER THE INPUT: true; the input reads as it did. -/
def systemsMakeSpec : ChangeSpec := { name := "systemsMake", fn := fun _ => fun
  | [d1, d2, d3] => { results := [.lit (.bool true)], args := [d1, d2, d3] }
  | _ => none }
def systemsMakeRow : OpenClaim := { program := "ytodoaebpkmhhmaa", sum := "9d384d80c97e0ca98d6cb2b6d5f1e3c023bea286891d73e18da9f52868171d4d", func := "ferryhouse/ferryhouselaw14.SystemsMake", spec := "systemsMake", unfollowed := true, recurses := true, apart := false }
def SystemsMakeSaid : Prop := systemsMakeRow.holds Try.pinned (OpenSpec.ofChange systemsMakeSpec)

/-- ITS FALSE NEIGHBOUR: 'it returns false'. Refute it at one input. -/
def systemsMakeWrong : ChangeSpec := { name := "systemsMake", fn := fun _ => fun
  | [d1, d2, d3] => { results := [.lit (.bool false)], args := [d1, d2, d3] }
  | _ => none }
def SystemsMakeWrongFalsely : Prop := systemsMakeRow.holds Try.pinned (OpenSpec.ofChange systemsMakeWrong)

/-- 'ferryhouselaw14.SystemsRoles': WHATEVER THE INPUT: true; the input reads as it did. -/
def systemsRolesSpec : ChangeSpec := { name := "systemsRoles", fn := fun _ => fun
  | [d1, d2] => { results := [.lit (.bool true)], args := [d1, d2] }
  | _ => none }
def systemsRolesRow : OpenClaim := { program := "ytodoaebpkmhhmaa", sum := "9d384d80c97e0ca98d6cb2b6d5f1e3c023bea286891d73e18da9f52868171d4d", func := "ferryhouse/ferryhouselaw14.SystemsRoles", spec := "systemsRoles", unfollowed := true, recurses := true, apart := false }
def SystemsRolesSaid : Prop := systemsRolesRow.holds Try.pinned (OpenSpec.ofChange systemsRolesSpec)

/-- ITS FALSE NEIGHBOUR: 'it returns false'. Refute it at one input. -/
def systemsRolesWrong : ChangeSpec := { name := "systemsRoles", fn := fun _ => fun
  | [d1, d2] => { results := [.lit (.bool false)], args := [d1, d2] }
  | _ => none }
def SystemsRolesWrongFalsely : Prop := systemsRolesRow.holds Try.pinned (OpenSpec.ofChange systemsRolesWrong)

/- THE SECOND FORM. 'bulk': how many values and letters a reading holds, each counted each time it is reached (what is shared counts as often as it is met; a slice's spare places count too). A statement '..UptoSaid' is the law's where the arguments, and the package variables that the reading takes, are together of bulk at most 1048576: NARROWER than '..Said'. Prove '..Said' where nothing that the law and all that it calls make is longer than what came in: it says more and counts as full. Else prove '..UptoSaid'. A law counts once. -/
mutual
def uptoBulk {H : Type} : DataW H → Nat
  | .lit (.string bytes) => bytes.length + 1
  | .lit _ => 1
  | .nil => 1
  | .ptr d => uptoBulk d + 1
  | .slice elems spare => uptoBulkAll elems + uptoBulkAll spare + 1
  | .agg parts => uptoBulkAll parts + 1
  | .iface _ d => uptoBulk d + 1
  | .map entries => uptoBulkEntries entries + 1
  | .held _ => 1
def uptoBulkAll {H : Type} : List (DataW H) → Nat
  | [] => 0
  | d :: r => uptoBulk d + uptoBulkAll r
def uptoBulkEntries {H : Type} : List (Lit × DataW H) → Nat
  | [] => 0
  | x :: r => uptoBulkEntry x + uptoBulkEntries r
def uptoBulkEntry {H : Type} : Lit × DataW H → Nat
  | (.string bytes, d) => bytes.length + uptoBulk d + 1
  | (_, d) => uptoBulk d + 1
 end
def uptoSmall : (H : Type) → List (DataW H) → Bool := fun _ ds => decide (uptoBulkAll ds ≤ 1048576)
def OpenSpec.upto (s : _root_.Go.ChangeSpec) : _root_.Go.OpenSpec := { _root_.Go.OpenSpec.ofChange s with cond := some uptoSmall }

/-- 'ferryhouselaw14.SystemsDo', WHERE WHAT IT READS IS OF BULK AT MOST 1048576: true; the input reads as it did. -/
def systemsDoUptoRow : OpenClaim := { program := "ytodoaebpkmhhmaa", sum := "9d384d80c97e0ca98d6cb2b6d5f1e3c023bea286891d73e18da9f52868171d4d", func := "ferryhouse/ferryhouselaw14.SystemsDo", spec := "systemsDo", unfollowed := true, recurses := true, apart := false, narrowed := true }
def SystemsDoUptoSaid : Prop := systemsDoUptoRow.holds Try.pinned (OpenSpec.upto systemsDoSpec)

/-- 'ferryhouselaw14.SystemsCoins', WHERE WHAT IT READS IS OF BULK AT MOST 1048576: true; the input reads as it did. -/
def systemsCoinsUptoRow : OpenClaim := { program := "ytodoaebpkmhhmaa", sum := "9d384d80c97e0ca98d6cb2b6d5f1e3c023bea286891d73e18da9f52868171d4d", func := "ferryhouse/ferryhouselaw14.SystemsCoins", spec := "systemsCoins", unfollowed := true, recurses := true, apart := false, narrowed := true }
def SystemsCoinsUptoSaid : Prop := systemsCoinsUptoRow.holds Try.pinned (OpenSpec.upto systemsCoinsSpec)

/-- 'ferryhouselaw14.SystemsMove', WHERE WHAT IT READS IS OF BULK AT MOST 1048576: true; the input reads as it did. -/
def systemsMoveUptoRow : OpenClaim := { program := "ytodoaebpkmhhmaa", sum := "9d384d80c97e0ca98d6cb2b6d5f1e3c023bea286891d73e18da9f52868171d4d", func := "ferryhouse/ferryhouselaw14.SystemsMove", spec := "systemsMove", unfollowed := true, recurses := true, apart := false, narrowed := true }
def SystemsMoveUptoSaid : Prop := systemsMoveUptoRow.holds Try.pinned (OpenSpec.upto systemsMoveSpec)

/-- 'ferryhouselaw14.SystemsMake', WHERE WHAT IT READS IS OF BULK AT MOST 1048576: true; the input reads as it did. -/
def systemsMakeUptoRow : OpenClaim := { program := "ytodoaebpkmhhmaa", sum := "9d384d80c97e0ca98d6cb2b6d5f1e3c023bea286891d73e18da9f52868171d4d", func := "ferryhouse/ferryhouselaw14.SystemsMake", spec := "systemsMake", unfollowed := true, recurses := true, apart := false, narrowed := true }
def SystemsMakeUptoSaid : Prop := systemsMakeUptoRow.holds Try.pinned (OpenSpec.upto systemsMakeSpec)

/-- 'ferryhouselaw14.SystemsRoles', WHERE WHAT IT READS IS OF BULK AT MOST 1048576: true; the input reads as it did. -/
def systemsRolesUptoRow : OpenClaim := { program := "ytodoaebpkmhhmaa", sum := "9d384d80c97e0ca98d6cb2b6d5f1e3c023bea286891d73e18da9f52868171d4d", func := "ferryhouse/ferryhouselaw14.SystemsRoles", spec := "systemsRoles", unfollowed := true, recurses := true, apart := false, narrowed := true }
def SystemsRolesUptoSaid : Prop := systemsRolesUptoRow.holds Try.pinned (OpenSpec.upto systemsRolesSpec)

end Rows
end Go.Proofs.Ytodoaebpkmhhmaa
