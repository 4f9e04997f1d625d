/-
  NARROWER THAN 'FOR EVERY INPUT', by the rows' own cells (each row's printed sentence says how): RunsCoins: laid · RunsFail: laid · RunsAhead: laid.
  DERIVED. THE GIVEN ROWS OF THIS SEAT. 3 by the template 'for every input the law returns true; each argument reads behind the call as it read before'; 0 by the template 'total and deterministic' (their statements: YtaljfbbieefooaaDoorTotals.lean).
  GIVEN WITH THE SEED: the statements are not yours to turn. If you find one false, say at which input.
  Laid BY PROGRAM, IN A SANDBOX (cutbox-rows.mjs): the forced cells as the released guide's own fill.sh prints them over the translation 7feaa96548107fc3… (all of the seat's roots in one cut). By AI agents, Wed Nov 11 2026. No macro, syntax, notation, axiom, sorry.
-/
import Derived.Test.YtaljfbbieefooaaDoorChecked
import GoSem.Claim
import GoSem.ClaimJoined
import GoSem.ClaimMapViews
import Derived.JoinedTies
import Derived.KernelRfl
namespace Go.Proofs.YtaljfbbieefooaaDoor
/- THE CELL 'sum', in the pinned program and in every row, IS THE sha256 OF THE DUMP (.gsa) THAT YtaljfbbieefooaaDoorProg.lean LOADS. Nothing in Lean hashes anything: it is a label: what it is worth is what the hold of that sum in a sandbox is worth. -/
noncomputable def Tryd.pinned : Pinned := { name := "ytaljfbbieefooaadoor", sum := "7feaa96548107fc38e92a3d1e5500f16cbe7532d8fe0af93b02644c145720577", checked := Tryd.checked }
namespace Rows
def none {H : Type} : Left H := { results := [], args := [] }

/- WHAT THE LISTED PACKAGE-LEVEL VARIABLES READ AS WHEN THE CALL BEGINS. Each datum BY PROGRAM (the guide's laid-datum.mjs) off the statement by which the dump's own 'gosem.cut.vars' lays the variable. In a bare row this is a premise. The card (YtaljfbbieefooaaDoorCards.lean) ties it to the program's text. -/
def laid_errors_errorType {H : Type} : DataW H := .iface "internal/reflectlite.rtype" (.agg [.ptr (.lit (.string [101, 114, 114, 111, 114]))])

/-- 'ferryhouselaw15.RunsCoins': WHATEVER THE INPUT: true; the input reads as it did. -/
def runsCoinsSpec : ChangeSpec := { name := "runsCoins", fn := fun _ => fun
  | [d1, d2] => { results := [.lit (.bool true)], args := [d1, d2] }
  | _ => none }
def runsCoinsRow : OpenClaim := { program := "ytaljfbbieefooaadoor", sum := "7feaa96548107fc38e92a3d1e5500f16cbe7532d8fe0af93b02644c145720577", func := "ferryhouse/ferryhouselaw15.RunsCoins", spec := "runsCoins", inPlace := ["internal/reflectlite.ValueOf", "(internal/reflectlite.Value).Type", "(internal/reflectlite.Value).IsNil", "internal/reflectlite.TypeOf", "(internal/reflectlite.Value).Elem", "(internal/reflectlite.Value).Set"], unfollowed := true, recurses := true, named := ["errors.errorType"], plainKeys := false, apart := false, laid := [("errors.errorType", laid_errors_errorType)] }
def RunsCoinsSaid : Prop := runsCoinsRow.holds Tryd.pinned (OpenSpec.ofChange runsCoinsSpec)

/-- ITS FALSE NEIGHBOUR: 'it returns false'. Refute it at one input. -/
def runsCoinsWrong : ChangeSpec := { name := "runsCoins", fn := fun _ => fun
  | [d1, d2] => { results := [.lit (.bool false)], args := [d1, d2] }
  | _ => none }
def RunsCoinsWrongFalsely : Prop := runsCoinsRow.holds Tryd.pinned (OpenSpec.ofChange runsCoinsWrong)

/-- 'ferryhouselaw15.RunsFail': WHATEVER THE INPUT: true; the input reads as it did. -/
def runsFailSpec : ChangeSpec := { name := "runsFail", fn := fun _ => fun
  | [d1, d2] => { results := [.lit (.bool true)], args := [d1, d2] }
  | _ => none }
def runsFailRow : OpenClaim := { program := "ytaljfbbieefooaadoor", sum := "7feaa96548107fc38e92a3d1e5500f16cbe7532d8fe0af93b02644c145720577", func := "ferryhouse/ferryhouselaw15.RunsFail", spec := "runsFail", inPlace := ["internal/reflectlite.ValueOf", "(internal/reflectlite.Value).Type", "(internal/reflectlite.Value).IsNil", "internal/reflectlite.TypeOf", "(internal/reflectlite.Value).Elem", "(internal/reflectlite.Value).Set"], unfollowed := true, recurses := true, named := ["errors.errorType"], plainKeys := false, apart := false, laid := [("errors.errorType", laid_errors_errorType)] }
def RunsFailSaid : Prop := runsFailRow.holds Tryd.pinned (OpenSpec.ofChange runsFailSpec)

/-- ITS FALSE NEIGHBOUR: 'it returns false'. Refute it at one input. -/
def runsFailWrong : ChangeSpec := { name := "runsFail", fn := fun _ => fun
  | [d1, d2] => { results := [.lit (.bool false)], args := [d1, d2] }
  | _ => none }
def RunsFailWrongFalsely : Prop := runsFailRow.holds Tryd.pinned (OpenSpec.ofChange runsFailWrong)

/-- 'ferryhouselaw15.RunsAhead': WHATEVER THE INPUT: true; the input reads as it did. -/
def runsAheadSpec : ChangeSpec := { name := "runsAhead", fn := fun _ => fun
  | [d1, d2, d3] => { results := [.lit (.bool true)], args := [d1, d2, d3] }
  | _ => none }
def runsAheadRow : OpenClaim := { program := "ytaljfbbieefooaadoor", sum := "7feaa96548107fc38e92a3d1e5500f16cbe7532d8fe0af93b02644c145720577", func := "ferryhouse/ferryhouselaw15.RunsAhead", spec := "runsAhead", inPlace := ["internal/reflectlite.ValueOf", "(internal/reflectlite.Value).Type", "(internal/reflectlite.Value).IsNil", "internal/reflectlite.TypeOf", "(internal/reflectlite.Value).Elem", "(internal/reflectlite.Value).Set"], unfollowed := true, recurses := true, named := ["errors.errorType"], plainKeys := false, apart := false, laid := [("errors.errorType", laid_errors_errorType)] }
def RunsAheadSaid : Prop := runsAheadRow.holds Tryd.pinned (OpenSpec.ofChange runsAheadSpec)

/-- ITS FALSE NEIGHBOUR: 'it returns false'. Refute it at one input. -/
def runsAheadWrong : ChangeSpec := { name := "runsAhead", fn := fun _ => fun
  | [d1, d2, d3] => { results := [.lit (.bool false)], args := [d1, d2, d3] }
  | _ => none }
def RunsAheadWrongFalsely : Prop := runsAheadRow.holds Tryd.pinned (OpenSpec.ofChange runsAheadWrong)

/- THE SECOND FORM. 'bulk': how many values and letters a reading holds, each counted each time it is reached (what is shared counts as often as it is met; a slice's spare places count too). A statement '..UptoSaid' is the law's where the arguments, and the package variables that the reading takes, are together of bulk at most 1048576: NARROWER than '..Said'. Prove '..Said' where nothing that the law and all that it calls make is longer than what came in: it says more and counts as full. Else prove '..UptoSaid'. A law counts once. -/
mutual
def uptoBulk {H : Type} : DataW H → Nat
  | .lit (.string bytes) => bytes.length + 1
  | .lit _ => 1
  | .nil => 1
  | .ptr d => uptoBulk d + 1
  | .slice elems spare => uptoBulkAll elems + uptoBulkAll spare + 1
  | .agg parts => uptoBulkAll parts + 1
  | .iface _ d => uptoBulk d + 1
  | .map entries => uptoBulkEntries entries + 1
  | .held _ => 1
def uptoBulkAll {H : Type} : List (DataW H) → Nat
  | [] => 0
  | d :: r => uptoBulk d + uptoBulkAll r
def uptoBulkEntries {H : Type} : List (Lit × DataW H) → Nat
  | [] => 0
  | x :: r => uptoBulkEntry x + uptoBulkEntries r
def uptoBulkEntry {H : Type} : Lit × DataW H → Nat
  | (.string bytes, d) => bytes.length + uptoBulk d + 1
  | (_, d) => uptoBulk d + 1
 end
def uptoSmall : (H : Type) → List (DataW H) → Bool := fun _ ds => decide (uptoBulkAll ds ≤ 1048576)
def OpenSpec.upto (s : _root_.Go.ChangeSpec) : _root_.Go.OpenSpec := { _root_.Go.OpenSpec.ofChange s with cond := some uptoSmall }

/-- 'ferryhouselaw15.RunsCoins', WHERE WHAT IT READS IS OF BULK AT MOST 1048576: true; the input reads as it did. -/
def runsCoinsUptoRow : OpenClaim := { program := "ytaljfbbieefooaadoor", sum := "7feaa96548107fc38e92a3d1e5500f16cbe7532d8fe0af93b02644c145720577", func := "ferryhouse/ferryhouselaw15.RunsCoins", spec := "runsCoins", inPlace := ["internal/reflectlite.ValueOf", "(internal/reflectlite.Value).Type", "(internal/reflectlite.Value).IsNil", "internal/reflectlite.TypeOf", "(internal/reflectlite.Value).Elem", "(internal/reflectlite.Value).Set"], unfollowed := true, recurses := true, named := ["errors.errorType"], plainKeys := false, apart := false, laid := [("errors.errorType", laid_errors_errorType)], narrowed := true }
def RunsCoinsUptoSaid : Prop := runsCoinsUptoRow.holds Tryd.pinned (OpenSpec.upto runsCoinsSpec)

/-- 'ferryhouselaw15.RunsFail', WHERE WHAT IT READS IS OF BULK AT MOST 1048576: true; the input reads as it did. -/
def runsFailUptoRow : OpenClaim := { program := "ytaljfbbieefooaadoor", sum := "7feaa96548107fc38e92a3d1e5500f16cbe7532d8fe0af93b02644c145720577", func := "ferryhouse/ferryhouselaw15.RunsFail", spec := "runsFail", inPlace := ["internal/reflectlite.ValueOf", "(internal/reflectlite.Value).Type", "(internal/reflectlite.Value).IsNil", "internal/reflectlite.TypeOf", "(internal/reflectlite.Value).Elem", "(internal/reflectlite.Value).Set"], unfollowed := true, recurses := true, named := ["errors.errorType"], plainKeys := false, apart := false, laid := [("errors.errorType", laid_errors_errorType)], narrowed := true }
def RunsFailUptoSaid : Prop := runsFailUptoRow.holds Tryd.pinned (OpenSpec.upto runsFailSpec)

/-- 'ferryhouselaw15.RunsAhead', WHERE WHAT IT READS IS OF BULK AT MOST 1048576: true; the input reads as it did. -/
def runsAheadUptoRow : OpenClaim := { program := "ytaljfbbieefooaadoor", sum := "7feaa96548107fc38e92a3d1e5500f16cbe7532d8fe0af93b02644c145720577", func := "ferryhouse/ferryhouselaw15.RunsAhead", spec := "runsAhead", inPlace := ["internal/reflectlite.ValueOf", "(internal/reflectlite.Value).Type", "(internal/reflectlite.Value).IsNil", "internal/reflectlite.TypeOf", "(internal/reflectlite.Value).Elem", "(internal/reflectlite.Value).Set"], unfollowed := true, recurses := true, named := ["errors.errorType"], plainKeys := false, apart := false, laid := [("errors.errorType", laid_errors_errorType)], narrowed := true }
def RunsAheadUptoSaid : Prop := runsAheadUptoRow.holds Tryd.pinned (OpenSpec.upto runsAheadSpec)

end Rows
end Go.Proofs.YtaljfbbieefooaaDoor
