/-
  No cell of these rows narrows 'for every input' (looked for: loops, veiled, ifaces, maps, wideKeys, modest, calm, conditions, laid).
  DERIVED. THE GIVEN ROWS OF THIS SEAT. 5 by the template 'for every input the law returns true; each argument reads behind the call as it read before'; 0 by the template 'total and deterministic' (their statements: YtdbcbjjomhbhpaaTotals.lean).
  GIVEN WITH THE SEED: the statements are not yours to turn. If you find one false, say at which input.
  Laid BY PROGRAM, IN A SANDBOX (cutbox-rows.mjs): the forced cells as the released guide's own fill.sh prints them over the translation fa989a841cb317d4… (all of the seat's roots in one cut). By AI agents, Wed Nov 11 2026. No macro, syntax, notation, axiom, sorry.
-/
import Derived.Test.YtdbcbjjomhbhpaaChecked
import GoSem.Claim
import GoSem.ClaimJoined
import GoSem.ClaimMapViews
import Derived.JoinedTies
import Derived.KernelRfl
namespace Go.Proofs.Ytdbcbjjomhbhpaa
/- THE CELL 'sum', in the pinned program and in every row, IS THE sha256 OF THE DUMP (.gsa) THAT YtdbcbjjomhbhpaaProg.lean LOADS. Nothing in Lean hashes anything: it is a label: what it is worth is what the hold of that sum in a sandbox is worth. -/
noncomputable def Try.pinned : Pinned := { name := "ytdbcbjjomhbhpaa", sum := "fa989a841cb317d4c706cf8d85f4ad74253d7b2de287be862d11b2609c6a466a", checked := Try.checked }
namespace Rows
def none {H : Type} : Left H := { results := [], args := [] }

/-- 'ferryhouselaw06.TablesPlay': WHATEVER THE INPUT: true; the input reads as it did. -/
def tablesPlaySpec : ChangeSpec := { name := "tablesPlay", fn := fun _ => fun
  | [d] => { results := [.lit (.bool true)], args := [d] }
  | _ => none }
def tablesPlayRow : OpenClaim := { program := "ytdbcbjjomhbhpaa", sum := "fa989a841cb317d4c706cf8d85f4ad74253d7b2de287be862d11b2609c6a466a", func := "ferryhouse/ferryhouselaw06.TablesPlay", spec := "tablesPlay", inPlace := ["maps.clone"], unfollowed := true, recurses := true, plainKeys := false, apart := false }
def TablesPlaySaid : Prop := tablesPlayRow.holds Try.pinned (OpenSpec.ofChange tablesPlaySpec)

/-- ITS FALSE NEIGHBOUR: 'it returns false'. Refute it at one input. -/
def tablesPlayWrong : ChangeSpec := { name := "tablesPlay", fn := fun _ => fun
  | [d] => { results := [.lit (.bool false)], args := [d] }
  | _ => none }
def TablesPlayWrongFalsely : Prop := tablesPlayRow.holds Try.pinned (OpenSpec.ofChange tablesPlayWrong)

/-- 'ferryhouselaw06.TablesNone': WHATEVER THE INPUT: true; the input reads as it did. -/
def tablesNoneSpec : ChangeSpec := { name := "tablesNone", fn := fun _ => fun
  | [d] => { results := [.lit (.bool true)], args := [d] }
  | _ => none }
def tablesNoneRow : OpenClaim := { program := "ytdbcbjjomhbhpaa", sum := "fa989a841cb317d4c706cf8d85f4ad74253d7b2de287be862d11b2609c6a466a", func := "ferryhouse/ferryhouselaw06.TablesNone", spec := "tablesNone", inPlace := ["maps.clone"], unfollowed := true, recurses := true, plainKeys := false, apart := false }
def TablesNoneSaid : Prop := tablesNoneRow.holds Try.pinned (OpenSpec.ofChange tablesNoneSpec)

/-- ITS FALSE NEIGHBOUR: 'it returns false'. Refute it at one input. -/
def tablesNoneWrong : ChangeSpec := { name := "tablesNone", fn := fun _ => fun
  | [d] => { results := [.lit (.bool false)], args := [d] }
  | _ => none }
def TablesNoneWrongFalsely : Prop := tablesNoneRow.holds Try.pinned (OpenSpec.ofChange tablesNoneWrong)

/-- 'ferryhouselaw06.TablesJoined': WHATEVER THE INPUT: true; the input reads as it did. -/
def tablesJoinedSpec : ChangeSpec := { name := "tablesJoined", fn := fun _ => fun
  | [d1, d2, d3] => { results := [.lit (.bool true)], args := [d1, d2, d3] }
  | _ => none }
def tablesJoinedRow : OpenClaim := { program := "ytdbcbjjomhbhpaa", sum := "fa989a841cb317d4c706cf8d85f4ad74253d7b2de287be862d11b2609c6a466a", func := "ferryhouse/ferryhouselaw06.TablesJoined", spec := "tablesJoined", unfollowed := true, recurses := true, plainKeys := false, apart := false }
def TablesJoinedSaid : Prop := tablesJoinedRow.holds Try.pinned (OpenSpec.ofChange tablesJoinedSpec)

/-- ITS FALSE NEIGHBOUR: 'it returns false'. Refute it at one input. -/
def tablesJoinedWrong : ChangeSpec := { name := "tablesJoined", fn := fun _ => fun
  | [d1, d2, d3] => { results := [.lit (.bool false)], args := [d1, d2, d3] }
  | _ => none }
def TablesJoinedWrongFalsely : Prop := tablesJoinedRow.holds Try.pinned (OpenSpec.ofChange tablesJoinedWrong)

/-- 'ferryhouselaw06.TablesStay': WHATEVER THE INPUT: true; the input reads as it did. -/
def tablesStaySpec : ChangeSpec := { name := "tablesStay", fn := fun _ => fun
  | [d1, d2] => { results := [.lit (.bool true)], args := [d1, d2] }
  | _ => none }
def tablesStayRow : OpenClaim := { program := "ytdbcbjjomhbhpaa", sum := "fa989a841cb317d4c706cf8d85f4ad74253d7b2de287be862d11b2609c6a466a", func := "ferryhouse/ferryhouselaw06.TablesStay", spec := "tablesStay", unfollowed := true, recurses := true, plainKeys := false, apart := false }
def TablesStaySaid : Prop := tablesStayRow.holds Try.pinned (OpenSpec.ofChange tablesStaySpec)

/-- ITS FALSE NEIGHBOUR: 'it returns false'. Refute it at one input. -/
def tablesStayWrong : ChangeSpec := { name := "tablesStay", fn := fun _ => fun
  | [d1, d2] => { results := [.lit (.bool false)], args := [d1, d2] }
  | _ => none }
def TablesStayWrongFalsely : Prop := tablesStayRow.holds Try.pinned (OpenSpec.ofChange tablesStayWrong)

/-- 'ferryhouselaw06.TablesWhole': WHATEVER THE INPUT: true; the input reads as it did. -/
def tablesWholeSpec : ChangeSpec := { name := "tablesWhole", fn := fun _ => fun
  | [d1, d2] => { results := [.lit (.bool true)], args := [d1, d2] }
  | _ => none }
def tablesWholeRow : OpenClaim := { program := "ytdbcbjjomhbhpaa", sum := "fa989a841cb317d4c706cf8d85f4ad74253d7b2de287be862d11b2609c6a466a", func := "ferryhouse/ferryhouselaw06.TablesWhole", spec := "tablesWhole", unfollowed := true, recurses := true, plainKeys := false, apart := false }
def TablesWholeSaid : Prop := tablesWholeRow.holds Try.pinned (OpenSpec.ofChange tablesWholeSpec)

/-- ITS FALSE NEIGHBOUR: 'it returns false'. Refute it at one input. -/
def tablesWholeWrong : ChangeSpec := { name := "tablesWhole", fn := fun _ => fun
  | [d1, d2] => { results := [.lit (.bool false)], args := [d1, d2] }
  | _ => none }
def TablesWholeWrongFalsely : Prop := tablesWholeRow.holds Try.pinned (OpenSpec.ofChange tablesWholeWrong)

/- THE SECOND FORM. 'bulk': how many values and letters a reading holds, each counted each time it is reached (what is shared counts as often as it is met; a slice's spare places count too). A statement '..UptoSaid' is the law's where the arguments, and the package variables that the reading takes, are together of bulk at most 1048576: NARROWER than '..Said'. Prove '..Said' where nothing that the law and all that it calls make is longer than what came in: it says more and counts as full. Else prove '..UptoSaid'. A law counts once. -/
mutual
def uptoBulk {H : Type} : DataW H → Nat
  | .lit (.string bytes) => bytes.length + 1
  | .lit _ => 1
  | .nil => 1
  | .ptr d => uptoBulk d + 1
  | .slice elems spare => uptoBulkAll elems + uptoBulkAll spare + 1
  | .agg parts => uptoBulkAll parts + 1
  | .iface _ d => uptoBulk d + 1
  | .map entries => uptoBulkEntries entries + 1
  | .held _ => 1
def uptoBulkAll {H : Type} : List (DataW H) → Nat
  | [] => 0
  | d :: r => uptoBulk d + uptoBulkAll r
def uptoBulkEntries {H : Type} : List (Lit × DataW H) → Nat
  | [] => 0
  | x :: r => uptoBulkEntry x + uptoBulkEntries r
def uptoBulkEntry {H : Type} : Lit × DataW H → Nat
  | (.string bytes, d) => bytes.length + uptoBulk d + 1
  | (_, d) => uptoBulk d + 1
 end
def uptoSmall : (H : Type) → List (DataW H) → Bool := fun _ ds => decide (uptoBulkAll ds ≤ 1048576)
def OpenSpec.upto (s : _root_.Go.ChangeSpec) : _root_.Go.OpenSpec := { _root_.Go.OpenSpec.ofChange s with cond := some uptoSmall }

/-- 'ferryhouselaw06.TablesPlay', WHERE WHAT IT READS IS OF BULK AT MOST 1048576: true; the input reads as it did. -/
def tablesPlayUptoRow : OpenClaim := { program := "ytdbcbjjomhbhpaa", sum := "fa989a841cb317d4c706cf8d85f4ad74253d7b2de287be862d11b2609c6a466a", func := "ferryhouse/ferryhouselaw06.TablesPlay", spec := "tablesPlay", inPlace := ["maps.clone"], unfollowed := true, recurses := true, plainKeys := false, apart := false, narrowed := true }
def TablesPlayUptoSaid : Prop := tablesPlayUptoRow.holds Try.pinned (OpenSpec.upto tablesPlaySpec)

/-- 'ferryhouselaw06.TablesNone', WHERE WHAT IT READS IS OF BULK AT MOST 1048576: true; the input reads as it did. -/
def tablesNoneUptoRow : OpenClaim := { program := "ytdbcbjjomhbhpaa", sum := "fa989a841cb317d4c706cf8d85f4ad74253d7b2de287be862d11b2609c6a466a", func := "ferryhouse/ferryhouselaw06.TablesNone", spec := "tablesNone", inPlace := ["maps.clone"], unfollowed := true, recurses := true, plainKeys := false, apart := false, narrowed := true }
def TablesNoneUptoSaid : Prop := tablesNoneUptoRow.holds Try.pinned (OpenSpec.upto tablesNoneSpec)

/-- 'ferryhouselaw06.TablesJoined', WHERE WHAT IT READS IS OF BULK AT MOST 1048576: true; the input reads as it did. -/
def tablesJoinedUptoRow : OpenClaim := { program := "ytdbcbjjomhbhpaa", sum := "fa989a841cb317d4c706cf8d85f4ad74253d7b2de287be862d11b2609c6a466a", func := "ferryhouse/ferryhouselaw06.TablesJoined", spec := "tablesJoined", unfollowed := true, recurses := true, plainKeys := false, apart := false, narrowed := true }
def TablesJoinedUptoSaid : Prop := tablesJoinedUptoRow.holds Try.pinned (OpenSpec.upto tablesJoinedSpec)

/-- 'ferryhouselaw06.TablesStay', WHERE WHAT IT READS IS OF BULK AT MOST 1048576: true; the input reads as it did. -/
def tablesStayUptoRow : OpenClaim := { program := "ytdbcbjjomhbhpaa", sum := "fa989a841cb317d4c706cf8d85f4ad74253d7b2de287be862d11b2609c6a466a", func := "ferryhouse/ferryhouselaw06.TablesStay", spec := "tablesStay", unfollowed := true, recurses := true, plainKeys := false, apart := false, narrowed := true }
def TablesStayUptoSaid : Prop := tablesStayUptoRow.holds Try.pinned (OpenSpec.upto tablesStaySpec)

/-- 'ferryhouselaw06.TablesWhole', WHERE WHAT IT READS IS OF BULK AT MOST 1048576: true; the input reads as it did. -/
def tablesWholeUptoRow : OpenClaim := { program := "ytdbcbjjomhbhpaa", sum := "fa989a841cb317d4c706cf8d85f4ad74253d7b2de287be862d11b2609c6a466a", func := "ferryhouse/ferryhouselaw06.TablesWhole", spec := "tablesWhole", unfollowed := true, recurses := true, plainKeys := false, apart := false, narrowed := true }
def TablesWholeUptoSaid : Prop := tablesWholeUptoRow.holds Try.pinned (OpenSpec.upto tablesWholeSpec)

end Rows
end Go.Proofs.Ytdbcbjjomhbhpaa
