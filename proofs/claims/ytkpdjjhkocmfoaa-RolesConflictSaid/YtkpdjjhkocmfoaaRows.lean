/-
  No cell of these rows narrows 'for every input' (looked for: loops, veiled, ifaces, maps, wideKeys, modest, calm, conditions, laid).
  DERIVED. THE GIVEN ROWS OF THIS SEAT. 4 by the template 'for every input the law returns true; each argument reads behind the call as it read before'; 0 by the template 'total and deterministic' (their statements: YtkpdjjhkocmfoaaTotals.lean).
  GIVEN WITH THE SEED: the statements are not yours to turn. If you find one false, say at which input.
  Laid BY PROGRAM, IN A SANDBOX (cutbox-rows.mjs): the forced cells as the released guide's own fill.sh prints them over the translation fb8ca934e1b971f7… (all of the seat's roots in one cut). By AI agents, Wed Nov 11 2026. No macro, syntax, notation, axiom, sorry.
-/
import Derived.Test.YtkpdjjhkocmfoaaChecked
import GoSem.Claim
import GoSem.ClaimJoined
import GoSem.ClaimMapViews
import Derived.JoinedTies
import Derived.KernelRfl
namespace Go.Proofs.Ytkpdjjhkocmfoaa
/- THE CELL 'sum', in the pinned program and in every row, IS THE sha256 OF THE DUMP (.gsa) THAT YtkpdjjhkocmfoaaProg.lean LOADS. Nothing in Lean hashes anything: it is a label: what it is worth is what the hold of that sum in a sandbox is worth. -/
noncomputable def Try.pinned : Pinned := { name := "ytkpdjjhkocmfoaa", sum := "fb8ca934e1b971f788b49e3a324c6e00034c18d482bedbf03e537e60b4c54b53", checked := Try.checked }
namespace Rows
def none {H : Type} : Left H := { results := [], args := [] }

/-- 'ferryhouselaw07.RolesConflict': WHATEVER THE INPUT: true; the input reads as it did. -/
def rolesConflictSpec : ChangeSpec := { name := "rolesConflict", fn := fun _ => fun
  | [d1, d2] => { results := [.lit (.bool true)], args := [d1, d2] }
  | _ => none }
def rolesConflictRow : OpenClaim := { program := "ytkpdjjhkocmfoaa", sum := "fb8ca934e1b971f788b49e3a324c6e00034c18d482bedbf03e537e60b4c54b53", func := "ferryhouse/ferryhouselaw07.RolesConflict", spec := "rolesConflict", unfollowed := true, recurses := true, plainKeys := false, apart := false }
def RolesConflictSaid : Prop := rolesConflictRow.holds Try.pinned (OpenSpec.ofChange rolesConflictSpec)

/-- ITS FALSE NEIGHBOUR: 'it returns false'. Refute it at one input. -/
def rolesConflictWrong : ChangeSpec := { name := "rolesConflict", fn := fun _ => fun
  | [d1, d2] => { results := [.lit (.bool false)], args := [d1, d2] }
  | _ => none }
def RolesConflictWrongFalsely : Prop := rolesConflictRow.holds Try.pinned (OpenSpec.ofChange rolesConflictWrong)

/-- 'ferryhouselaw07.RolesCount': WHATEVER THE INPUT: true; the input reads as it did. -/
def rolesCountSpec : ChangeSpec := { name := "rolesCount", fn := fun _ => fun
  | [d1, d2, d3] => { results := [.lit (.bool true)], args := [d1, d2, d3] }
  | _ => none }
def rolesCountRow : OpenClaim := { program := "ytkpdjjhkocmfoaa", sum := "fb8ca934e1b971f788b49e3a324c6e00034c18d482bedbf03e537e60b4c54b53", func := "ferryhouse/ferryhouselaw07.RolesCount", spec := "rolesCount", plainKeys := false, apart := false }
def RolesCountSaid : Prop := rolesCountRow.holds Try.pinned (OpenSpec.ofChange rolesCountSpec)

/-- ITS FALSE NEIGHBOUR: 'it returns false'. Refute it at one input. -/
def rolesCountWrong : ChangeSpec := { name := "rolesCount", fn := fun _ => fun
  | [d1, d2, d3] => { results := [.lit (.bool false)], args := [d1, d2, d3] }
  | _ => none }
def RolesCountWrongFalsely : Prop := rolesCountRow.holds Try.pinned (OpenSpec.ofChange rolesCountWrong)

/-- 'ferryhouselaw07.RolesTwice': WHATEVER THE INPUT: true; the input reads as it did. -/
def rolesTwiceSpec : ChangeSpec := { name := "rolesTwice", fn := fun _ => fun
  | [d1, d2, d3] => { results := [.lit (.bool true)], args := [d1, d2, d3] }
  | _ => none }
def rolesTwiceRow : OpenClaim := { program := "ytkpdjjhkocmfoaa", sum := "fb8ca934e1b971f788b49e3a324c6e00034c18d482bedbf03e537e60b4c54b53", func := "ferryhouse/ferryhouselaw07.RolesTwice", spec := "rolesTwice", plainKeys := false, apart := false }
def RolesTwiceSaid : Prop := rolesTwiceRow.holds Try.pinned (OpenSpec.ofChange rolesTwiceSpec)

/-- ITS FALSE NEIGHBOUR: 'it returns false'. Refute it at one input. -/
def rolesTwiceWrong : ChangeSpec := { name := "rolesTwice", fn := fun _ => fun
  | [d1, d2, d3] => { results := [.lit (.bool false)], args := [d1, d2, d3] }
  | _ => none }
def RolesTwiceWrongFalsely : Prop := rolesTwiceRow.holds Try.pinned (OpenSpec.ofChange rolesTwiceWrong)

/-- 'ferryhouselaw07.RolesTurned': WHATEVER THE INPUT: true; the input reads as it did. -/
def rolesTurnedSpec : ChangeSpec := { name := "rolesTurned", fn := fun _ => fun
  | [d1, d2] => { results := [.lit (.bool true)], args := [d1, d2] }
  | _ => none }
def rolesTurnedRow : OpenClaim := { program := "ytkpdjjhkocmfoaa", sum := "fb8ca934e1b971f788b49e3a324c6e00034c18d482bedbf03e537e60b4c54b53", func := "ferryhouse/ferryhouselaw07.RolesTurned", spec := "rolesTurned", unfollowed := true, recurses := true, plainKeys := false, apart := false }
def RolesTurnedSaid : Prop := rolesTurnedRow.holds Try.pinned (OpenSpec.ofChange rolesTurnedSpec)

/-- ITS FALSE NEIGHBOUR: 'it returns false'. Refute it at one input. -/
def rolesTurnedWrong : ChangeSpec := { name := "rolesTurned", fn := fun _ => fun
  | [d1, d2] => { results := [.lit (.bool false)], args := [d1, d2] }
  | _ => none }
def RolesTurnedWrongFalsely : Prop := rolesTurnedRow.holds Try.pinned (OpenSpec.ofChange rolesTurnedWrong)

/- THE SECOND FORM. 'bulk': how many values and letters a reading holds, each counted each time it is reached (what is shared counts as often as it is met; a slice's spare places count too). A statement '..UptoSaid' is the law's where the arguments, and the package variables that the reading takes, are together of bulk at most 1048576: NARROWER than '..Said'. Prove '..Said' where nothing that the law and all that it calls make is longer than what came in: it says more and counts as full. Else prove '..UptoSaid'. A law counts once. -/
mutual
def uptoBulk {H : Type} : DataW H → Nat
  | .lit (.string bytes) => bytes.length + 1
  | .lit _ => 1
  | .nil => 1
  | .ptr d => uptoBulk d + 1
  | .slice elems spare => uptoBulkAll elems + uptoBulkAll spare + 1
  | .agg parts => uptoBulkAll parts + 1
  | .iface _ d => uptoBulk d + 1
  | .map entries => uptoBulkEntries entries + 1
  | .held _ => 1
def uptoBulkAll {H : Type} : List (DataW H) → Nat
  | [] => 0
  | d :: r => uptoBulk d + uptoBulkAll r
def uptoBulkEntries {H : Type} : List (Lit × DataW H) → Nat
  | [] => 0
  | x :: r => uptoBulkEntry x + uptoBulkEntries r
def uptoBulkEntry {H : Type} : Lit × DataW H → Nat
  | (.string bytes, d) => bytes.length + uptoBulk d + 1
  | (_, d) => uptoBulk d + 1
 end
def uptoSmall : (H : Type) → List (DataW H) → Bool := fun _ ds => decide (uptoBulkAll ds ≤ 1048576)
def OpenSpec.upto (s : _root_.Go.ChangeSpec) : _root_.Go.OpenSpec := { _root_.Go.OpenSpec.ofChange s with cond := some uptoSmall }

/-- 'ferryhouselaw07.RolesConflict', WHERE WHAT IT READS IS OF BULK AT MOST 1048576: true; the input reads as it did. -/
def rolesConflictUptoRow : OpenClaim := { program := "ytkpdjjhkocmfoaa", sum := "fb8ca934e1b971f788b49e3a324c6e00034c18d482bedbf03e537e60b4c54b53", func := "ferryhouse/ferryhouselaw07.RolesConflict", spec := "rolesConflict", unfollowed := true, recurses := true, plainKeys := false, apart := false, narrowed := true }
def RolesConflictUptoSaid : Prop := rolesConflictUptoRow.holds Try.pinned (OpenSpec.upto rolesConflictSpec)

/-- 'ferryhouselaw07.RolesCount', WHERE WHAT IT READS IS OF BULK AT MOST 1048576: true; the input reads as it did. -/
def rolesCountUptoRow : OpenClaim := { program := "ytkpdjjhkocmfoaa", sum := "fb8ca934e1b971f788b49e3a324c6e00034c18d482bedbf03e537e60b4c54b53", func := "ferryhouse/ferryhouselaw07.RolesCount", spec := "rolesCount", plainKeys := false, apart := false, narrowed := true }
def RolesCountUptoSaid : Prop := rolesCountUptoRow.holds Try.pinned (OpenSpec.upto rolesCountSpec)

/-- 'ferryhouselaw07.RolesTwice', WHERE WHAT IT READS IS OF BULK AT MOST 1048576: true; the input reads as it did. -/
def rolesTwiceUptoRow : OpenClaim := { program := "ytkpdjjhkocmfoaa", sum := "fb8ca934e1b971f788b49e3a324c6e00034c18d482bedbf03e537e60b4c54b53", func := "ferryhouse/ferryhouselaw07.RolesTwice", spec := "rolesTwice", plainKeys := false, apart := false, narrowed := true }
def RolesTwiceUptoSaid : Prop := rolesTwiceUptoRow.holds Try.pinned (OpenSpec.upto rolesTwiceSpec)

/-- 'ferryhouselaw07.RolesTurned', WHERE WHAT IT READS IS OF BULK AT MOST 1048576: true; the input reads as it did. -/
def rolesTurnedUptoRow : OpenClaim := { program := "ytkpdjjhkocmfoaa", sum := "fb8ca934e1b971f788b49e3a324c6e00034c18d482bedbf03e537e60b4c54b53", func := "ferryhouse/ferryhouselaw07.RolesTurned", spec := "rolesTurned", unfollowed := true, recurses := true, plainKeys := false, apart := false, narrowed := true }
def RolesTurnedUptoSaid : Prop := rolesTurnedUptoRow.holds Try.pinned (OpenSpec.upto rolesTurnedSpec)

end Rows
end Go.Proofs.Ytkpdjjhkocmfoaa
