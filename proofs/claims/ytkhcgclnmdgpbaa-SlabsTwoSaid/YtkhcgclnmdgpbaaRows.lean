/-
  No cell of these rows narrows 'for every input' (looked for: loops, veiled, ifaces, maps, wideKeys, modest, calm, conditions, laid).
  DERIVED. THE GIVEN ROWS OF THIS SEAT. 4 by the template 'for every input the law returns true; each argument reads behind the call as it read before'; 0 by the template 'total and deterministic' (their statements: YtkhcgclnmdgpbaaTotals.lean).
  GIVEN WITH THE SEED: the statements are not yours to turn. If you find one false, say at which input.
  Laid BY PROGRAM, IN A SANDBOX (cutbox-rows.mjs): the forced cells as the released guide's own fill.sh prints them over the translation 4379b31045671565… (all of the seat's roots in one cut). By AI agents, Wed Nov 11 2026. No macro, syntax, notation, axiom, sorry.
-/
import Derived.Test.YtkhcgclnmdgpbaaChecked
import GoSem.Claim
import GoSem.ClaimJoined
import GoSem.ClaimMapViews
import Derived.JoinedTies
import Derived.KernelRfl
namespace Go.Proofs.Ytkhcgclnmdgpbaa
/- THE CELL 'sum', in the pinned program and in every row, IS THE sha256 OF THE DUMP (.gsa) THAT YtkhcgclnmdgpbaaProg.lean LOADS. Nothing in Lean hashes anything: it is a label: what it is worth is what the hold of that sum in a sandbox is worth. -/
noncomputable def Try.pinned : Pinned := { name := "ytkhcgclnmdgpbaa", sum := "4379b31045671565febd345b7d79382f3b2b132fba4d289eef5a92f6e76f567a", checked := Try.checked }
namespace Rows
def none {H : Type} : Left H := { results := [], args := [] }

/-- 'ferryhouselaw17.SlabsPlay': WHATEVER THE INPUT: true; the input reads as it did. -/
def slabsPlaySpec : ChangeSpec := { name := "slabsPlay", fn := fun _ => fun
  | [d1, d2] => { results := [.lit (.bool true)], args := [d1, d2] }
  | _ => none }
def slabsPlayRow : OpenClaim := { program := "ytkhcgclnmdgpbaa", sum := "4379b31045671565febd345b7d79382f3b2b132fba4d289eef5a92f6e76f567a", func := "ferryhouse/ferryhouselaw17.SlabsPlay", spec := "slabsPlay", apart := false }
def SlabsPlaySaid : Prop := slabsPlayRow.holds Try.pinned (OpenSpec.ofChange slabsPlaySpec)

/-- ITS FALSE NEIGHBOUR: 'it returns false'. Refute it at one input. -/
def slabsPlayWrong : ChangeSpec := { name := "slabsPlay", fn := fun _ => fun
  | [d1, d2] => { results := [.lit (.bool false)], args := [d1, d2] }
  | _ => none }
def SlabsPlayWrongFalsely : Prop := slabsPlayRow.holds Try.pinned (OpenSpec.ofChange slabsPlayWrong)

/-- 'ferryhouselaw17.SlabsVoid': WHATEVER THE INPUT: true; the input reads as it did. -/
def slabsVoidSpec : ChangeSpec := { name := "slabsVoid", fn := fun _ => fun
  | [d1, d2] => { results := [.lit (.bool true)], args := [d1, d2] }
  | _ => none }
def slabsVoidRow : OpenClaim := { program := "ytkhcgclnmdgpbaa", sum := "4379b31045671565febd345b7d79382f3b2b132fba4d289eef5a92f6e76f567a", func := "ferryhouse/ferryhouselaw17.SlabsVoid", spec := "slabsVoid", apart := false }
def SlabsVoidSaid : Prop := slabsVoidRow.holds Try.pinned (OpenSpec.ofChange slabsVoidSpec)

/-- ITS FALSE NEIGHBOUR: 'it returns false'. Refute it at one input. -/
def slabsVoidWrong : ChangeSpec := { name := "slabsVoid", fn := fun _ => fun
  | [d1, d2] => { results := [.lit (.bool false)], args := [d1, d2] }
  | _ => none }
def SlabsVoidWrongFalsely : Prop := slabsVoidRow.holds Try.pinned (OpenSpec.ofChange slabsVoidWrong)

/-- 'ferryhouselaw17.SlabsFill': WHATEVER THE INPUT: true; the input reads as it did. -/
def slabsFillSpec : ChangeSpec := { name := "slabsFill", fn := fun _ => fun
  | [d1, d2, d3] => { results := [.lit (.bool true)], args := [d1, d2, d3] }
  | _ => none }
def slabsFillRow : OpenClaim := { program := "ytkhcgclnmdgpbaa", sum := "4379b31045671565febd345b7d79382f3b2b132fba4d289eef5a92f6e76f567a", func := "ferryhouse/ferryhouselaw17.SlabsFill", spec := "slabsFill", apart := false }
def SlabsFillSaid : Prop := slabsFillRow.holds Try.pinned (OpenSpec.ofChange slabsFillSpec)

/-- ITS FALSE NEIGHBOUR: 'it returns false'. Refute it at one input. -/
def slabsFillWrong : ChangeSpec := { name := "slabsFill", fn := fun _ => fun
  | [d1, d2, d3] => { results := [.lit (.bool false)], args := [d1, d2, d3] }
  | _ => none }
def SlabsFillWrongFalsely : Prop := slabsFillRow.holds Try.pinned (OpenSpec.ofChange slabsFillWrong)

/-- 'ferryhouselaw17.SlabsTwo': WHATEVER THE INPUT: true; the input reads as it did. -/
def slabsTwoSpec : ChangeSpec := { name := "slabsTwo", fn := fun _ => fun
  | [d1, d2] => { results := [.lit (.bool true)], args := [d1, d2] }
  | _ => none }
def slabsTwoRow : OpenClaim := { program := "ytkhcgclnmdgpbaa", sum := "4379b31045671565febd345b7d79382f3b2b132fba4d289eef5a92f6e76f567a", func := "ferryhouse/ferryhouselaw17.SlabsTwo", spec := "slabsTwo", apart := false }
def SlabsTwoSaid : Prop := slabsTwoRow.holds Try.pinned (OpenSpec.ofChange slabsTwoSpec)

/-- ITS FALSE NEIGHBOUR: 'it returns false'. Refute it at one input. -/
def slabsTwoWrong : ChangeSpec := { name := "slabsTwo", fn := fun _ => fun
  | [d1, d2] => { results := [.lit (.bool false)], args := [d1, d2] }
  | _ => none }
def SlabsTwoWrongFalsely : Prop := slabsTwoRow.holds Try.pinned (OpenSpec.ofChange slabsTwoWrong)

/- THE SECOND FORM. 'bulk': how many values and letters a reading holds, each counted each time it is reached (what is shared counts as often as it is met; a slice's spare places count too). A statement '..UptoSaid' is the law's where the arguments, and the package variables that the reading takes, are together of bulk at most 1048576: NARROWER than '..Said'. Prove '..Said' where nothing that the law and all that it calls make is longer than what came in: it says more and counts as full. Else prove '..UptoSaid'. A law counts once. -/
mutual
def uptoBulk {H : Type} : DataW H → Nat
  | .lit (.string bytes) => bytes.length + 1
  | .lit _ => 1
  | .nil => 1
  | .ptr d => uptoBulk d + 1
  | .slice elems spare => uptoBulkAll elems + uptoBulkAll spare + 1
  | .agg parts => uptoBulkAll parts + 1
  | .iface _ d => uptoBulk d + 1
  | .map entries => uptoBulkEntries entries + 1
  | .held _ => 1
def uptoBulkAll {H : Type} : List (DataW H) → Nat
  | [] => 0
  | d :: r => uptoBulk d + uptoBulkAll r
def uptoBulkEntries {H : Type} : List (Lit × DataW H) → Nat
  | [] => 0
  | x :: r => uptoBulkEntry x + uptoBulkEntries r
def uptoBulkEntry {H : Type} : Lit × DataW H → Nat
  | (.string bytes, d) => bytes.length + uptoBulk d + 1
  | (_, d) => uptoBulk d + 1
 end
def uptoSmall : (H : Type) → List (DataW H) → Bool := fun _ ds => decide (uptoBulkAll ds ≤ 1048576)
def OpenSpec.upto (s : _root_.Go.ChangeSpec) : _root_.Go.OpenSpec := { _root_.Go.OpenSpec.ofChange s with cond := some uptoSmall }

/-- 'ferryhouselaw17.SlabsPlay', WHERE WHAT IT READS IS OF BULK AT MOST 1048576: true; the input reads as it did. -/
def slabsPlayUptoRow : OpenClaim := { program := "ytkhcgclnmdgpbaa", sum := "4379b31045671565febd345b7d79382f3b2b132fba4d289eef5a92f6e76f567a", func := "ferryhouse/ferryhouselaw17.SlabsPlay", spec := "slabsPlay", apart := false, narrowed := true }
def SlabsPlayUptoSaid : Prop := slabsPlayUptoRow.holds Try.pinned (OpenSpec.upto slabsPlaySpec)

/-- 'ferryhouselaw17.SlabsVoid', WHERE WHAT IT READS IS OF BULK AT MOST 1048576: true; the input reads as it did. -/
def slabsVoidUptoRow : OpenClaim := { program := "ytkhcgclnmdgpbaa", sum := "4379b31045671565febd345b7d79382f3b2b132fba4d289eef5a92f6e76f567a", func := "ferryhouse/ferryhouselaw17.SlabsVoid", spec := "slabsVoid", apart := false, narrowed := true }
def SlabsVoidUptoSaid : Prop := slabsVoidUptoRow.holds Try.pinned (OpenSpec.upto slabsVoidSpec)

/-- 'ferryhouselaw17.SlabsFill', WHERE WHAT IT READS IS OF BULK AT MOST 1048576: true; the input reads as it did. -/
def slabsFillUptoRow : OpenClaim := { program := "ytkhcgclnmdgpbaa", sum := "4379b31045671565febd345b7d79382f3b2b132fba4d289eef5a92f6e76f567a", func := "ferryhouse/ferryhouselaw17.SlabsFill", spec := "slabsFill", apart := false, narrowed := true }
def SlabsFillUptoSaid : Prop := slabsFillUptoRow.holds Try.pinned (OpenSpec.upto slabsFillSpec)

/-- 'ferryhouselaw17.SlabsTwo', WHERE WHAT IT READS IS OF BULK AT MOST 1048576: true; the input reads as it did. -/
def slabsTwoUptoRow : OpenClaim := { program := "ytkhcgclnmdgpbaa", sum := "4379b31045671565febd345b7d79382f3b2b132fba4d289eef5a92f6e76f567a", func := "ferryhouse/ferryhouselaw17.SlabsTwo", spec := "slabsTwo", apart := false, narrowed := true }
def SlabsTwoUptoSaid : Prop := slabsTwoUptoRow.holds Try.pinned (OpenSpec.upto slabsTwoSpec)

end Rows
end Go.Proofs.Ytkhcgclnmdgpbaa
