/-
  No cell of these rows narrows 'for every input' (looked for: loops, veiled, ifaces, maps, wideKeys, modest, calm, conditions, laid).
  DERIVED. THE GIVEN ROWS OF THIS SEAT. 3 by the template 'for every input the law returns true; each argument reads behind the call as it read before'; 0 by the template 'total and deterministic' (their statements: YtfbdolcgekmdgaaTotals.lean).
  GIVEN WITH THE SEED: the statements are not yours to turn. If you find one false, say at which input.
  Laid BY PROGRAM, IN A SANDBOX (cutbox-rows.mjs): the forced cells as the released guide's own fill.sh prints them over the translation dc7f79a0f3a7c3ac… (all of the seat's roots in one cut). By AI agents, Wed Nov 11 2026. No macro, syntax, notation, axiom, sorry.
-/
import Derived.Test.YtfbdolcgekmdgaaChecked
import GoSem.Claim
import GoSem.ClaimJoined
import GoSem.ClaimMapViews
import Derived.JoinedTies
import Derived.KernelRfl
namespace Go.Proofs.Ytfbdolcgekmdgaa
/- THE CELL 'sum', in the pinned program and in every row, IS THE sha256 OF THE DUMP (.gsa) THAT YtfbdolcgekmdgaaProg.lean LOADS. Nothing in Lean hashes anything: it is a label: what it is worth is what the hold of that sum in a sandbox is worth. -/
noncomputable def Try.pinned : Pinned := { name := "ytfbdolcgekmdgaa", sum := "dc7f79a0f3a7c3acc5a804d7b61fbd64cebc2b7439dedaa43bc726cb2285365a", checked := Try.checked }
namespace Rows
def none {H : Type} : Left H := { results := [], args := [] }

/-- 'ferryhouselaw10.PrioritiesRise': WHATEVER THE INPUT: true; the input reads as it did. -/
def prioritiesRiseSpec : ChangeSpec := { name := "prioritiesRise", fn := fun _ => fun
  | [d1, d2, d3] => { results := [.lit (.bool true)], args := [d1, d2, d3] }
  | _ => none }
def prioritiesRiseRow : OpenClaim := { program := "ytfbdolcgekmdgaa", sum := "dc7f79a0f3a7c3acc5a804d7b61fbd64cebc2b7439dedaa43bc726cb2285365a", func := "ferryhouse/ferryhouselaw10.PrioritiesRise", spec := "prioritiesRise", inPlace := ["math/bits.Add64"], unfollowed := true, recurses := true, named := ["math/bits.divideError", "math/bits.overflowError"], apart := false }
def PrioritiesRiseSaid : Prop := prioritiesRiseRow.holds Try.pinned (OpenSpec.ofChange prioritiesRiseSpec)

/-- ITS FALSE NEIGHBOUR: 'it returns false'. Refute it at one input. -/
def prioritiesRiseWrong : ChangeSpec := { name := "prioritiesRise", fn := fun _ => fun
  | [d1, d2, d3] => { results := [.lit (.bool false)], args := [d1, d2, d3] }
  | _ => none }
def PrioritiesRiseWrongFalsely : Prop := prioritiesRiseRow.holds Try.pinned (OpenSpec.ofChange prioritiesRiseWrong)

/-- 'ferryhouselaw10.PrioritiesFee': WHATEVER THE INPUT: true; the input reads as it did. -/
def prioritiesFeeSpec : ChangeSpec := { name := "prioritiesFee", fn := fun _ => fun
  | [d1, d2, d3] => { results := [.lit (.bool true)], args := [d1, d2, d3] }
  | _ => none }
def prioritiesFeeRow : OpenClaim := { program := "ytfbdolcgekmdgaa", sum := "dc7f79a0f3a7c3acc5a804d7b61fbd64cebc2b7439dedaa43bc726cb2285365a", func := "ferryhouse/ferryhouselaw10.PrioritiesFee", spec := "prioritiesFee", inPlace := ["math/bits.Add64"], unfollowed := true, recurses := true, named := ["math/bits.divideError", "math/bits.overflowError"], apart := false }
def PrioritiesFeeSaid : Prop := prioritiesFeeRow.holds Try.pinned (OpenSpec.ofChange prioritiesFeeSpec)

/-- ITS FALSE NEIGHBOUR: 'it returns false'. Refute it at one input. -/
def prioritiesFeeWrong : ChangeSpec := { name := "prioritiesFee", fn := fun _ => fun
  | [d1, d2, d3] => { results := [.lit (.bool false)], args := [d1, d2, d3] }
  | _ => none }
def PrioritiesFeeWrongFalsely : Prop := prioritiesFeeRow.holds Try.pinned (OpenSpec.ofChange prioritiesFeeWrong)

/-- 'ferryhouselaw10.PrioritiesCost': WHATEVER THE INPUT: true; the input reads as it did. -/
def prioritiesCostSpec : ChangeSpec := { name := "prioritiesCost", fn := fun _ => fun
  | [d1, d2, d3] => { results := [.lit (.bool true)], args := [d1, d2, d3] }
  | _ => none }
def prioritiesCostRow : OpenClaim := { program := "ytfbdolcgekmdgaa", sum := "dc7f79a0f3a7c3acc5a804d7b61fbd64cebc2b7439dedaa43bc726cb2285365a", func := "ferryhouse/ferryhouselaw10.PrioritiesCost", spec := "prioritiesCost", inPlace := ["math/bits.Add64"], unfollowed := true, recurses := true, named := ["math/bits.divideError", "math/bits.overflowError"], apart := false }
def PrioritiesCostSaid : Prop := prioritiesCostRow.holds Try.pinned (OpenSpec.ofChange prioritiesCostSpec)

/-- ITS FALSE NEIGHBOUR: 'it returns false'. Refute it at one input. -/
def prioritiesCostWrong : ChangeSpec := { name := "prioritiesCost", fn := fun _ => fun
  | [d1, d2, d3] => { results := [.lit (.bool false)], args := [d1, d2, d3] }
  | _ => none }
def PrioritiesCostWrongFalsely : Prop := prioritiesCostRow.holds Try.pinned (OpenSpec.ofChange prioritiesCostWrong)

/- THE SECOND FORM. 'bulk': how many values and letters a reading holds, each counted each time it is reached (what is shared counts as often as it is met; a slice's spare places count too). A statement '..UptoSaid' is the law's where the arguments, and the package variables that the reading takes, are together of bulk at most 1048576: NARROWER than '..Said'. Prove '..Said' where nothing that the law and all that it calls make is longer than what came in: it says more and counts as full. Else prove '..UptoSaid'. A law counts once. -/
mutual
def uptoBulk {H : Type} : DataW H → Nat
  | .lit (.string bytes) => bytes.length + 1
  | .lit _ => 1
  | .nil => 1
  | .ptr d => uptoBulk d + 1
  | .slice elems spare => uptoBulkAll elems + uptoBulkAll spare + 1
  | .agg parts => uptoBulkAll parts + 1
  | .iface _ d => uptoBulk d + 1
  | .map entries => uptoBulkEntries entries + 1
  | .held _ => 1
def uptoBulkAll {H : Type} : List (DataW H) → Nat
  | [] => 0
  | d :: r => uptoBulk d + uptoBulkAll r
def uptoBulkEntries {H : Type} : List (Lit × DataW H) → Nat
  | [] => 0
  | x :: r => uptoBulkEntry x + uptoBulkEntries r
def uptoBulkEntry {H : Type} : Lit × DataW H → Nat
  | (.string bytes, d) => bytes.length + uptoBulk d + 1
  | (_, d) => uptoBulk d + 1
 end
def uptoSmall : (H : Type) → List (DataW H) → Bool := fun _ ds => decide (uptoBulkAll ds ≤ 1048576)
def OpenSpec.upto (s : _root_.Go.ChangeSpec) : _root_.Go.OpenSpec := { _root_.Go.OpenSpec.ofChange s with cond := some uptoSmall }

/-- 'ferryhouselaw10.PrioritiesRise', WHERE WHAT IT READS IS OF BULK AT MOST 1048576: true; the input reads as it did. -/
def prioritiesRiseUptoRow : OpenClaim := { program := "ytfbdolcgekmdgaa", sum := "dc7f79a0f3a7c3acc5a804d7b61fbd64cebc2b7439dedaa43bc726cb2285365a", func := "ferryhouse/ferryhouselaw10.PrioritiesRise", spec := "prioritiesRise", inPlace := ["math/bits.Add64"], unfollowed := true, recurses := true, named := ["math/bits.divideError", "math/bits.overflowError"], apart := false, narrowed := true }
def PrioritiesRiseUptoSaid : Prop := prioritiesRiseUptoRow.holds Try.pinned (OpenSpec.upto prioritiesRiseSpec)

/-- 'ferryhouselaw10.PrioritiesFee', WHERE WHAT IT READS IS OF BULK AT MOST 1048576: true; the input reads as it did. -/
def prioritiesFeeUptoRow : OpenClaim := { program := "ytfbdolcgekmdgaa", sum := "dc7f79a0f3a7c3acc5a804d7b61fbd64cebc2b7439dedaa43bc726cb2285365a", func := "ferryhouse/ferryhouselaw10.PrioritiesFee", spec := "prioritiesFee", inPlace := ["math/bits.Add64"], unfollowed := true, recurses := true, named := ["math/bits.divideError", "math/bits.overflowError"], apart := false, narrowed := true }
def PrioritiesFeeUptoSaid : Prop := prioritiesFeeUptoRow.holds Try.pinned (OpenSpec.upto prioritiesFeeSpec)

/-- 'ferryhouselaw10.PrioritiesCost', WHERE WHAT IT READS IS OF BULK AT MOST 1048576: true; the input reads as it did. -/
def prioritiesCostUptoRow : OpenClaim := { program := "ytfbdolcgekmdgaa", sum := "dc7f79a0f3a7c3acc5a804d7b61fbd64cebc2b7439dedaa43bc726cb2285365a", func := "ferryhouse/ferryhouselaw10.PrioritiesCost", spec := "prioritiesCost", inPlace := ["math/bits.Add64"], unfollowed := true, recurses := true, named := ["math/bits.divideError", "math/bits.overflowError"], apart := false, narrowed := true }
def PrioritiesCostUptoSaid : Prop := prioritiesCostUptoRow.holds Try.pinned (OpenSpec.upto prioritiesCostSpec)

end Rows
end Go.Proofs.Ytfbdolcgekmdgaa
