/-
  No cell of these rows narrows 'for every input' (looked for: loops, veiled, ifaces, maps, wideKeys, modest, calm, conditions, laid).
  DERIVED. THE GIVEN ROWS OF THIS SEAT. 4 by the template 'for every input the law returns true; each argument reads behind the call as it read before'; 0 by the template 'total and deterministic' (their statements: YtmpgibemmhcncaaTotals.lean).
  GIVEN WITH THE SEED: the statements are not yours to turn. If you find one false, say at which input.
  Laid BY PROGRAM, IN A SANDBOX (cutbox-rows.mjs): the forced cells as the released guide's own fill.sh prints them over the translation 4e0b44ad21452c40… (all of the seat's roots in one cut). By AI agents, Wed Nov 11 2026. No macro, syntax, notation, axiom, sorry.
-/
import Derived.Test.YtmpgibemmhcncaaChecked
import GoSem.Claim
import GoSem.ClaimJoined
import GoSem.ClaimMapViews
import Derived.JoinedTies
import Derived.KernelRfl
namespace Go.Proofs.Ytmpgibemmhcncaa
/- THE CELL 'sum', in the pinned program and in every row, IS THE sha256 OF THE DUMP (.gsa) THAT YtmpgibemmhcncaaProg.lean LOADS. Nothing in Lean hashes anything: it is a label: what it is worth is what the hold of that sum in a sandbox is worth. -/
noncomputable def Try.pinned : Pinned := { name := "ytmpgibemmhcncaa", sum := "4e0b44ad21452c409ff66896e65fed41e93ca38747e2902a8cc4cd5912f21a1e", checked := Try.checked }
namespace Rows
def none {H : Type} : Left H := { results := [], args := [] }

/-- 'ferryhouselaw09.CostsOf': WHATEVER THE INPUT: true; the input reads as it did. -/
def costsOfSpec : ChangeSpec := { name := "costsOf", fn := fun _ => fun
  | [d1, d2, d3] => { results := [.lit (.bool true)], args := [d1, d2, d3] }
  | _ => none }
def costsOfRow : OpenClaim := { program := "ytmpgibemmhcncaa", sum := "4e0b44ad21452c409ff66896e65fed41e93ca38747e2902a8cc4cd5912f21a1e", func := "ferryhouse/ferryhouselaw09.CostsOf", spec := "costsOf", inPlace := ["math/bits.Add64"], unfollowed := true, recurses := true, named := ["math/bits.divideError", "math/bits.overflowError"], apart := false }
def CostsOfSaid : Prop := costsOfRow.holds Try.pinned (OpenSpec.ofChange costsOfSpec)

/-- ITS FALSE NEIGHBOUR: 'it returns false'. Refute it at one input. -/
def costsOfWrong : ChangeSpec := { name := "costsOf", fn := fun _ => fun
  | [d1, d2, d3] => { results := [.lit (.bool false)], args := [d1, d2, d3] }
  | _ => none }
def CostsOfWrongFalsely : Prop := costsOfRow.holds Try.pinned (OpenSpec.ofChange costsOfWrong)

/-- 'ferryhouselaw09.CostsMore': WHATEVER THE INPUT: true; the input reads as it did. -/
def costsMoreSpec : ChangeSpec := { name := "costsMore", fn := fun _ => fun
  | [d1, d2, d3] => { results := [.lit (.bool true)], args := [d1, d2, d3] }
  | _ => none }
def costsMoreRow : OpenClaim := { program := "ytmpgibemmhcncaa", sum := "4e0b44ad21452c409ff66896e65fed41e93ca38747e2902a8cc4cd5912f21a1e", func := "ferryhouse/ferryhouselaw09.CostsMore", spec := "costsMore", inPlace := ["math/bits.Add64"], unfollowed := true, recurses := true, named := ["math/bits.divideError", "math/bits.overflowError"], apart := false }
def CostsMoreSaid : Prop := costsMoreRow.holds Try.pinned (OpenSpec.ofChange costsMoreSpec)

/-- ITS FALSE NEIGHBOUR: 'it returns false'. Refute it at one input. -/
def costsMoreWrong : ChangeSpec := { name := "costsMore", fn := fun _ => fun
  | [d1, d2, d3] => { results := [.lit (.bool false)], args := [d1, d2, d3] }
  | _ => none }
def CostsMoreWrongFalsely : Prop := costsMoreRow.holds Try.pinned (OpenSpec.ofChange costsMoreWrong)

/-- 'ferryhouselaw09.CostsParts': WHATEVER THE INPUT: true; the input reads as it did. -/
def costsPartsSpec : ChangeSpec := { name := "costsParts", fn := fun _ => fun
  | [d1, d2, d3] => { results := [.lit (.bool true)], args := [d1, d2, d3] }
  | _ => none }
def costsPartsRow : OpenClaim := { program := "ytmpgibemmhcncaa", sum := "4e0b44ad21452c409ff66896e65fed41e93ca38747e2902a8cc4cd5912f21a1e", func := "ferryhouse/ferryhouselaw09.CostsParts", spec := "costsParts", inPlace := ["math/bits.Add64"], unfollowed := true, recurses := true, named := ["math/bits.divideError", "math/bits.overflowError"], apart := false }
def CostsPartsSaid : Prop := costsPartsRow.holds Try.pinned (OpenSpec.ofChange costsPartsSpec)

/-- ITS FALSE NEIGHBOUR: 'it returns false'. Refute it at one input. -/
def costsPartsWrong : ChangeSpec := { name := "costsParts", fn := fun _ => fun
  | [d1, d2, d3] => { results := [.lit (.bool false)], args := [d1, d2, d3] }
  | _ => none }
def CostsPartsWrongFalsely : Prop := costsPartsRow.holds Try.pinned (OpenSpec.ofChange costsPartsWrong)

/-- 'ferryhouselaw09.CostsOther': WHATEVER THE INPUT: true; the input reads as it did. -/
def costsOtherSpec : ChangeSpec := { name := "costsOther", fn := fun _ => fun
  | [d1, d2] => { results := [.lit (.bool true)], args := [d1, d2] }
  | _ => none }
def costsOtherRow : OpenClaim := { program := "ytmpgibemmhcncaa", sum := "4e0b44ad21452c409ff66896e65fed41e93ca38747e2902a8cc4cd5912f21a1e", func := "ferryhouse/ferryhouselaw09.CostsOther", spec := "costsOther", inPlace := ["math/bits.Add64"], unfollowed := true, recurses := true, named := ["math/bits.divideError", "math/bits.overflowError"], apart := false }
def CostsOtherSaid : Prop := costsOtherRow.holds Try.pinned (OpenSpec.ofChange costsOtherSpec)

/-- ITS FALSE NEIGHBOUR: 'it returns false'. Refute it at one input. -/
def costsOtherWrong : ChangeSpec := { name := "costsOther", fn := fun _ => fun
  | [d1, d2] => { results := [.lit (.bool false)], args := [d1, d2] }
  | _ => none }
def CostsOtherWrongFalsely : Prop := costsOtherRow.holds Try.pinned (OpenSpec.ofChange costsOtherWrong)

/- THE SECOND FORM. 'bulk': how many values and letters a reading holds, each counted each time it is reached (what is shared counts as often as it is met; a slice's spare places count too). A statement '..UptoSaid' is the law's where the arguments, and the package variables that the reading takes, are together of bulk at most 1048576: NARROWER than '..Said'. Prove '..Said' where nothing that the law and all that it calls make is longer than what came in: it says more and counts as full. Else prove '..UptoSaid'. A law counts once. -/
mutual
def uptoBulk {H : Type} : DataW H → Nat
  | .lit (.string bytes) => bytes.length + 1
  | .lit _ => 1
  | .nil => 1
  | .ptr d => uptoBulk d + 1
  | .slice elems spare => uptoBulkAll elems + uptoBulkAll spare + 1
  | .agg parts => uptoBulkAll parts + 1
  | .iface _ d => uptoBulk d + 1
  | .map entries => uptoBulkEntries entries + 1
  | .held _ => 1
def uptoBulkAll {H : Type} : List (DataW H) → Nat
  | [] => 0
  | d :: r => uptoBulk d + uptoBulkAll r
def uptoBulkEntries {H : Type} : List (Lit × DataW H) → Nat
  | [] => 0
  | x :: r => uptoBulkEntry x + uptoBulkEntries r
def uptoBulkEntry {H : Type} : Lit × DataW H → Nat
  | (.string bytes, d) => bytes.length + uptoBulk d + 1
  | (_, d) => uptoBulk d + 1
 end
def uptoSmall : (H : Type) → List (DataW H) → Bool := fun _ ds => decide (uptoBulkAll ds ≤ 1048576)
def OpenSpec.upto (s : _root_.Go.ChangeSpec) : _root_.Go.OpenSpec := { _root_.Go.OpenSpec.ofChange s with cond := some uptoSmall }

/-- 'ferryhouselaw09.CostsOf', WHERE WHAT IT READS IS OF BULK AT MOST 1048576: true; the input reads as it did. -/
def costsOfUptoRow : OpenClaim := { program := "ytmpgibemmhcncaa", sum := "4e0b44ad21452c409ff66896e65fed41e93ca38747e2902a8cc4cd5912f21a1e", func := "ferryhouse/ferryhouselaw09.CostsOf", spec := "costsOf", inPlace := ["math/bits.Add64"], unfollowed := true, recurses := true, named := ["math/bits.divideError", "math/bits.overflowError"], apart := false, narrowed := true }
def CostsOfUptoSaid : Prop := costsOfUptoRow.holds Try.pinned (OpenSpec.upto costsOfSpec)

/-- 'ferryhouselaw09.CostsMore', WHERE WHAT IT READS IS OF BULK AT MOST 1048576: true; the input reads as it did. -/
def costsMoreUptoRow : OpenClaim := { program := "ytmpgibemmhcncaa", sum := "4e0b44ad21452c409ff66896e65fed41e93ca38747e2902a8cc4cd5912f21a1e", func := "ferryhouse/ferryhouselaw09.CostsMore", spec := "costsMore", inPlace := ["math/bits.Add64"], unfollowed := true, recurses := true, named := ["math/bits.divideError", "math/bits.overflowError"], apart := false, narrowed := true }
def CostsMoreUptoSaid : Prop := costsMoreUptoRow.holds Try.pinned (OpenSpec.upto costsMoreSpec)

/-- 'ferryhouselaw09.CostsParts', WHERE WHAT IT READS IS OF BULK AT MOST 1048576: true; the input reads as it did. -/
def costsPartsUptoRow : OpenClaim := { program := "ytmpgibemmhcncaa", sum := "4e0b44ad21452c409ff66896e65fed41e93ca38747e2902a8cc4cd5912f21a1e", func := "ferryhouse/ferryhouselaw09.CostsParts", spec := "costsParts", inPlace := ["math/bits.Add64"], unfollowed := true, recurses := true, named := ["math/bits.divideError", "math/bits.overflowError"], apart := false, narrowed := true }
def CostsPartsUptoSaid : Prop := costsPartsUptoRow.holds Try.pinned (OpenSpec.upto costsPartsSpec)

/-- 'ferryhouselaw09.CostsOther', WHERE WHAT IT READS IS OF BULK AT MOST 1048576: true; the input reads as it did. -/
def costsOtherUptoRow : OpenClaim := { program := "ytmpgibemmhcncaa", sum := "4e0b44ad21452c409ff66896e65fed41e93ca38747e2902a8cc4cd5912f21a1e", func := "ferryhouse/ferryhouselaw09.CostsOther", spec := "costsOther", inPlace := ["math/bits.Add64"], unfollowed := true, recurses := true, named := ["math/bits.divideError", "math/bits.overflowError"], apart := false, narrowed := true }
def CostsOtherUptoSaid : Prop := costsOtherUptoRow.holds Try.pinned (OpenSpec.upto costsOtherSpec)

end Rows
end Go.Proofs.Ytmpgibemmhcncaa
