/-
  No cell of these rows narrows 'for every input' (looked for: loops, veiled, ifaces, maps, wideKeys, modest, calm, conditions, laid).
  DERIVED. THE GIVEN ROWS OF THIS SEAT. 5 by the template 'for every input the law returns true; each argument reads behind the call as it read before'; 0 by the template 'total and deterministic' (their statements: YtpkkgmmcindfgaaTotals.lean).
  GIVEN WITH THE SEED: the statements are not yours to turn. If you find one false, say at which input.
  Laid BY PROGRAM, IN A SANDBOX (cutbox-rows.mjs): the forced cells as the released guide's own fill.sh prints them over the translation 0b324c01097559c1… (all of the seat's roots in one cut). By AI agents, Wed Nov 11 2026. No macro, syntax, notation, axiom, sorry.
-/
import Derived.Test.YtpkkgmmcindfgaaChecked
import GoSem.Claim
import GoSem.ClaimJoined
import GoSem.ClaimMapViews
import Derived.JoinedTies
import Derived.KernelRfl
namespace Go.Proofs.Ytpkkgmmcindfgaa
/- THE CELL 'sum', in the pinned program and in every row, IS THE sha256 OF THE DUMP (.gsa) THAT YtpkkgmmcindfgaaProg.lean LOADS. Nothing in Lean hashes anything: it is a label: what it is worth is what the hold of that sum in a sandbox is worth. -/
noncomputable def Try.pinned : Pinned := { name := "ytpkkgmmcindfgaa", sum := "0b324c01097559c15663110f2e65def73e396165f1bd7aad0dfd45988a3509a9", checked := Try.checked }
namespace Rows
def none {H : Type} : Left H := { results := [], args := [] }

/-- 'ferryhouselaw13.AccountsPlay': WHATEVER THE INPUT: true; the input reads as it did. -/
def accountsPlaySpec : ChangeSpec := { name := "accountsPlay", fn := fun _ => fun
  | [d1, d2] => { results := [.lit (.bool true)], args := [d1, d2] }
  | _ => none }
def accountsPlayRow : OpenClaim := { program := "ytpkkgmmcindfgaa", sum := "0b324c01097559c15663110f2e65def73e396165f1bd7aad0dfd45988a3509a9", func := "ferryhouse/ferryhouselaw13.AccountsPlay", spec := "accountsPlay", inPlace := ["math/bits.Add64", "internal/bytealg.Compare", "maps.clone"], unfollowed := true, recurses := true, plainKeys := false, apart := false }
def AccountsPlaySaid : Prop := accountsPlayRow.holds Try.pinned (OpenSpec.ofChange accountsPlaySpec)

/-- ITS FALSE NEIGHBOUR: 'it returns false'. Refute it at one input. -/
def accountsPlayWrong : ChangeSpec := { name := "accountsPlay", fn := fun _ => fun
  | [d1, d2] => { results := [.lit (.bool false)], args := [d1, d2] }
  | _ => none }
def AccountsPlayWrongFalsely : Prop := accountsPlayRow.holds Try.pinned (OpenSpec.ofChange accountsPlayWrong)

/-- 'ferryhouselaw13.AccountsNone': WHATEVER THE INPUT: true; the input reads as it did. -/
def accountsNoneSpec : ChangeSpec := { name := "accountsNone", fn := fun _ => fun
  | [d] => { results := [.lit (.bool true)], args := [d] }
  | _ => none }
def accountsNoneRow : OpenClaim := { program := "ytpkkgmmcindfgaa", sum := "0b324c01097559c15663110f2e65def73e396165f1bd7aad0dfd45988a3509a9", func := "ferryhouse/ferryhouselaw13.AccountsNone", spec := "accountsNone", inPlace := ["math/bits.Add64", "internal/bytealg.Compare", "maps.clone"], unfollowed := true, recurses := true, plainKeys := false, apart := false }
def AccountsNoneSaid : Prop := accountsNoneRow.holds Try.pinned (OpenSpec.ofChange accountsNoneSpec)

/-- ITS FALSE NEIGHBOUR: 'it returns false'. Refute it at one input. -/
def accountsNoneWrong : ChangeSpec := { name := "accountsNone", fn := fun _ => fun
  | [d] => { results := [.lit (.bool false)], args := [d] }
  | _ => none }
def AccountsNoneWrongFalsely : Prop := accountsNoneRow.holds Try.pinned (OpenSpec.ofChange accountsNoneWrong)

/-- 'ferryhouselaw13.AccountsLast': WHATEVER THE INPUT: true; the input reads as it did. -/
def accountsLastSpec : ChangeSpec := { name := "accountsLast", fn := fun _ => fun
  | [d] => { results := [.lit (.bool true)], args := [d] }
  | _ => none }
def accountsLastRow : OpenClaim := { program := "ytpkkgmmcindfgaa", sum := "0b324c01097559c15663110f2e65def73e396165f1bd7aad0dfd45988a3509a9", func := "ferryhouse/ferryhouselaw13.AccountsLast", spec := "accountsLast", inPlace := ["math/bits.Add64", "internal/bytealg.Compare"], unfollowed := true, recurses := true, plainKeys := false, apart := false }
def AccountsLastSaid : Prop := accountsLastRow.holds Try.pinned (OpenSpec.ofChange accountsLastSpec)

/-- ITS FALSE NEIGHBOUR: 'it returns false'. Refute it at one input. -/
def accountsLastWrong : ChangeSpec := { name := "accountsLast", fn := fun _ => fun
  | [d] => { results := [.lit (.bool false)], args := [d] }
  | _ => none }
def AccountsLastWrongFalsely : Prop := accountsLastRow.holds Try.pinned (OpenSpec.ofChange accountsLastWrong)

/-- 'ferryhouselaw13.AccountsAgain': WHATEVER THE INPUT: true; the input reads as it did. -/
def accountsAgainSpec : ChangeSpec := { name := "accountsAgain", fn := fun _ => fun
  | [d1, d2] => { results := [.lit (.bool true)], args := [d1, d2] }
  | _ => none }
def accountsAgainRow : OpenClaim := { program := "ytpkkgmmcindfgaa", sum := "0b324c01097559c15663110f2e65def73e396165f1bd7aad0dfd45988a3509a9", func := "ferryhouse/ferryhouselaw13.AccountsAgain", spec := "accountsAgain", inPlace := ["math/bits.Add64", "internal/bytealg.Compare", "maps.clone"], unfollowed := true, recurses := true, plainKeys := false, apart := false }
def AccountsAgainSaid : Prop := accountsAgainRow.holds Try.pinned (OpenSpec.ofChange accountsAgainSpec)

/-- ITS FALSE NEIGHBOUR: 'it returns false'. Refute it at one input. -/
def accountsAgainWrong : ChangeSpec := { name := "accountsAgain", fn := fun _ => fun
  | [d1, d2] => { results := [.lit (.bool false)], args := [d1, d2] }
  | _ => none }
def AccountsAgainWrongFalsely : Prop := accountsAgainRow.holds Try.pinned (OpenSpec.ofChange accountsAgainWrong)

/-- 'ferryhouselaw13.AccountsCoins': WHATEVER THE INPUT: true; the input reads as it did. -/
def accountsCoinsSpec : ChangeSpec := { name := "accountsCoins", fn := fun _ => fun
  | [d1, d2, d3] => { results := [.lit (.bool true)], args := [d1, d2, d3] }
  | _ => none }
def accountsCoinsRow : OpenClaim := { program := "ytpkkgmmcindfgaa", sum := "0b324c01097559c15663110f2e65def73e396165f1bd7aad0dfd45988a3509a9", func := "ferryhouse/ferryhouselaw13.AccountsCoins", spec := "accountsCoins", inPlace := ["math/bits.Add64", "internal/bytealg.Compare"], unfollowed := true, recurses := true, plainKeys := false, apart := false }
def AccountsCoinsSaid : Prop := accountsCoinsRow.holds Try.pinned (OpenSpec.ofChange accountsCoinsSpec)

/-- ITS FALSE NEIGHBOUR: 'it returns false'. Refute it at one input. -/
def accountsCoinsWrong : ChangeSpec := { name := "accountsCoins", fn := fun _ => fun
  | [d1, d2, d3] => { results := [.lit (.bool false)], args := [d1, d2, d3] }
  | _ => none }
def AccountsCoinsWrongFalsely : Prop := accountsCoinsRow.holds Try.pinned (OpenSpec.ofChange accountsCoinsWrong)

/- THE SECOND FORM. 'bulk': how many values and letters a reading holds, each counted each time it is reached (what is shared counts as often as it is met; a slice's spare places count too). A statement '..UptoSaid' is the law's where the arguments, and the package variables that the reading takes, are together of bulk at most 1048576: NARROWER than '..Said'. Prove '..Said' where nothing that the law and all that it calls make is longer than what came in: it says more and counts as full. Else prove '..UptoSaid'. A law counts once. -/
mutual
def uptoBulk {H : Type} : DataW H → Nat
  | .lit (.string bytes) => bytes.length + 1
  | .lit _ => 1
  | .nil => 1
  | .ptr d => uptoBulk d + 1
  | .slice elems spare => uptoBulkAll elems + uptoBulkAll spare + 1
  | .agg parts => uptoBulkAll parts + 1
  | .iface _ d => uptoBulk d + 1
  | .map entries => uptoBulkEntries entries + 1
  | .held _ => 1
def uptoBulkAll {H : Type} : List (DataW H) → Nat
  | [] => 0
  | d :: r => uptoBulk d + uptoBulkAll r
def uptoBulkEntries {H : Type} : List (Lit × DataW H) → Nat
  | [] => 0
  | x :: r => uptoBulkEntry x + uptoBulkEntries r
def uptoBulkEntry {H : Type} : Lit × DataW H → Nat
  | (.string bytes, d) => bytes.length + uptoBulk d + 1
  | (_, d) => uptoBulk d + 1
 end
def uptoSmall : (H : Type) → List (DataW H) → Bool := fun _ ds => decide (uptoBulkAll ds ≤ 1048576)
def OpenSpec.upto (s : _root_.Go.ChangeSpec) : _root_.Go.OpenSpec := { _root_.Go.OpenSpec.ofChange s with cond := some uptoSmall }

/-- 'ferryhouselaw13.AccountsPlay', WHERE WHAT IT READS IS OF BULK AT MOST 1048576: true; the input reads as it did. -/
def accountsPlayUptoRow : OpenClaim := { program := "ytpkkgmmcindfgaa", sum := "0b324c01097559c15663110f2e65def73e396165f1bd7aad0dfd45988a3509a9", func := "ferryhouse/ferryhouselaw13.AccountsPlay", spec := "accountsPlay", inPlace := ["math/bits.Add64", "internal/bytealg.Compare", "maps.clone"], unfollowed := true, recurses := true, plainKeys := false, apart := false, narrowed := true }
def AccountsPlayUptoSaid : Prop := accountsPlayUptoRow.holds Try.pinned (OpenSpec.upto accountsPlaySpec)

/-- 'ferryhouselaw13.AccountsNone', WHERE WHAT IT READS IS OF BULK AT MOST 1048576: true; the input reads as it did. -/
def accountsNoneUptoRow : OpenClaim := { program := "ytpkkgmmcindfgaa", sum := "0b324c01097559c15663110f2e65def73e396165f1bd7aad0dfd45988a3509a9", func := "ferryhouse/ferryhouselaw13.AccountsNone", spec := "accountsNone", inPlace := ["math/bits.Add64", "internal/bytealg.Compare", "maps.clone"], unfollowed := true, recurses := true, plainKeys := false, apart := false, narrowed := true }
def AccountsNoneUptoSaid : Prop := accountsNoneUptoRow.holds Try.pinned (OpenSpec.upto accountsNoneSpec)

/-- 'ferryhouselaw13.AccountsLast', WHERE WHAT IT READS IS OF BULK AT MOST 1048576: true; the input reads as it did. -/
def accountsLastUptoRow : OpenClaim := { program := "ytpkkgmmcindfgaa", sum := "0b324c01097559c15663110f2e65def73e396165f1bd7aad0dfd45988a3509a9", func := "ferryhouse/ferryhouselaw13.AccountsLast", spec := "accountsLast", inPlace := ["math/bits.Add64", "internal/bytealg.Compare"], unfollowed := true, recurses := true, plainKeys := false, apart := false, narrowed := true }
def AccountsLastUptoSaid : Prop := accountsLastUptoRow.holds Try.pinned (OpenSpec.upto accountsLastSpec)

/-- 'ferryhouselaw13.AccountsAgain', WHERE WHAT IT READS IS OF BULK AT MOST 1048576: true; the input reads as it did. -/
def accountsAgainUptoRow : OpenClaim := { program := "ytpkkgmmcindfgaa", sum := "0b324c01097559c15663110f2e65def73e396165f1bd7aad0dfd45988a3509a9", func := "ferryhouse/ferryhouselaw13.AccountsAgain", spec := "accountsAgain", inPlace := ["math/bits.Add64", "internal/bytealg.Compare", "maps.clone"], unfollowed := true, recurses := true, plainKeys := false, apart := false, narrowed := true }
def AccountsAgainUptoSaid : Prop := accountsAgainUptoRow.holds Try.pinned (OpenSpec.upto accountsAgainSpec)

/-- 'ferryhouselaw13.AccountsCoins', WHERE WHAT IT READS IS OF BULK AT MOST 1048576: true; the input reads as it did. -/
def accountsCoinsUptoRow : OpenClaim := { program := "ytpkkgmmcindfgaa", sum := "0b324c01097559c15663110f2e65def73e396165f1bd7aad0dfd45988a3509a9", func := "ferryhouse/ferryhouselaw13.AccountsCoins", spec := "accountsCoins", inPlace := ["math/bits.Add64", "internal/bytealg.Compare"], unfollowed := true, recurses := true, plainKeys := false, apart := false, narrowed := true }
def AccountsCoinsUptoSaid : Prop := accountsCoinsUptoRow.holds Try.pinned (OpenSpec.upto accountsCoinsSpec)

end Rows
end Go.Proofs.Ytpkkgmmcindfgaa
