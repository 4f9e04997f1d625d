/-
  Parts joined: Open7.
-/
import Derived.Below
import Derived.Laws.OwnMore
import Derived.Deep.AppendLies
import Derived.Deep.Draws
import Derived.Lib.Hide
import Derived.Laws.MakeOwn
import Derived.Laws.CopyOwn
import Derived.Laws.Rows
import Derived.Laws.BitsAllLaws
import Derived.WalkKit
import Derived.Test.YtkpdjjhkocmfoaaRows
import Derived.WalkSpells
import Derived.WalkLawsBesides
import Derived.IntWalk
import Derived.Maps.AppendAt
import Derived.OwnWalk
import Derived.Deep.MidRow
import Derived.Deep.WholeRow
import Derived.Great.BuildSlice
import Derived.ProofKit
import Derived.OpenShut
import Derived.ShutString
import Derived.ChangeOld
import Derived.Lib.SmallJoins
import Derived.Recover
import Derived.Deep.RegionHeld
import Derived.Deep.QuietTactic
import Derived.BigQuiet
import Derived.Deep.Slices
import Derived.Deep.Strs
import Derived.SizedLaws
import Derived.Maps.OwnSet
import Derived.DeepKeys4
import Derived.WideKeyArr
import Derived.ChangeKeysEq
import Derived.Deep.RegionHeld2
import Derived.Deep.CutBlock
import Derived.Laws.Tables
import Derived.Laws.StructEq
import Derived.Deep.DeepCutAuto
import Derived.Laws.Slices
import Derived.Laws.EntriesVeiled
import Derived.Deep.RegionHeld3
import Derived.WideKeyEntry
import Derived.Shelf.SlMaps.Clone
import Derived.Laws.Append
import Derived.Laws.AppendOwn
import Derived.Test.YtkpdjjhkocmfoaaB1
import Derived.Test.YtkpdjjhkocmfoaaB2
import Derived.Test.YtkpdjjhkocmfoaaB3
import Derived.Test.YtkpdjjhkocmfoaaB4
/-
  Of part Open7: what is needed here.
-/
namespace Go.Proofs.Ytkpdjjhkocmfoaa
open Go.ChangeShapes Go.WideShapes Go.RowKit
set_option linter.unusedVariables false
section
variable {H : Type} {enc : TypeId × Value → H} {w : World} {base b0 : Nat} {held : Bool}
theorem open_keys_v {A : Option Addr} {n c : Nat} {d : DataW H} {p : List MemPlace} (h : DataW.Trod enc Try.prog w base (fun _ => true) held 25 (.slice A n c) d p) (hw : Wt 25 d) :
    ∃ l, n ≤ c ∧ c ≤ maxLen ∧ KeysIn w w.heap.size A n l ∧ (∀ k ∈ l, k.length = 32 ∧ AllBytes k) ∧ l.length ≤ 140737488355328 := by
  obtain ⟨fuel, hf⟩ := h
  obtain ⟨A', n', c', l, hv, h1⟩ := open_keys (v := .slice A n c) hf hw
  injection hv with e1 e2 e3
  subst e1 e2 e3
  exact ⟨l, h1⟩
end
end Go.Proofs.Ytkpdjjhkocmfoaa
