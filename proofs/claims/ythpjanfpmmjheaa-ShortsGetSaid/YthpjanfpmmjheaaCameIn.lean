/-
  What a walk is told of a slice of integers that came in.
-/
import Derived.Test.YthpjanfpmmjheaaRows
import Derived.Test.YthpjanfpmmjheaaMem
import Derived.WalkKit
import Derived.ProofKit
import Derived.OpenShut
import Derived.ShutString
import Derived.ChangeOld
import Derived.Below
import Derived.Lib.SmallJoins
namespace Go.Proofs.Ythpjanfpmmjheaa
open Go.RowKit
set_option linter.unusedVariables false

/-- a slice that came in reads as the numbers zs, each fitting its kind -/
structure CameIn (k : IntKind) (w : World) (A : Option Addr) (n c : Nat) (zs : List Int) : Prop where
  sees : Sees w w.heap.size A n (cv k zs)
  cap : n ≤ c
  max : c ≤ maxLen
  wf : ∀ z ∈ zs, (Lit.int k z).wf = true

theorem CameIn.nil (k : IntKind) (w : World) : CameIn k w none 0 0 [] := ⟨Sees.nil _ _ _, Nat.le_refl _, Nat.zero_le _, by simp⟩
theorem CameIn.of {k : IntKind} {w : World} {x : Addr} {l c : Nat} {zs : List Int} (hl : l ≤ c) (hm : c ≤ maxLen) (hz : zs.length = c)
    (hcell : ∀ i, i < zs.length → w.cell? (x.add i) = some (.int k (zs.getD i 0))) (hw : ∀ z ∈ zs, (Lit.int k z).wf = true) : CameIn k w (some x) l c (zs.take l) :=
  ⟨⟨by simp [cv]; omega, fun i u hu => by
    have hi : i < l ∧ i < zs.length := by
      have := (List.getElem?_eq_some_iff.1 hu).1
      simp [cv] at this
      omega
    have hc := hcell i hi.2
    have hu' : u = .int k (zs.getD i 0) := by
      simp [cv, List.getElem?_take, hi.1, hi.2] at hu
      rw [List.getD_eq_getElem?_getD, List.getElem?_eq_getElem hi.2]
      exact hu.symm
    refine ⟨x, rfl, ?_, by rw [hu']; exact hc⟩
    have := World.block_lt_of_cell? w _ hc
    rwa [addr_block] at this⟩, hl, hm, fun z hz => hw z (List.mem_of_mem_take hz)⟩
end Go.Proofs.Ythpjanfpmmjheaa
