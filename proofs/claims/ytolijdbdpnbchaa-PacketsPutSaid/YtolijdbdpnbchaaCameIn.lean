/-
  What a walk is told of a slice of integers that came in.
-/
import Derived.Test.YtolijdbdpnbchaaRows
import Derived.Test.YtolijdbdpnbchaaMem
import Derived.WalkKit
import Derived.ProofKit
import Derived.OpenShut
import Derived.ShutString
import Derived.ChangeOld
import Derived.Below
import Derived.Lib.SmallJoins
namespace Go.Proofs.Ytolijdbdpnbchaa
open Go.RowKit
set_option linter.unusedVariables false

/-- a slice that came in reads as the numbers zs, each fitting its kind -/
structure CameIn (k : IntKind) (w : World) (A : Option Addr) (n c : Nat) (zs : List Int) : Prop where
  sees : Sees w w.heap.size A n (cv k zs)
  cap : n ≤ c
  max : c ≤ maxLen
  wf : ∀ z ∈ zs, (Lit.int k z).wf = true

theorem CameIn.nil (k : IntKind) (w : World) : CameIn k w none 0 0 [] := ⟨Sees.nil _ _ _, Nat.le_refl _, Nat.zero_le _, by simp⟩
theorem CameIn.of {k : IntKind} {w : World} {x : Addr} {l c : Nat} {zs : List Int} (hl : l ≤ c) (hm : c ≤ maxLen) (hz : zs.length = c)
    (hcell : ∀ i, i < zs.length → w.cell? (x.add i) = some (.int k (zs.getD i 0))) (hw : ∀ z ∈ zs, (Lit.int k z).wf = true) : CameIn k w (some x) l c (zs.take l) :=
  ⟨⟨by simp [cv]; omega, fun i u hu => by
    have hi : i < l ∧ i < zs.length := by
      have := (List.getElem?_eq_some_iff.1 hu).1
      simp [cv] at this
      omega
    have hc := hcell i hi.2
    have hu' : u = .int k (zs.getD i 0) := by
      simp [cv, List.getElem?_take, hi.1, hi.2] at hu
      rw [List.getD_eq_getElem?_getD, List.getElem?_eq_getElem hi.2]
      exact hu.symm
    refine ⟨x, rfl, ?_, by rw [hu']; exact hc⟩
    have := World.block_lt_of_cell? w _ hc
    rwa [addr_block] at this⟩, hl, hm, fun z hz => hw z (List.mem_of_mem_take hz)⟩

theorem u64_lt {n : Int} (h : (Lit.int .u64 n).wf = true) : n < 18446744073709551616 := by
  have := (bounds_u64 h).2
  omega

open Go.ChangeShapes Go.WideShapes in
/-- an array of integers that came in by value -/
theorem open_int_array {H : Type} {enc : TypeId × Value → H} {P : Program} {w : World} {base : Nat} {sp : Nat → Bool} {held : Bool} {r : Reach} {b0 t e n : Nat} {q : IntKind} {v : Value} {d : DataW H} {p : List MemPlace}
    (ht : P.underlying t = some (.array n e)) (he : P.underlying e = some (.int q)) (hce : P.cellsOf e = 1) (hct : P.cellsOf t = n)
    (hv : Value.okWide P w r b0 t v) (h : DataW.Trod enc P w base sp held t v d p) : ∃ zs : List Int, v = .agg (cv q zs).toArray ∧ zs.length = n ∧ ∀ z ∈ zs, (Lit.int q z).wf = true := by
  simp only [Value.okWide, ht] at hv
  obtain ⟨cs, rfl, h2, _⟩ := hv
  obtain ⟨fuel, hf⟩ := h
  obtain ⟨xs, m, _, _, hl, hxs, hat⟩ := DataW.trod_array ht hf
  have each : ∀ i (hi : i < n), ∃ z, cs.toList[i]? = some (.int q z) ∧ (Lit.int q z).wf = true := by
    intro i hi
    have h1 := hat i hi
    have hx : xs[i]? = some xs[i] := List.getElem?_eq_getElem (by omega)
    rw [hce, hx] at h1
    obtain ⟨z, hz, _, hw⟩ := DataW.trod_int he h1
    refine ⟨z, ?_, hw⟩
    have := congrArg List.head? hz
    simpa [Value.cells, List.head?_take] using this
  have hcs : cs.toList.length = n := by rw [hct] at h2; simpa using h2
  refine ⟨cs.toList.map fun v => match v with | .int _ z => z | _ => 0, ?_, by simpa using hcs, ?_⟩
  · congr 1
    apply Array.ext_getElem?
    intro i
    by_cases hi : i < n
    · obtain ⟨z, hz, _⟩ := each i hi
      have hz' : cs[i]? = some (.int q z) := by simpa using hz
      simp [cv, hz']
    · have e1 : cs[i]? = none := Array.getElem?_eq_none (by simp at hcs; omega)
      simp [cv, e1]
  · intro z hz
    simp only [List.mem_map] at hz
    obtain ⟨u, hu, rfl⟩ := hz
    obtain ⟨i, hi, he⟩ := List.getElem_of_mem hu
    obtain ⟨z, hz, hw⟩ := each i (by omega)
    rw [List.getElem?_eq_getElem hi, he] at hz
    cases hz
    exact hw
end Go.Proofs.Ytolijdbdpnbchaa
