/-
  's[k:]' of what is seen: the walk's arm.
-/
import Derived.Test.YtolijdbdpnbchaaAppend
import Derived.Test.YtolijdbdpnbchaaWhole
import Derived.Laws.Slices
namespace Go.Proofs.Ytolijdbdpnbchaa
open Go.RowKit
set_option linter.unusedVariables false

section
variable {P : Program} {w : World} {o : Oper} {a : Act}
/-- where what is left of a list begins -/
def tailAt (A : Option Addr) (c k : Nat) : Option Addr := if c = k then A else A.map (·.add k)
theorem Sees.tail {B : Nat} {A : Option Addr} {n c k : Nat} {xs : List Value} (h : Sees w B A n xs) (hk : k ≤ n) (hn : n ≤ c) : Sees w B (tailAt A c k) (n - k) (xs.drop k) := by
  refine ⟨by rw [List.length_drop, h.len], fun j u hu => ?_⟩
  rw [List.getElem?_drop] at hu
  obtain ⟨ad, rfl, hb, hc⟩ := h.cell _ u hu
  have h1 := (List.getElem?_eq_some_iff.1 hu).1
  have h2 := h.len
  refine ⟨ad.add k, by unfold tailAt; rw [if_neg (by omega)]; rfl, by rw [addr_block]; exact hb, by rw [addr_add]; exact hc⟩

theorem run_tail (t e : TypeId) (x i : Operand) (ho : o.op = .slice t x (some i) none none) (ht : P.underlying t = some (.slice e)) (hsz : (P.info? e).map (·.size) = some 1)
    (A : Option Addr) (n c k : Nat) (hx : a.eval x = .slice A n c) (hi : a.eval i = .int .i64 k) (hk : k ≤ n) (hn : n ≤ c) (hc : c ≤ maxLen) :
    (execOp a.eval o).run P w = .ok (.value (.slice (tailAt A c k) (n - k) (c - k))) w := by
  unfold maxLen at hc
  obtain ⟨ie, hie, hs1⟩ : ∃ i, P.info? e = some i ∧ i.size = 1 := by
    cases h : P.info? e with
    | none => rw [h] at hsz; cases hsz
    | some i => rw [h] at hsz; exact ⟨i, rfl, by simpa using hsz⟩
  have he : P.elem t = e := by simp [Program.elem, ht]
  have ht' : P.underlying t = some (.slice (P.elem t)) := by rw [he]; exact ht
  have hso : (sizeOf e).run P w = .ok 1 w := by simp [sizeOf, typeInfo, hie, hs1]
  have h1 : (0 : Int) ≤ k := by omega
  have h2 : (k : Int) ≤ n := by omega
  unfold execOp
  simp only [ho, hx, hi, Option.map_some, Option.map_none]
  simp only [Sem.run_bind, run_sliceAt_slice w t _ _ _ _ ht', run_slice_l w t A n c ht' .i64 k h1 h2, he, hso, Result.andThen_ok, sliced, tailAt, Int.toNat_natCast, Nat.mul_one, Sem.run_pure]

theorem wpList_tail {ops : Array Oper} {rest : List Oper} {Q : Exit → Act → World → Prop} (hgd : o.guard = none) (t e : TypeId) (x i : Operand) (ho : o.op = .slice t x (some i) none none) (ht : P.underlying t = some (.slice e)) (hsz : (P.info? e).map (·.size) = some 1)
    (A : Option Addr) (n c k : Nat) (hx : a.eval x = .slice A n c) (hi : a.eval i = .int .i64 k) (hk : k ≤ n) (hn : n ≤ c) (hc : c ≤ maxLen)
    (h : wpList P ops Q rest (a.put o.dst (.slice (tailAt A c k) (n - k) (c - k))) w) : wpList P ops Q (o :: rest) a w :=
  wpList_plain hgd fun K hK => by
    unfold Oper.wp
    rw [run_tail t e x i ho ht hsz A n c k hx hi hk hn hc]
    exact hK _ _ h
end
end Go.Proofs.Ytolijdbdpnbchaa
