/-
  A message that came in: its lists of many cells, and itself.
-/
import Derived.Test.YtidggfbjmmjmfaaOpenMsg
namespace Go.Proofs.Ytidggfbjmmjmfaa
open Go.ChangeShapes Go.WideShapes Go.RowKit
set_option linter.unusedVariables false

theorem three_of {cs : List Value} (h : cs.length = 3) : ∃ a b c, cs = [a, b, c] := by
  match cs, h with
  | [a, b, c], _ => exact ⟨a, b, c, rfl⟩
theorem two_of {cs : List Value} (h : cs.length = 2) : ∃ a b, cs = [a, b] := by
  match cs, h with
  | [a, b], _ => exact ⟨a, b, rfl⟩

section
variable {H : Type} {enc : TypeId × Value → H} {w : World} {base : Nat} {held : Bool}
theorem wt_in {y0 y1 y2 : DataW H} (h : Wt 52 (.agg [y0, y1, y2])) : Wt 34 y1 ∧ Wt 34 y2 := by
  refine ⟨fun n hn => h n ?_, fun n hn => h n ?_⟩ <;> simp only [DataW.weights, Try.underlying52] <;> simp [DataW.weightsEach, hn]
theorem wt_look {y0 y1 y2 : DataW H} (h : Wt 55 (.agg [y0, y1, y2])) : Wt 34 y1 ∧ Wt 34 y2 := by
  refine ⟨fun n hn => h n ?_, fun n hn => h n ?_⟩ <;> simp only [DataW.weights, Try.underlying55] <;> simp [DataW.weightsEach, hn]
theorem wt_msg {y0 y1 y2 y3 y4 y5 : DataW H} (h : Wt 30 (.agg [y0, y1, y2, y3, y4, y5])) : Wt 24 y2 ∧ Wt 27 y4 ∧ Wt 28 y5 := by
  refine ⟨fun n hn => h n ?_, fun n hn => h n ?_, fun n hn => h n ?_⟩ <;> simp only [DataW.weights, Try.underlying30] <;> simp [DataW.weightsEach, hn]

theorem open_keys {fuel : Nat} {v : Value} {x : DataW H × List MemPlace} (h : DataW.trod enc Try.prog w base (fun _ => true) held fuel 24 [v] = some x) (hw : Wt 24 x.1) :
    ∃ A n c l, v = .slice A n c ∧ n ≤ c ∧ c ≤ maxLen ∧ KeysIn w w.heap.size A n l ∧ (∀ k ∈ l, k.length = 32 ∧ AllBytes k) ∧ l.length ≤ 140737488355328 := by
  obtain ⟨A, n, c, hcs, h1, h2, h3, h4⟩ := open_sl Try.underlying24 (by rw [cellsKey]; omega) h hw
  obtain rfl : v = .slice A n c := by simpa using hcs
  rw [bytesKey] at h3
  have := reach47
  obtain ⟨l, hl, hp⟩ := list_of (α := List Int) (p := fun i z => (z.length = 32 ∧ AllBytes z) ∧ ∃ a, A = some a ∧ a.block < w.heap.size ∧ ∀ j u, (bv z)[j]? = some u → w.cell? (a.add (i * 32 + j)) = some u) n fun i hi => by
    obtain ⟨a, cs', y, m, e1, e2, e3, e4, e5, _⟩ := h4 i hi
    obtain ⟨z, rfl, hz, hz'⟩ := open_32 Try.underlying53 cellsKey e5
    rw [cellsKey] at e4
    exact ⟨z, ⟨hz, hz'⟩, a, e1, e2, e4⟩
  subst hl
  refine ⟨A, l.length, c, l, rfl, h1, h2, KeysIn.of_at rfl fun i x hx => ⟨(hp i x hx).1.1, (hp i x hx).2⟩, fun k hk => ?_, by omega⟩
  obtain ⟨i, hi, rfl⟩ := List.getElem_of_mem hk
  exact (hp i _ (List.getElem?_eq_getElem hi)).1

theorem open_ins {fuel : Nat} {v : Value} {x : DataW H × List MemPlace} (h : DataW.trod enc Try.prog w base (fun _ => true) held fuel 27 [v] = some x) (hw : Wt 27 x.1) :
    ∃ A n c l, v = .slice A n c ∧ n ≤ c ∧ c ≤ maxLen ∧ InsIn w w.heap.size A n l ∧ (∀ i ∈ l, (IsByte i.p ∧ AllBytes i.acc ∧ AllBytes i.dat) ∧ i.acc.length ≤ 140737488355328 ∧ i.dat.length ≤ 140737488355328) ∧ l.length ≤ 140737488355328 := by
  obtain ⟨A, n, c, hcs, h1, h2, h3, h4⟩ := open_sl Try.underlying27 (by rw [cellsIn]; omega) h hw
  obtain rfl : v = .slice A n c := by simpa using hcs
  rw [bytesIn] at h3
  have := reach47
  obtain ⟨l, hl, hp⟩ := list_of (α := LIn) (p := fun i z => ((IsByte z.p ∧ AllBytes z.acc ∧ AllBytes z.dat) ∧ z.acc.length ≤ 140737488355328 ∧ z.dat.length ≤ 140737488355328) ∧
      ∃ a va vd, A = some a ∧ a.block < w.heap.size ∧ w.cell? (a.add (i * 3)) = some (.int .u8 z.p) ∧ w.cell? (a.add (i * 3 + 1)) = some va ∧ w.cell? (a.add (i * 3 + 2)) = some vd ∧ BytesIn w w.heap.size va z.acc ∧ BytesIn w w.heap.size vd z.dat) n fun i hi => by
    obtain ⟨a, cs', y, m, e1, e2, e3, e4, e5, e6⟩ := h4 i hi
    obtain ⟨y0, y1, y2, k, rfl, hl, t0, t1, t2⟩ := Go.Deep.trod_struct3 Try.underlying52 e5
    rw [cellsIn] at e3 e4
    obtain ⟨c0, c1, c2, rfl⟩ : ∃ c0 c1 c2, cs' = [c0, c1, c2] := three_of e3
    obtain ⟨w1, w2⟩ := wt_in e6
    have t0' : DataW.trod enc Try.prog w base (fun _ => true) held k 5 [c0] = some y0 := by simpa [cellsU8] using t0
    have t1' : DataW.trod enc Try.prog w base (fun _ => true) held k 34 [c1] = some y1 := by simpa [cellsBs] using t1
    have t2' : DataW.trod enc Try.prog w base (fun _ => true) held k 34 [c2] = some y2 := by simpa [cellsBs] using t2
    obtain ⟨z, hz, _, hz'⟩ := DataW.trod_int Try.underlying5 t0'
    obtain rfl : c0 = .int .u8 z := by simpa using hz
    obtain ⟨la, a1, a2, a3⟩ := open_bytes t1' w1
    obtain ⟨ld, d1, d2, d3⟩ := open_bytes t2' w2
    exact ⟨⟨z, la, ld⟩, ⟨⟨byte_wf hz', a2, d2⟩, a3, d3⟩, a, c1, c2, e1, e2, e4 0 _ rfl, e4 1 _ rfl, e4 2 _ rfl, a1, d1⟩
  subst hl
  refine ⟨A, l.length, c, l, rfl, h1, h2, ⟨rfl, fun i x hx => (hp i x hx).2⟩, fun k hk => ?_, by omega⟩
  obtain ⟨i, hi, rfl⟩ := List.getElem_of_mem hk
  exact (hp i _ (List.getElem?_eq_getElem hi)).1

theorem open_looks {fuel : Nat} {v : Value} {x : DataW H × List MemPlace} (h : DataW.trod enc Try.prog w base (fun _ => true) held fuel 28 [v] = some x) (hw : Wt 28 x.1) :
    ∃ A n c l, v = .slice A n c ∧ n ≤ c ∧ c ≤ maxLen ∧ LooksIn w w.heap.size A n l ∧ (∀ i ∈ l, ((i.tab.length = 32 ∧ AllBytes i.tab) ∧ AllBytes i.wr ∧ AllBytes i.rd) ∧ i.wr.length ≤ 140737488355328 ∧ i.rd.length ≤ 140737488355328) ∧ l.length ≤ 140737488355328 := by
  obtain ⟨A, n, c, hcs, h1, h2, h3, h4⟩ := open_sl Try.underlying28 (by rw [cellsLook]; omega) h hw
  obtain rfl : v = .slice A n c := by simpa using hcs
  rw [bytesLook] at h3
  have := reach47
  obtain ⟨l, hl, hp⟩ := list_of (α := LLook) (p := fun i z => (((z.tab.length = 32 ∧ AllBytes z.tab) ∧ AllBytes z.wr ∧ AllBytes z.rd) ∧ z.wr.length ≤ 140737488355328 ∧ z.rd.length ≤ 140737488355328) ∧
      ∃ a va vd, A = some a ∧ a.block < w.heap.size ∧ (∀ j u, (bv z.tab ++ [va, vd])[j]? = some u → w.cell? (a.add (i * 34 + j)) = some u) ∧ z.tab.length = 32 ∧ BytesIn w w.heap.size va z.wr ∧ BytesIn w w.heap.size vd z.rd) n fun i hi => by
    obtain ⟨a, cs', y, m, e1, e2, e3, e4, e5, e6⟩ := h4 i hi
    obtain ⟨y0, y1, y2, k, rfl, hl, t0, t1, t2⟩ := Go.Deep.trod_struct3 Try.underlying55 e5
    rw [cellsLook] at e3 e4
    obtain ⟨w1, w2⟩ := wt_look e6
    have t0' : DataW.trod enc Try.prog w base (fun _ => true) held k 53 (cs'.take 32) = some y0 := by simpa [cellsKey] using t0
    obtain ⟨z, hz, hz1, hz2⟩ := open_32 Try.underlying53 cellsKey t0'
    obtain ⟨c1, c2, hc12⟩ : ∃ c1 c2, cs'.drop 32 = [c1, c2] := two_of (by rw [List.length_drop, e3])
    obtain rfl : cs' = bv z ++ [c1, c2] := by rw [← hz, ← hc12, List.take_append_drop]
    have t1' : DataW.trod enc Try.prog w base (fun _ => true) held k 34 [c1] = some y1 := by
      have := t1
      simp only [cellsBs] at this
      rw [hc12] at this
      exact this
    have t2' : DataW.trod enc Try.prog w base (fun _ => true) held k 34 [c2] = some y2 := by
      have := t2
      simp only [cellsBs] at this
      rw [show (33 : Nat) = 32 + 1 from rfl, ← List.drop_drop, hc12] at this
      exact this
    obtain ⟨la, a1, a2, a3⟩ := open_bytes t1' w1
    obtain ⟨ld, d1, d2, d3⟩ := open_bytes t2' w2
    exact ⟨⟨z, la, ld⟩, ⟨⟨⟨hz1, hz2⟩, a2, d2⟩, a3, d3⟩, a, c1, c2, e1, e2, e4, hz1, a1, d1⟩
  subst hl
  refine ⟨A, l.length, c, l, rfl, h1, h2, ⟨rfl, fun i x hx => (hp i x hx).2⟩, fun k hk => ?_, by omega⟩
  obtain ⟨i, hi, rfl⟩ := List.getElem_of_mem hk
  exact (hp i _ (List.getElem?_eq_getElem hi)).1
end
end Go.Proofs.Ytidggfbjmmjmfaa
