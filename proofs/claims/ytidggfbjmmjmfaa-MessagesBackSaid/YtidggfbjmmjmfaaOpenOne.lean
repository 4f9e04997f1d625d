/-
  A message that came in, by value.
-/
import Derived.Test.YtidggfbjmmjmfaaOpenAll
namespace Go.Proofs.Ytidggfbjmmjmfaa
open Go.ChangeShapes Go.WideShapes Go.RowKit
set_option linter.unusedVariables false

theorem six_of {α : Type} {xs : List α} (h : xs.length = 6) : ∃ a b c d e f, xs = [a, b, c, d, e, f] := by
  match xs, h with
  | [a, b, c, d, e, f], _ => exact ⟨a, b, c, d, e, f, rfl⟩
theorem one_of {cs : List Value} (h : cs.length = 1) : ∃ a, cs = [a] := by
  match cs, h with
  | [a], _ => exact ⟨a, rfl⟩
theorem cellsBool : Try.prog.cellsOf 4 = 1 := by kernel_rfl
theorem cellsHead : Try.prog.cellsOf 23 = 3 := by kernel_rfl
theorem cellsKeys : Try.prog.cellsOf 24 = 1 := by kernel_rfl
theorem cellsIns : Try.prog.cellsOf 27 = 1 := by kernel_rfl
theorem cellsLooks : Try.prog.cellsOf 28 = 1 := by kernel_rfl
theorem cellsMsg : Try.prog.cellsOf 30 = 39 := by kernel_rfl
theorem cut {α : Type} (cs : List α) (a k b : Nat) (h : a + k = b) : cs.drop a = (cs.drop a).take k ++ cs.drop b := by
  subst h
  rw [← List.drop_drop, List.take_append_drop]

section
variable {H : Type} {enc : TypeId × Value → H} {w : World} {base b0 : Nat} {held : Bool}
theorem open_msg {r : Reach} {v : Value} {d : DataW H} {p : List MemPlace} (hv : Value.okWide Try.prog w r b0 30 v) (h : DataW.Trod enc Try.prog w base (fun _ => true) held 30 v d p) (hw : Wt 30 d) :
    ∃ q m, v = .agg (Raw.cells q m).toArray ∧ MsgIn w w.heap.size q m ∧ m.Wf ∧ Sized m := by
  simp only [Value.okWide, Try.underlying30] at hv
  obtain ⟨arr, rfl, h2, _⟩ := hv
  obtain ⟨fuel, hf⟩ := h
  obtain ⟨xs, n, _, hx, hl, hlen, ht⟩ := DataW.trod_struct Try.underlying30 hf
  obtain ⟨cs, hcs⟩ : ∃ cs, cs = arr.toList := ⟨_, rfl⟩
  have hce : (Value.agg arr).cells.toList = cs := by rw [hcs]; rfl
  rw [hce] at hl ht
  rw [cellsMsg] at hl
  obtain ⟨y0, y1, y2, y3, y4, y5, rfl⟩ := six_of hlen
  obtain rfl : d = .agg [y0.1, y1.1, y2.1, y3.1, y4.1, y5.1] := by simpa using congrArg Prod.fst hx
  obtain ⟨w2, w4, w5⟩ := wt_msg hw
  have t0 : DataW.trod enc Try.prog w base (fun _ => true) held n 4 ((cs.drop 0).take 1) = some y0 := by rw [← cellsBool]; exact ht 0 _ rfl
  have t1 : DataW.trod enc Try.prog w base (fun _ => true) held n 23 ((cs.drop 1).take 3) = some y1 := by rw [← cellsHead]; exact ht 1 _ rfl
  have t2 : DataW.trod enc Try.prog w base (fun _ => true) held n 24 ((cs.drop 4).take 1) = some y2 := by rw [← cellsKeys]; exact ht 2 _ rfl
  have t3 : DataW.trod enc Try.prog w base (fun _ => true) held n 26 ((cs.drop 5).take 32) = some y3 := by rw [← cellsHash]; exact ht 3 _ rfl
  have t4 : DataW.trod enc Try.prog w base (fun _ => true) held n 27 ((cs.drop 37).take 1) = some y4 := by rw [← cellsIns]; exact ht 4 _ rfl
  have t5 : DataW.trod enc Try.prog w base (fun _ => true) held n 28 ((cs.drop 38).take 1) = some y5 := by rw [← cellsLooks]; exact ht 5 _ rfl
  have hsplit : cs = (cs.drop 0).take 1 ++ ((cs.drop 1).take 3 ++ ((cs.drop 4).take 1 ++ ((cs.drop 5).take 32 ++ ((cs.drop 37).take 1 ++ (cs.drop 38).take 1)))) := by
    have e5 : cs.drop 38 = (cs.drop 38).take 1 := (List.take_of_length_le (by rw [List.length_drop]; omega)).symm
    rw [← e5, ← cut cs 37 1 38 rfl, ← cut cs 5 32 37 rfl, ← cut cs 4 1 5 rfl, ← cut cs 1 3 4 rfl, ← cut cs 0 1 1 rfl]
    rfl
  obtain ⟨b, hb, _⟩ := DataW.trod_bool Try.underlying4 t0
  obtain ⟨z0, z1, z2, k, _, _, s0, s1, s2⟩ := Go.Deep.trod_struct3 Try.underlying23 t1
  obtain ⟨c0, c1, c2, hc⟩ := three_of (cs := (cs.drop 1).take 3) (by simp; omega)
  rw [hc] at s0 s1 s2
  have s0' : DataW.trod enc Try.prog w base (fun _ => true) held k 5 [c0] = some z0 := by simpa [cellsU8] using s0
  have s1' : DataW.trod enc Try.prog w base (fun _ => true) held k 5 [c1] = some z1 := by simpa [cellsU8] using s1
  have s2' : DataW.trod enc Try.prog w base (fun _ => true) held k 5 [c2] = some z2 := by simpa [cellsU8] using s2
  obtain ⟨i0, hi0, _, wi0⟩ := DataW.trod_int Try.underlying5 s0'
  obtain ⟨i1, hi1, _, wi1⟩ := DataW.trod_int Try.underlying5 s1'
  obtain ⟨i2, hi2, _, wi2⟩ := DataW.trod_int Try.underlying5 s2'
  obtain ⟨v2, hv2⟩ := one_of (cs := (cs.drop 4).take 1) (by simp; omega)
  obtain ⟨v4, hv4⟩ := one_of (cs := (cs.drop 37).take 1) (by simp; omega)
  obtain ⟨v5, hv5⟩ := one_of (cs := (cs.drop 38).take 1) (by simp; omega)
  rw [hv2] at t2
  rw [hv4] at t4
  rw [hv5] at t5
  obtain ⟨KA, kn, kc, ks, rfl, k1, k2, k3, k4, k5⟩ := open_keys t2 w2
  obtain ⟨hh, hh1, hh2, hh3⟩ := open_32 Try.underlying26 cellsHash t3
  obtain ⟨IA, ni, ic, is, rfl, n1, n2, n3, n4, n5⟩ := open_ins t4 w4
  obtain ⟨LA, ln, lc, ls, rfl, l1, l2, l3, l4, l5⟩ := open_looks t5 w5
  obtain rfl : c0 = .int .u8 i0 := by simpa using hi0
  obtain rfl : c1 = .int .u8 i1 := by simpa using hi1
  obtain rfl : c2 = .int .u8 i2 := by simpa using hi2
  refine ⟨⟨KA, kn, kc, IA, ni, ic, LA, ln, lc⟩, ⟨b, i0, i1, i2, ks, hh, is, ls⟩, ?_, ⟨hh2, k3, n3, l3, ⟨k1, k2⟩, ⟨n1, n2⟩, ⟨l1, l2⟩⟩,
    ⟨byte_wf wi0, byte_wf wi1, byte_wf wi2, k4, ⟨hh2, hh3⟩, fun i hi => (n4 i hi).1, fun l hl => (l4 l hl).1⟩, ⟨k5, n5, l5, fun i hi => (n4 i hi).2, fun l hl => (l4 l hl).2⟩⟩
  have : cs = Raw.cells ⟨KA, kn, kc, IA, ni, ic, LA, ln, lc⟩ ⟨b, i0, i1, i2, ks, hh, is, ls⟩ := by
    rw [hsplit, hb, hc, hv2, hh1, hv4, hv5]
    rfl
  rw [← this, hcs]
end
end Go.Proofs.Ytidggfbjmmjmfaa
