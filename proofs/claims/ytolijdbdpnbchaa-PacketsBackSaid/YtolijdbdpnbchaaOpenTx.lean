/-
  A transaction that comes in, by value.
-/
import Derived.Test.YtolijdbdpnbchaaOpenMsg
import Derived.Test.YtolijdbdpnbchaaTx
namespace Go.Proofs.Ytolijdbdpnbchaa
open Go.ChangeShapes Go.WideShapes Go.RowKit
set_option linter.unusedVariables false

theorem SigsIn.of_at {w : World} {B : Nat} {A : Option Addr} {n : Nat} {l : List (List Int)} (hn : l.length = n) (h : ∀ (i : Nat) x, l[i]? = some x → x.length = 64 ∧ ∃ a, A = some a ∧ a.block < B ∧ ∀ j u, (bv x)[j]? = some u → w.cell? (a.add (i * 64 + j)) = some u) : SigsIn w B A n l := by
  have he : ∀ k ∈ l, k.length = 64 := fun k hk => by
    obtain ⟨i, hi, rfl⟩ := List.getElem_of_mem hk
    exact (h i _ (List.getElem?_eq_getElem hi)).1
  have hf : l.flatten.length = n * 64 := by
    rw [← hn]
    clear hn h
    induction l with
    | nil => rfl
    | cons y r ih =>
      have h1 := ih (fun k hk => he k (by simp [hk]))
      have h2 := he y (by simp)
      simp only [List.flatten_cons, List.length_append, List.length_cons, h1, h2]
      omega
  refine ⟨hn, he, ⟨by rw [bv_length]; exact hf, fun i u hu => ?_⟩⟩
  have hi := (List.getElem?_eq_some_iff.1 hu).1
  rw [bv_length, hf] at hi
  have hk : i / 64 < l.length := by omega
  obtain ⟨h1, a, rfl, h2, h3⟩ := h (i / 64) _ (List.getElem?_eq_getElem hk)
  refine ⟨_, rfl, h2, ?_⟩
  have hlt : i % 64 < (bv l[i / 64]).length := by rw [bv_length, h1]; omega
  obtain ⟨u', hu'⟩ : ∃ u', (bv l[i / 64])[i % 64]? = some u' := ⟨_, List.getElem?_eq_getElem hlt⟩
  have h4 := h3 _ _ hu'
  rw [show i / 64 * 64 + i % 64 = i by omega] at h4
  rw [h4]
  rw [bv_getElem?] at hu hu'
  obtain ⟨z', hz', rfl⟩ : ∃ z, (l[i / 64])[i % 64]? = some z ∧ u' = .int .u8 z := by
    cases hq : (l[i / 64])[i % 64]? with
    | none => rw [hq] at hu'; simp at hu'
    | some z => rw [hq] at hu'; exact ⟨z, rfl, by simpa using hu'.symm⟩
  have h5 := flatten_at 64 l (i / 64) _ (fun i y hy => he y (List.mem_of_getElem? hy)) (List.getElem?_eq_getElem hk) (i % 64) z' hz'
  rw [show i / 64 * 64 + i % 64 = i by omega] at h5
  rw [h5] at hu
  exact hu

section
variable {H : Type} {enc : TypeId × Value → H} {w : World} {base b0 : Nat} {held : Bool}
theorem cellsSig : Try.prog.cellsOf 62 = 64 := by kernel_rfl
theorem bytesSig : Try.prog.bytesOf 62 = 64 := by kernel_rfl
theorem cellsSigs : Try.prog.cellsOf 22 = 1 := by kernel_rfl
theorem cellsTx : Try.prog.cellsOf 33 = 40 := by kernel_rfl
theorem open_64 {t : TypeId} {fuel : Nat} {cs : List Value} {x : DataW H × List MemPlace} (ht : Try.prog.underlying t = some (.array 64 5)) (hc : Try.prog.cellsOf t = 64) (h : DataW.trod enc Try.prog w base (fun _ => true) held fuel t cs = some x) :
    ∃ l : List Int, cs = bv l ∧ l.length = 64 ∧ AllBytes l := by
  obtain ⟨xs, m, _, _, hl, hxs, hat⟩ := DataW.trod_array ht h
  obtain ⟨l, hll, hp⟩ := list_of (α := Int) (p := fun i z => IsByte z ∧ cs[i]? = some (.int .u8 z)) 64 fun i hi => by
    have h1 := hat i hi
    have hx : xs[i]? = some xs[i] := List.getElem?_eq_getElem (by omega)
    rw [cellsU8, hx] at h1
    obtain ⟨z, hz, _, hwz⟩ := DataW.trod_int Try.underlying5 h1
    refine ⟨z, byte_wf hwz, ?_⟩
    have := congrArg List.head? hz
    simpa [List.head?_take] using this
  rw [hc] at hl
  refine ⟨l, List.ext_getElem? fun i => ?_, hll, fun z hz => ?_⟩
  · by_cases hi : i < 64
    · have e := List.getElem?_eq_getElem (l := l) (i := i) (by omega)
      rw [bv_getElem?, e, (hp i _ e).2]
      rfl
    · rw [List.getElem?_eq_none (by omega), List.getElem?_eq_none (by rw [bv_length]; omega)]
  · obtain ⟨i, hi, rfl⟩ := List.getElem_of_mem hz
    exact (hp i _ (List.getElem?_eq_getElem hi)).1
theorem open_sigs {fuel : Nat} {v : Value} {x : DataW H × List MemPlace} (h : DataW.trod enc Try.prog w base (fun _ => true) held fuel 22 [v] = some x) (hw : Wt 22 x.1) :
    ∃ A n c l, v = .slice A n c ∧ n ≤ c ∧ c ≤ maxLen ∧ SigsIn w w.heap.size A n l ∧ (∀ k ∈ l, k.length = 64 ∧ AllBytes k) ∧ l.length ≤ 140737488355328 := by
  obtain ⟨A, n, c, hcs, h1, h2, h3, h4⟩ := open_sl Try.underlying22 (by rw [cellsSig]; omega) h hw
  obtain rfl : v = .slice A n c := by simpa using hcs
  rw [bytesSig] at h3
  have := reach47
  obtain ⟨l, hl, hp⟩ := list_of (α := List Int) (p := fun i z => (z.length = 64 ∧ AllBytes z) ∧ ∃ a, A = some a ∧ a.block < w.heap.size ∧ ∀ j u, (bv z)[j]? = some u → w.cell? (a.add (i * 64 + j)) = some u) n fun i hi => by
    obtain ⟨a, cs', y, m, e1, e2, e3, e4, e5, _⟩ := h4 i hi
    obtain ⟨z, rfl, hz, hz'⟩ := open_64 Try.underlying62 cellsSig e5
    rw [cellsSig] at e4
    exact ⟨z, ⟨hz, hz'⟩, a, e1, e2, e4⟩
  subst hl
  refine ⟨A, l.length, c, l, rfl, h1, h2, SigsIn.of_at rfl fun i x hx => ⟨(hp i x hx).1.1, (hp i x hx).2⟩, fun k hk => ?_, by omega⟩
  obtain ⟨i, hi, rfl⟩ := List.getElem_of_mem hk
  exact (hp i _ (List.getElem?_eq_getElem hi)).1
theorem wt_tx {y0 y1 : DataW H} (h : Wt 33 (.agg [y0, y1])) : Wt 22 y0 ∧ Wt 31 y1 := by
  refine ⟨fun n hn => h n ?_, fun n hn => h n ?_⟩ <;> simp only [DataW.weights, Try.underlying33] <;> simp [DataW.weightsEach, hn]
theorem open_tx_cells {fuel : Nat} {cs : List Value} {x : DataW H × List MemPlace} (hf : DataW.trod enc Try.prog w base (fun _ => true) held fuel 33 cs = some x) (hw : Wt 33 x.1) :
    ∃ s t, cs = TRaw.cells s t ∧ TxIn w w.heap.size s t ∧ t.Wf ∧ Sized t.m ∧ t.sigs.length ≤ 140737488355328 := by
  obtain ⟨xs, n, _, hx, hl, hlen, ht⟩ := DataW.trod_struct Try.underlying33 hf
  rw [cellsTx] at hl
  obtain ⟨y0, y1, rfl⟩ : ∃ a b, xs = [a, b] := by
    match xs, hlen with
    | [a, b], _ => exact ⟨a, b, rfl⟩
  have hx1 : x.1 = .agg [y0.1, y1.1] := by simpa using congrArg Prod.fst hx
  rw [hx1] at hw
  obtain ⟨w0, w1⟩ := wt_tx hw
  have t0 : DataW.trod enc Try.prog w base (fun _ => true) held n 22 ((cs.drop 0).take 1) = some y0 := by rw [← cellsSigs]; exact ht 0 _ rfl
  have t1 : DataW.trod enc Try.prog w base (fun _ => true) held n 31 ((cs.drop 1).take 39) = some y1 := by rw [← cellsMsg]; exact ht 1 _ rfl
  have hsplit : cs = (cs.drop 0).take 1 ++ (cs.drop 1).take 39 := by
    have e5 : cs.drop 1 = (cs.drop 1).take 39 := (List.take_of_length_le (by rw [List.length_drop]; omega)).symm
    rw [← e5, ← cut cs 0 1 1 rfl]
    rfl
  obtain ⟨v0, hv0⟩ := one_of (cs := (cs.drop 0).take 1) (by simp; omega)
  rw [hv0] at t0
  obtain ⟨SA, sn, sc, ss, rfl, k1, k2, k3, k4, k5⟩ := open_sigs t0 w0
  obtain ⟨q, m, e1, e2, e3, e4⟩ := open_msg_cells t1 w1
  refine ⟨⟨SA, sn, sc, q⟩, ⟨ss, m⟩, ?_, ⟨k3, ⟨k1, k2⟩, e2⟩, ⟨k4, e3⟩, e4, k5⟩
  rw [hsplit, hv0, e1]
  rfl
set_option maxRecDepth 100000 in
theorem open_tx {r : Reach} {v : Value} {d : DataW H} {p : List MemPlace} (hv : Value.okWide Try.prog w r b0 33 v) (h : DataW.Trod enc Try.prog w base (fun _ => true) held 33 v d p) (hw : Wt 33 d) :
    ∃ s t, v = .agg (TRaw.cells s t).toArray ∧ TxIn w w.heap.size s t ∧ t.Wf ∧ Sized t.m ∧ t.sigs.length ≤ 140737488355328 := by
  simp only [Value.okWide, Try.underlying33] at hv
  obtain ⟨arr, rfl, h2, _⟩ := hv
  obtain ⟨fuel, hf⟩ := h
  obtain ⟨s, t, h3, h4⟩ := open_tx_cells hf hw
  refine ⟨s, t, ?_, h4⟩
  have : arr.toList = TRaw.cells s t := h3
  rw [← this]
end
end Go.Proofs.Ytolijdbdpnbchaa
