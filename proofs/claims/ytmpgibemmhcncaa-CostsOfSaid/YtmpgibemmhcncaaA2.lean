/-
  Parts joined: OpenMsg OpenTx Rules Role TwinMsg Example AppendN Cost9 Iter9 Of9 Lives4 GetN HoldWalk MoreWalk OtherMem Lives6 Elems Known Lives7 With8 Lives9 RefWide SumsWalk.
-/
import Derived.Below
import Derived.Laws.OwnMore
import Derived.Deep.AppendLies
import Derived.Deep.Draws
import Derived.Lib.Hide
import Derived.Laws.BitsAllLaws
import Derived.WalkKit
import Derived.Test.YtmpgibemmhcncaaRows
import Derived.WalkSpells
import Derived.WalkLawsBesides
import Derived.IntWalk
import Derived.Lib.Mul64
import Derived.Laws.Bits64b
import Derived.Laws.Externs
import Derived.Lib.BitFns
import Derived.Shelf.Small.Bits
import Derived.Deep.QuietTactic
import Derived.Laws.MakeOwn
import Derived.Laws.CopyOwn
import Derived.Laws.Rows
import Derived.Laws.NewBlocks
import Derived.Maps.AppendAt
import Derived.OwnWalk
import Derived.Deep.MidRow
import Derived.Deep.WholeRow
import Derived.Great.BuildSlice
import Derived.Recover
import Derived.Deep.RegionHeld
import Derived.BigQuiet
import Derived.Deep.RegionHeld2
import Derived.Deep.CutBlock
import Derived.Laws.Tables
import Derived.ChangeKeysEq
import Derived.ProofKit
import Derived.OpenShut
import Derived.ShutString
import Derived.ChangeOld
import Derived.Lib.SmallJoins
import Derived.Laws.Slices
import Derived.Deep.Slices
import Derived.Deep.Strs
import Derived.SizedLaws
import Derived.Laws.StructEq
import Derived.Deep.DeepCutAuto
import Derived.Laws.EntriesVeiled
import Derived.Deep.RegionHeld3
import Derived.Maps.OwnSet
import Derived.DeepKeys4
import Derived.WideKeyArr
import Derived.RangeFuncNested
import Derived.RangeFuncBound
import Derived.RangeFuncCalls
import Derived.RangeFuncLeaves
import Derived.Shelf.Abstract
import Derived.Shelf.RegionOpen
import Derived.OwnWalkIn
import Derived.TacticsInMore
import Derived.LoopNIn
import Derived.LoopIn
import Derived.Laws.Append
import Derived.Laws.AppendOwn
import Derived.WideKeyEntry
import Derived.Shelf.SlMaps.Clone
import Derived.LaidMore
import Derived.Deep.RegionWith
import Derived.Test.YtmpgibemmhcncaaA1
/-
  Of part OpenMsg: what is needed here.
-/
namespace Go.Proofs.Ytmpgibemmhcncaa
open Go.RowKit
set_option linter.unusedVariables false
open Go.ChangeShapes Go.WideShapes Go.RowKit
theorem list_of {α : Type} {p : Nat → α → Prop} : ∀ (n : Nat), (∀ i, i < n → ∃ x, p i x) → ∃ l : List α, l.length = n ∧ ∀ i x, l[i]? = some x → p i x
  | 0, _ => ⟨[], rfl, fun i x h => by simp at h⟩
  | n + 1, h => by
    obtain ⟨l, hl, hp⟩ := list_of n fun i hi => h i (by omega)
    obtain ⟨x, hx⟩ := h n (Nat.lt_succ_self _)
    refine ⟨l ++ [x], by simp [hl], fun i y hy => ?_⟩
    by_cases hi : i < n
    · rw [List.getElem?_append_left (by omega)] at hy
      exact hp i y hy
    · rw [List.getElem?_append_right (by omega)] at hy
      have h1 := (List.getElem?_eq_some_iff.1 hy).1
      simp at h1
      have : i = n := by omega
      subst this
      rw [show i - l.length = 0 by omega] at hy
      simp at hy
      exact hy ▸ hx
theorem KeysIn.of_at {w : World} {B : Nat} {A : Option Addr} {n : Nat} {l : List (List Int)} (hn : l.length = n) (h : ∀ (i : Nat) x, l[i]? = some x → x.length = 32 ∧ ∃ a, A = some a ∧ a.block < B ∧ ∀ j u, (bv x)[j]? = some u → w.cell? (a.add (i * 32 + j)) = some u) : KeysIn w B A n l := by
  have he : ∀ k ∈ l, k.length = 32 := fun k hk => by
    obtain ⟨i, hi, rfl⟩ := List.getElem_of_mem hk
    exact (h i _ (List.getElem?_eq_getElem hi)).1
  have hf : l.flatten.length = n * 32 := by
    rw [← hn]
    clear hn h
    induction l with
    | nil => rfl
    | cons y r ih =>
      have h1 := ih (fun k hk => he k (by simp [hk]))
      have h2 := he y (by simp)
      simp only [List.flatten_cons, List.length_append, List.length_cons, h1, h2]
      omega
  refine ⟨hn, he, ⟨by rw [bv_length]; exact hf, fun i u hu => ?_⟩⟩
  have hi := (List.getElem?_eq_some_iff.1 hu).1
  rw [bv_length, hf] at hi
  have hk : i / 32 < l.length := by omega
  obtain ⟨h1, a, rfl, h2, h3⟩ := h (i / 32) _ (List.getElem?_eq_getElem hk)
  refine ⟨_, rfl, h2, ?_⟩
  have hlt : i % 32 < (bv l[i / 32]).length := by rw [bv_length, h1]; omega
  obtain ⟨u', hu'⟩ : ∃ u', (bv l[i / 32])[i % 32]? = some u' := ⟨_, List.getElem?_eq_getElem hlt⟩
  have h4 := h3 _ _ hu'
  rw [show i / 32 * 32 + i % 32 = i by omega] at h4
  rw [h4]
  rw [bv_getElem?] at hu hu'
  obtain ⟨z', hz', rfl⟩ : ∃ z, (l[i / 32])[i % 32]? = some z ∧ u' = .int .u8 z := by
    cases hq : (l[i / 32])[i % 32]? with
    | none => rw [hq] at hu'; simp at hu'
    | some z => rw [hq] at hu'; exact ⟨z, rfl, by simpa using hu'.symm⟩
  have h5 := flatten_at 32 l (i / 32) _ (fun i y hy => he y (List.mem_of_getElem? hy)) (List.getElem?_eq_getElem hk) (i % 32) z' hz'
  rw [show i / 32 * 32 + i % 32 = i by omega] at h5
  rw [h5] at hu
  exact hu
theorem byte_wf {z : Int} (h : (Lit.int .u8 z).wf = true) : IsByte z := by
  have := bounds_u8 h
  unfold IsByte
  omega
section
variable {H : Type} {enc : TypeId × Value → H}
/-- no list in it is longer than the form's reach -/
def Wt (t : TypeId) (d : DataW H) : Prop := ∀ n ∈ d.weights Try.prog t, n ≤ reachBytes
theorem wt_all {e : TypeId} : ∀ {l : List (DataW H)}, (∀ n ∈ DataW.weightsAll Try.prog e l, n ≤ reachBytes) → ∀ d ∈ l, Wt e d
  | [], _, d, hd => by simp at hd
  | y :: r, h, d, hd => by
    rcases List.mem_cons.1 hd with rfl | hd
    · exact fun n hn => h n (by simp [DataW.weightsAll, hn])
    · exact wt_all (l := r) (fun n hn => h n (by simp [DataW.weightsAll, hn])) d hd
variable {w : World} {base : Nat} {held : Bool}
theorem open_sl {t e : TypeId} {fuel : Nat} {cs : List Value} {x : DataW H × List MemPlace} (ht : Try.prog.underlying t = some (.slice e)) (hc : 0 < Try.prog.cellsOf e)
    (h : DataW.trod enc Try.prog w base (fun _ => true) held fuel t cs = some x) (hw : Wt t x.1) :
    ∃ A n c, cs = [.slice A n c] ∧ n ≤ c ∧ c ≤ maxLen ∧ n * Try.prog.bytesOf e ≤ reachBytes ∧ ∀ i, i < n → ∃ a cs' y m, A = some a ∧ a.block < w.heap.size ∧ cs'.length = Try.prog.cellsOf e ∧
      (∀ j u, cs'[j]? = some u → w.cell? (a.add (i * Try.prog.cellsOf e + j)) = some u) ∧ DataW.trod enc Try.prog w base (fun _ => true) held m e cs' = some y ∧ Wt e y.1 := by
  rcases Go.Deep.open_slice ht h with ⟨rfl, rfl⟩ | ⟨a, len, cap, m, n, D, Pl, rfl, hb, hl, hm, hmm, rfl, hx⟩
  · exact ⟨none, 0, 0, rfl, Nat.le_refl _, Nat.zero_le _, by simp, fun i hi => by omega⟩
  · have hm' : m = cap := by simpa using hmm
    have h1 : ((len + (m - len)) * Try.prog.bytesOf e) ≤ reachBytes := by
      refine hw _ ?_
      simp [DataW.weights, ht]
    have h2 : ∀ d ∈ (List.range len).map D, Wt e d := wt_all fun n hn => hw n (by simp only [DataW.weights, ht]; simp [hn])
    refine ⟨some a, len, cap, rfl, hl, hm, Nat.le_trans (Nat.mul_le_mul_right _ (by omega)) h1, fun i hi => ?_⟩
    obtain ⟨cs', hcs, htr⟩ := hx i (by omega)
    have hbl := World.cells?_block hcs hc
    obtain ⟨_, hlen, hat⟩ := World.cells?_some hcs
    refine ⟨a, cs', _, n, rfl, by rwa [addr_block] at hbl, hlen, fun j u hu => ?_, htr, h2 _ (by simp; exact ⟨i, hi, rfl⟩)⟩
    have := hat j (by have := (List.getElem?_eq_some_iff.1 hu).1; omega)
    rw [addr_add] at this
    rw [this, hu]
theorem cellsU8 : Try.prog.cellsOf 5 = 1 := by kernel_rfl
theorem bytesU8 : Try.prog.bytesOf 5 = 1 := by kernel_rfl
theorem cellsKey : Try.prog.cellsOf 47 = 32 := by kernel_rfl
theorem bytesKey : Try.prog.bytesOf 47 = 32 := by kernel_rfl
theorem cellsHash : Try.prog.cellsOf 27 = 32 := by kernel_rfl
theorem cellsIn : Try.prog.cellsOf 44 = 3 := by kernel_rfl
theorem bytesIn : Try.prog.bytesOf 44 = 56 := by kernel_rfl
theorem cellsLook : Try.prog.cellsOf 49 = 34 := by kernel_rfl
theorem bytesLook : Try.prog.bytesOf 49 = 80 := by kernel_rfl
theorem cellsBs : Try.prog.cellsOf 42 = 1 := by kernel_rfl
theorem reach47 : reachBytes ≤ 140737488355328 := by decide
theorem open_bytes {fuel : Nat} {v : Value} {x : DataW H × List MemPlace} (h : DataW.trod enc Try.prog w base (fun _ => true) held fuel 42 [v] = some x) (hw : Wt 42 x.1) :
    ∃ l, BytesIn w w.heap.size v l ∧ AllBytes l ∧ l.length ≤ 140737488355328 := by
  obtain ⟨A, n, c, hcs, h1, h2, h3, h4⟩ := open_sl Try.underlying42 (by rw [cellsU8]; omega) h hw
  obtain rfl : v = .slice A n c := by simpa using hcs
  rw [bytesU8] at h3
  have := reach47
  obtain ⟨l, hl, hp⟩ := list_of (α := Int) (p := fun i z => IsByte z ∧ ∃ a, A = some a ∧ a.block < w.heap.size ∧ w.cell? (a.add i) = some (.int .u8 z)) n fun i hi => by
    obtain ⟨a, cs', y, m, e1, e2, e3, e4, e5, _⟩ := h4 i hi
    obtain ⟨z, rfl, _, hz⟩ := DataW.trod_int Try.underlying5 e5
    have := e4 0 _ rfl
    rw [cellsU8, Nat.mul_one, Nat.add_zero] at this
    exact ⟨z, byte_wf hz, a, e1, e2, this⟩
  subst hl
  refine ⟨l, ⟨A, c, rfl, ⟨bv_length _, fun i u hu => ?_⟩, h1, h2⟩, fun z hz => ?_, by omega⟩
  · rw [bv_getElem?] at hu
    cases hq : l[i]? with
    | none => rw [hq] at hu; simp at hu
    | some z =>
      rw [hq] at hu
      obtain ⟨_, a, e1, e2, e3⟩ := hp i z hq
      obtain rfl : Value.int .u8 z = u := by simpa using hu
      exact ⟨a, e1, e2, e3⟩
  · obtain ⟨i, hi, rfl⟩ := List.getElem_of_mem hz
    exact (hp i _ (List.getElem?_eq_getElem hi)).1
theorem open_32 {t : TypeId} {fuel : Nat} {cs : List Value} {x : DataW H × List MemPlace} (ht : Try.prog.underlying t = some (.array 32 5)) (hc : Try.prog.cellsOf t = 32) (h : DataW.trod enc Try.prog w base (fun _ => true) held fuel t cs = some x) :
    ∃ l : List Int, cs = bv l ∧ l.length = 32 ∧ AllBytes l := by
  obtain ⟨xs, m, _, _, hl, hxs, hat⟩ := DataW.trod_array ht h
  obtain ⟨l, hll, hp⟩ := list_of (α := Int) (p := fun i z => IsByte z ∧ cs[i]? = some (.int .u8 z)) 32 fun i hi => by
    have h1 := hat i hi
    have hx : xs[i]? = some xs[i] := List.getElem?_eq_getElem (by omega)
    rw [cellsU8, hx] at h1
    obtain ⟨z, hz, _, hwz⟩ := DataW.trod_int Try.underlying5 h1
    refine ⟨z, byte_wf hwz, ?_⟩
    have := congrArg List.head? hz
    simpa [List.head?_take] using this
  rw [hc] at hl
  refine ⟨l, List.ext_getElem? fun i => ?_, hll, fun z hz => ?_⟩
  · by_cases hi : i < 32
    · have e := List.getElem?_eq_getElem (l := l) (i := i) (by omega)
      rw [bv_getElem?, e, (hp i _ e).2]
      rfl
    · rw [List.getElem?_eq_none (by omega), List.getElem?_eq_none (by rw [bv_length]; omega)]
  · obtain ⟨i, hi, rfl⟩ := List.getElem_of_mem hz
    exact (hp i _ (List.getElem?_eq_getElem hi)).1
end
open Go.ChangeShapes Go.WideShapes Go.RowKit
theorem three_of {cs : List Value} (h : cs.length = 3) : ∃ a b c, cs = [a, b, c] := by
  match cs, h with
  | [a, b, c], _ => exact ⟨a, b, c, rfl⟩
theorem two_of {cs : List Value} (h : cs.length = 2) : ∃ a b, cs = [a, b] := by
  match cs, h with
  | [a, b], _ => exact ⟨a, b, rfl⟩
section
variable {H : Type} {enc : TypeId × Value → H} {w : World} {base : Nat} {held : Bool}
theorem wt_in {y0 y1 y2 : DataW H} (h : Wt 44 (.agg [y0, y1, y2])) : Wt 42 y1 ∧ Wt 42 y2 := by
  refine ⟨fun n hn => h n ?_, fun n hn => h n ?_⟩ <;> simp only [DataW.weights, Try.underlying44] <;> simp [DataW.weightsEach, hn]
theorem wt_look {y0 y1 y2 : DataW H} (h : Wt 49 (.agg [y0, y1, y2])) : Wt 42 y1 ∧ Wt 42 y2 := by
  refine ⟨fun n hn => h n ?_, fun n hn => h n ?_⟩ <;> simp only [DataW.weights, Try.underlying49] <;> simp [DataW.weightsEach, hn]
theorem wt_msg {y0 y1 y2 y3 y4 y5 : DataW H} (h : Wt 31 (.agg [y0, y1, y2, y3, y4, y5])) : Wt 25 y2 ∧ Wt 28 y4 ∧ Wt 29 y5 := by
  refine ⟨fun n hn => h n ?_, fun n hn => h n ?_, fun n hn => h n ?_⟩ <;> simp only [DataW.weights, Try.underlying31] <;> simp [DataW.weightsEach, hn]
theorem open_keys {fuel : Nat} {v : Value} {x : DataW H × List MemPlace} (h : DataW.trod enc Try.prog w base (fun _ => true) held fuel 25 [v] = some x) (hw : Wt 25 x.1) :
    ∃ A n c l, v = .slice A n c ∧ n ≤ c ∧ c ≤ maxLen ∧ KeysIn w w.heap.size A n l ∧ (∀ k ∈ l, k.length = 32 ∧ AllBytes k) ∧ l.length ≤ 140737488355328 := by
  obtain ⟨A, n, c, hcs, h1, h2, h3, h4⟩ := open_sl Try.underlying25 (by rw [cellsKey]; omega) h hw
  obtain rfl : v = .slice A n c := by simpa using hcs
  rw [bytesKey] at h3
  have := reach47
  obtain ⟨l, hl, hp⟩ := list_of (α := List Int) (p := fun i z => (z.length = 32 ∧ AllBytes z) ∧ ∃ a, A = some a ∧ a.block < w.heap.size ∧ ∀ j u, (bv z)[j]? = some u → w.cell? (a.add (i * 32 + j)) = some u) n fun i hi => by
    obtain ⟨a, cs', y, m, e1, e2, e3, e4, e5, _⟩ := h4 i hi
    obtain ⟨z, rfl, hz, hz'⟩ := open_32 Try.underlying47 cellsKey e5
    rw [cellsKey] at e4
    exact ⟨z, ⟨hz, hz'⟩, a, e1, e2, e4⟩
  subst hl
  refine ⟨A, l.length, c, l, rfl, h1, h2, KeysIn.of_at rfl fun i x hx => ⟨(hp i x hx).1.1, (hp i x hx).2⟩, fun k hk => ?_, by omega⟩
  obtain ⟨i, hi, rfl⟩ := List.getElem_of_mem hk
  exact (hp i _ (List.getElem?_eq_getElem hi)).1
theorem open_ins {fuel : Nat} {v : Value} {x : DataW H × List MemPlace} (h : DataW.trod enc Try.prog w base (fun _ => true) held fuel 28 [v] = some x) (hw : Wt 28 x.1) :
    ∃ A n c l, v = .slice A n c ∧ n ≤ c ∧ c ≤ maxLen ∧ InsIn w w.heap.size A n l ∧ (∀ i ∈ l, (IsByte i.p ∧ AllBytes i.acc ∧ AllBytes i.dat) ∧ i.acc.length ≤ 140737488355328 ∧ i.dat.length ≤ 140737488355328) ∧ l.length ≤ 140737488355328 := by
  obtain ⟨A, n, c, hcs, h1, h2, h3, h4⟩ := open_sl Try.underlying28 (by rw [cellsIn]; omega) h hw
  obtain rfl : v = .slice A n c := by simpa using hcs
  rw [bytesIn] at h3
  have := reach47
  obtain ⟨l, hl, hp⟩ := list_of (α := LIn) (p := fun i z => ((IsByte z.p ∧ AllBytes z.acc ∧ AllBytes z.dat) ∧ z.acc.length ≤ 140737488355328 ∧ z.dat.length ≤ 140737488355328) ∧
      ∃ a va vd, A = some a ∧ a.block < w.heap.size ∧ w.cell? (a.add (i * 3)) = some (.int .u8 z.p) ∧ w.cell? (a.add (i * 3 + 1)) = some va ∧ w.cell? (a.add (i * 3 + 2)) = some vd ∧ BytesIn w w.heap.size va z.acc ∧ BytesIn w w.heap.size vd z.dat) n fun i hi => by
    obtain ⟨a, cs', y, m, e1, e2, e3, e4, e5, e6⟩ := h4 i hi
    obtain ⟨y0, y1, y2, k, rfl, hl, t0, t1, t2⟩ := Go.Deep.trod_struct3 Try.underlying44 e5
    rw [cellsIn] at e3 e4
    obtain ⟨c0, c1, c2, rfl⟩ : ∃ c0 c1 c2, cs' = [c0, c1, c2] := three_of e3
    obtain ⟨w1, w2⟩ := wt_in e6
    have t0' : DataW.trod enc Try.prog w base (fun _ => true) held k 5 [c0] = some y0 := by simpa [cellsU8] using t0
    have t1' : DataW.trod enc Try.prog w base (fun _ => true) held k 42 [c1] = some y1 := by simpa [cellsBs] using t1
    have t2' : DataW.trod enc Try.prog w base (fun _ => true) held k 42 [c2] = some y2 := by simpa [cellsBs] using t2
    obtain ⟨z, hz, _, hz'⟩ := DataW.trod_int Try.underlying5 t0'
    obtain rfl : c0 = .int .u8 z := by simpa using hz
    obtain ⟨la, a1, a2, a3⟩ := open_bytes t1' w1
    obtain ⟨ld, d1, d2, d3⟩ := open_bytes t2' w2
    exact ⟨⟨z, la, ld⟩, ⟨⟨byte_wf hz', a2, d2⟩, a3, d3⟩, a, c1, c2, e1, e2, e4 0 _ rfl, e4 1 _ rfl, e4 2 _ rfl, a1, d1⟩
  subst hl
  refine ⟨A, l.length, c, l, rfl, h1, h2, ⟨rfl, fun i x hx => (hp i x hx).2⟩, fun k hk => ?_, by omega⟩
  obtain ⟨i, hi, rfl⟩ := List.getElem_of_mem hk
  exact (hp i _ (List.getElem?_eq_getElem hi)).1
theorem open_looks {fuel : Nat} {v : Value} {x : DataW H × List MemPlace} (h : DataW.trod enc Try.prog w base (fun _ => true) held fuel 29 [v] = some x) (hw : Wt 29 x.1) :
    ∃ A n c l, v = .slice A n c ∧ n ≤ c ∧ c ≤ maxLen ∧ LooksIn w w.heap.size A n l ∧ (∀ i ∈ l, ((i.tab.length = 32 ∧ AllBytes i.tab) ∧ AllBytes i.wr ∧ AllBytes i.rd) ∧ i.wr.length ≤ 140737488355328 ∧ i.rd.length ≤ 140737488355328) ∧ l.length ≤ 140737488355328 := by
  obtain ⟨A, n, c, hcs, h1, h2, h3, h4⟩ := open_sl Try.underlying29 (by rw [cellsLook]; omega) h hw
  obtain rfl : v = .slice A n c := by simpa using hcs
  rw [bytesLook] at h3
  have := reach47
  obtain ⟨l, hl, hp⟩ := list_of (α := LLook) (p := fun i z => (((z.tab.length = 32 ∧ AllBytes z.tab) ∧ AllBytes z.wr ∧ AllBytes z.rd) ∧ z.wr.length ≤ 140737488355328 ∧ z.rd.length ≤ 140737488355328) ∧
      ∃ a va vd, A = some a ∧ a.block < w.heap.size ∧ (∀ j u, (bv z.tab ++ [va, vd])[j]? = some u → w.cell? (a.add (i * 34 + j)) = some u) ∧ z.tab.length = 32 ∧ BytesIn w w.heap.size va z.wr ∧ BytesIn w w.heap.size vd z.rd) n fun i hi => by
    obtain ⟨a, cs', y, m, e1, e2, e3, e4, e5, e6⟩ := h4 i hi
    obtain ⟨y0, y1, y2, k, rfl, hl, t0, t1, t2⟩ := Go.Deep.trod_struct3 Try.underlying49 e5
    rw [cellsLook] at e3 e4
    obtain ⟨w1, w2⟩ := wt_look e6
    have t0' : DataW.trod enc Try.prog w base (fun _ => true) held k 47 (cs'.take 32) = some y0 := by simpa [cellsKey] using t0
    obtain ⟨z, hz, hz1, hz2⟩ := open_32 Try.underlying47 cellsKey t0'
    obtain ⟨c1, c2, hc12⟩ : ∃ c1 c2, cs'.drop 32 = [c1, c2] := two_of (by rw [List.length_drop, e3])
    obtain rfl : cs' = bv z ++ [c1, c2] := by rw [← hz, ← hc12, List.take_append_drop]
    have t1' : DataW.trod enc Try.prog w base (fun _ => true) held k 42 [c1] = some y1 := by
      have := t1
      simp only [cellsBs] at this
      rw [hc12] at this
      exact this
    have t2' : DataW.trod enc Try.prog w base (fun _ => true) held k 42 [c2] = some y2 := by
      have := t2
      simp only [cellsBs] at this
      rw [show (33 : Nat) = 32 + 1 from rfl, ← List.drop_drop, hc12] at this
      exact this
    obtain ⟨la, a1, a2, a3⟩ := open_bytes t1' w1
    obtain ⟨ld, d1, d2, d3⟩ := open_bytes t2' w2
    exact ⟨⟨z, la, ld⟩, ⟨⟨⟨hz1, hz2⟩, a2, d2⟩, a3, d3⟩, a, c1, c2, e1, e2, e4, hz1, a1, d1⟩
  subst hl
  refine ⟨A, l.length, c, l, rfl, h1, h2, ⟨rfl, fun i x hx => (hp i x hx).2⟩, fun k hk => ?_, by omega⟩
  obtain ⟨i, hi, rfl⟩ := List.getElem_of_mem hk
  exact (hp i _ (List.getElem?_eq_getElem hi)).1
end
open Go.ChangeShapes Go.WideShapes Go.RowKit
theorem six_of {α : Type} {xs : List α} (h : xs.length = 6) : ∃ a b c d e f, xs = [a, b, c, d, e, f] := by
  match xs, h with
  | [a, b, c, d, e, f], _ => exact ⟨a, b, c, d, e, f, rfl⟩
theorem one_of {cs : List Value} (h : cs.length = 1) : ∃ a, cs = [a] := by
  match cs, h with
  | [a], _ => exact ⟨a, rfl⟩
theorem cellsBool : Try.prog.cellsOf 4 = 1 := by kernel_rfl
theorem cellsHead : Try.prog.cellsOf 24 = 3 := by kernel_rfl
theorem cellsKeys : Try.prog.cellsOf 25 = 1 := by kernel_rfl
theorem cellsIns : Try.prog.cellsOf 28 = 1 := by kernel_rfl
theorem cellsLooks : Try.prog.cellsOf 29 = 1 := by kernel_rfl
theorem cellsMsg : Try.prog.cellsOf 31 = 39 := by kernel_rfl
theorem cut {α : Type} (cs : List α) (a k b : Nat) (h : a + k = b) : cs.drop a = (cs.drop a).take k ++ cs.drop b := by
  subst h
  rw [← List.drop_drop, List.take_append_drop]
section
variable {H : Type} {enc : TypeId × Value → H} {w : World} {base b0 : Nat} {held : Bool}
theorem open_msg_cells {fuel : Nat} {cs : List Value} {x : DataW H × List MemPlace} (hf : DataW.trod enc Try.prog w base (fun _ => true) held fuel 31 cs = some x) (hw : Wt 31 x.1) :
    ∃ q m, cs = Raw.cells q m ∧ MsgIn w w.heap.size q m ∧ m.Wf ∧ Sized m := by
  obtain ⟨xs, n, _, hx, hl, hlen, ht⟩ := DataW.trod_struct Try.underlying31 hf
  rw [cellsMsg] at hl
  obtain ⟨y0, y1, y2, y3, y4, y5, rfl⟩ := six_of hlen
  have hx1 : x.1 = .agg [y0.1, y1.1, y2.1, y3.1, y4.1, y5.1] := by simpa using congrArg Prod.fst hx
  rw [hx1] at hw
  obtain ⟨w2, w4, w5⟩ := wt_msg hw
  have t0 : DataW.trod enc Try.prog w base (fun _ => true) held n 4 ((cs.drop 0).take 1) = some y0 := by rw [← cellsBool]; exact ht 0 _ rfl
  have t1 : DataW.trod enc Try.prog w base (fun _ => true) held n 24 ((cs.drop 1).take 3) = some y1 := by rw [← cellsHead]; exact ht 1 _ rfl
  have t2 : DataW.trod enc Try.prog w base (fun _ => true) held n 25 ((cs.drop 4).take 1) = some y2 := by rw [← cellsKeys]; exact ht 2 _ rfl
  have t3 : DataW.trod enc Try.prog w base (fun _ => true) held n 27 ((cs.drop 5).take 32) = some y3 := by rw [← cellsHash]; exact ht 3 _ rfl
  have t4 : DataW.trod enc Try.prog w base (fun _ => true) held n 28 ((cs.drop 37).take 1) = some y4 := by rw [← cellsIns]; exact ht 4 _ rfl
  have t5 : DataW.trod enc Try.prog w base (fun _ => true) held n 29 ((cs.drop 38).take 1) = some y5 := by rw [← cellsLooks]; exact ht 5 _ rfl
  have hsplit : cs = (cs.drop 0).take 1 ++ ((cs.drop 1).take 3 ++ ((cs.drop 4).take 1 ++ ((cs.drop 5).take 32 ++ ((cs.drop 37).take 1 ++ (cs.drop 38).take 1)))) := by
    have e5 : cs.drop 38 = (cs.drop 38).take 1 := (List.take_of_length_le (by rw [List.length_drop]; omega)).symm
    rw [← e5, ← cut cs 37 1 38 rfl, ← cut cs 5 32 37 rfl, ← cut cs 4 1 5 rfl, ← cut cs 1 3 4 rfl, ← cut cs 0 1 1 rfl]
    rfl
  obtain ⟨b, hb, _⟩ := DataW.trod_bool Try.underlying4 t0
  obtain ⟨z0, z1, z2, k, _, _, s0, s1, s2⟩ := Go.Deep.trod_struct3 Try.underlying24 t1
  obtain ⟨c0, c1, c2, hc⟩ := three_of (cs := (cs.drop 1).take 3) (by simp; omega)
  rw [hc] at s0 s1 s2
  have s0' : DataW.trod enc Try.prog w base (fun _ => true) held k 5 [c0] = some z0 := by simpa [cellsU8] using s0
  have s1' : DataW.trod enc Try.prog w base (fun _ => true) held k 5 [c1] = some z1 := by simpa [cellsU8] using s1
  have s2' : DataW.trod enc Try.prog w base (fun _ => true) held k 5 [c2] = some z2 := by simpa [cellsU8] using s2
  obtain ⟨i0, hi0, _, wi0⟩ := DataW.trod_int Try.underlying5 s0'
  obtain ⟨i1, hi1, _, wi1⟩ := DataW.trod_int Try.underlying5 s1'
  obtain ⟨i2, hi2, _, wi2⟩ := DataW.trod_int Try.underlying5 s2'
  obtain ⟨v2, hv2⟩ := one_of (cs := (cs.drop 4).take 1) (by simp; omega)
  obtain ⟨v4, hv4⟩ := one_of (cs := (cs.drop 37).take 1) (by simp; omega)
  obtain ⟨v5, hv5⟩ := one_of (cs := (cs.drop 38).take 1) (by simp; omega)
  rw [hv2] at t2
  rw [hv4] at t4
  rw [hv5] at t5
  obtain ⟨KA, kn, kc, ks, rfl, k1, k2, k3, k4, k5⟩ := open_keys t2 w2
  obtain ⟨hh, hh1, hh2, hh3⟩ := open_32 Try.underlying27 cellsHash t3
  obtain ⟨IA, ni, ic, is, rfl, n1, n2, n3, n4, n5⟩ := open_ins t4 w4
  obtain ⟨LA, ln, lc, ls, rfl, l1, l2, l3, l4, l5⟩ := open_looks t5 w5
  obtain rfl : c0 = .int .u8 i0 := by simpa using hi0
  obtain rfl : c1 = .int .u8 i1 := by simpa using hi1
  obtain rfl : c2 = .int .u8 i2 := by simpa using hi2
  refine ⟨⟨KA, kn, kc, IA, ni, ic, LA, ln, lc⟩, ⟨b, i0, i1, i2, ks, hh, is, ls⟩, ?_, ⟨hh2, k3, n3, l3, ⟨k1, k2⟩, ⟨n1, n2⟩, ⟨l1, l2⟩⟩,
    ⟨byte_wf wi0, byte_wf wi1, byte_wf wi2, k4, ⟨hh2, hh3⟩, fun i hi => (n4 i hi).1, fun l hl => (l4 l hl).1⟩, ⟨k5, n5, l5, fun i hi => (n4 i hi).2, fun l hl => (l4 l hl).2⟩⟩
  rw [hsplit, hb, hc, hv2, hh1, hv4, hv5]
  rfl
set_option maxRecDepth 100000 in
theorem open_msg {r : Reach} {v : Value} {d : DataW H} {p : List MemPlace} (hv : Value.okWide Try.prog w r b0 31 v) (h : DataW.Trod enc Try.prog w base (fun _ => true) held 31 v d p) (hw : Wt 31 d) :
    ∃ q m, v = .agg (Raw.cells q m).toArray ∧ MsgIn w w.heap.size q m ∧ m.Wf ∧ Sized m := by
  simp only [Value.okWide, Try.underlying31] at hv
  obtain ⟨arr, rfl, h2, _⟩ := hv
  obtain ⟨fuel, hf⟩ := h
  obtain ⟨q, m, h3, h4⟩ := open_msg_cells hf hw
  refine ⟨q, m, ?_, h4⟩
  have : arr.toList = Raw.cells q m := h3
  rw [← this]
end
end Go.Proofs.Ytmpgibemmhcncaa

/-
  Of part OpenTx: what is needed here.
-/
namespace Go.Proofs.Ytmpgibemmhcncaa
open Go.ChangeShapes Go.WideShapes Go.RowKit
set_option linter.unusedVariables false
theorem SigsIn.of_at {w : World} {B : Nat} {A : Option Addr} {n : Nat} {l : List (List Int)} (hn : l.length = n) (h : ∀ (i : Nat) x, l[i]? = some x → x.length = 64 ∧ ∃ a, A = some a ∧ a.block < B ∧ ∀ j u, (bv x)[j]? = some u → w.cell? (a.add (i * 64 + j)) = some u) : SigsIn w B A n l := by
  have he : ∀ k ∈ l, k.length = 64 := fun k hk => by
    obtain ⟨i, hi, rfl⟩ := List.getElem_of_mem hk
    exact (h i _ (List.getElem?_eq_getElem hi)).1
  have hf : l.flatten.length = n * 64 := by
    rw [← hn]
    clear hn h
    induction l with
    | nil => rfl
    | cons y r ih =>
      have h1 := ih (fun k hk => he k (by simp [hk]))
      have h2 := he y (by simp)
      simp only [List.flatten_cons, List.length_append, List.length_cons, h1, h2]
      omega
  refine ⟨hn, he, ⟨by rw [bv_length]; exact hf, fun i u hu => ?_⟩⟩
  have hi := (List.getElem?_eq_some_iff.1 hu).1
  rw [bv_length, hf] at hi
  have hk : i / 64 < l.length := by omega
  obtain ⟨h1, a, rfl, h2, h3⟩ := h (i / 64) _ (List.getElem?_eq_getElem hk)
  refine ⟨_, rfl, h2, ?_⟩
  have hlt : i % 64 < (bv l[i / 64]).length := by rw [bv_length, h1]; omega
  obtain ⟨u', hu'⟩ : ∃ u', (bv l[i / 64])[i % 64]? = some u' := ⟨_, List.getElem?_eq_getElem hlt⟩
  have h4 := h3 _ _ hu'
  rw [show i / 64 * 64 + i % 64 = i by omega] at h4
  rw [h4]
  rw [bv_getElem?] at hu hu'
  obtain ⟨z', hz', rfl⟩ : ∃ z, (l[i / 64])[i % 64]? = some z ∧ u' = .int .u8 z := by
    cases hq : (l[i / 64])[i % 64]? with
    | none => rw [hq] at hu'; simp at hu'
    | some z => rw [hq] at hu'; exact ⟨z, rfl, by simpa using hu'.symm⟩
  have h5 := flatten_at 64 l (i / 64) _ (fun i y hy => he y (List.mem_of_getElem? hy)) (List.getElem?_eq_getElem hk) (i % 64) z' hz'
  rw [show i / 64 * 64 + i % 64 = i by omega] at h5
  rw [h5] at hu
  exact hu
section
variable {H : Type} {enc : TypeId × Value → H} {w : World} {base b0 : Nat} {held : Bool}
theorem cellsSig : Try.prog.cellsOf 41 = 64 := by kernel_rfl
theorem bytesSig : Try.prog.bytesOf 41 = 64 := by kernel_rfl
theorem cellsSigs : Try.prog.cellsOf 22 = 1 := by kernel_rfl
theorem cellsTx : Try.prog.cellsOf 33 = 40 := by kernel_rfl
theorem open_64 {t : TypeId} {fuel : Nat} {cs : List Value} {x : DataW H × List MemPlace} (ht : Try.prog.underlying t = some (.array 64 5)) (hc : Try.prog.cellsOf t = 64) (h : DataW.trod enc Try.prog w base (fun _ => true) held fuel t cs = some x) :
    ∃ l : List Int, cs = bv l ∧ l.length = 64 ∧ AllBytes l := by
  obtain ⟨xs, m, _, _, hl, hxs, hat⟩ := DataW.trod_array ht h
  obtain ⟨l, hll, hp⟩ := list_of (α := Int) (p := fun i z => IsByte z ∧ cs[i]? = some (.int .u8 z)) 64 fun i hi => by
    have h1 := hat i hi
    have hx : xs[i]? = some xs[i] := List.getElem?_eq_getElem (by omega)
    rw [cellsU8, hx] at h1
    obtain ⟨z, hz, _, hwz⟩ := DataW.trod_int Try.underlying5 h1
    refine ⟨z, byte_wf hwz, ?_⟩
    have := congrArg List.head? hz
    simpa [List.head?_take] using this
  rw [hc] at hl
  refine ⟨l, List.ext_getElem? fun i => ?_, hll, fun z hz => ?_⟩
  · by_cases hi : i < 64
    · have e := List.getElem?_eq_getElem (l := l) (i := i) (by omega)
      rw [bv_getElem?, e, (hp i _ e).2]
      rfl
    · rw [List.getElem?_eq_none (by omega), List.getElem?_eq_none (by rw [bv_length]; omega)]
  · obtain ⟨i, hi, rfl⟩ := List.getElem_of_mem hz
    exact (hp i _ (List.getElem?_eq_getElem hi)).1
theorem open_sigs {fuel : Nat} {v : Value} {x : DataW H × List MemPlace} (h : DataW.trod enc Try.prog w base (fun _ => true) held fuel 22 [v] = some x) (hw : Wt 22 x.1) :
    ∃ A n c l, v = .slice A n c ∧ n ≤ c ∧ c ≤ maxLen ∧ SigsIn w w.heap.size A n l ∧ (∀ k ∈ l, k.length = 64 ∧ AllBytes k) ∧ l.length ≤ 140737488355328 := by
  obtain ⟨A, n, c, hcs, h1, h2, h3, h4⟩ := open_sl Try.underlying22 (by rw [cellsSig]; omega) h hw
  obtain rfl : v = .slice A n c := by simpa using hcs
  rw [bytesSig] at h3
  have := reach47
  obtain ⟨l, hl, hp⟩ := list_of (α := List Int) (p := fun i z => (z.length = 64 ∧ AllBytes z) ∧ ∃ a, A = some a ∧ a.block < w.heap.size ∧ ∀ j u, (bv z)[j]? = some u → w.cell? (a.add (i * 64 + j)) = some u) n fun i hi => by
    obtain ⟨a, cs', y, m, e1, e2, e3, e4, e5, _⟩ := h4 i hi
    obtain ⟨z, rfl, hz, hz'⟩ := open_64 Try.underlying41 cellsSig e5
    rw [cellsSig] at e4
    exact ⟨z, ⟨hz, hz'⟩, a, e1, e2, e4⟩
  subst hl
  refine ⟨A, l.length, c, l, rfl, h1, h2, SigsIn.of_at rfl fun i x hx => ⟨(hp i x hx).1.1, (hp i x hx).2⟩, fun k hk => ?_, by omega⟩
  obtain ⟨i, hi, rfl⟩ := List.getElem_of_mem hk
  exact (hp i _ (List.getElem?_eq_getElem hi)).1
theorem wt_tx {y0 y1 : DataW H} (h : Wt 33 (.agg [y0, y1])) : Wt 22 y0 ∧ Wt 31 y1 := by
  refine ⟨fun n hn => h n ?_, fun n hn => h n ?_⟩ <;> simp only [DataW.weights, Try.underlying33] <;> simp [DataW.weightsEach, hn]
theorem open_tx_cells {fuel : Nat} {cs : List Value} {x : DataW H × List MemPlace} (hf : DataW.trod enc Try.prog w base (fun _ => true) held fuel 33 cs = some x) (hw : Wt 33 x.1) :
    ∃ s t, cs = TRaw.cells s t ∧ TxIn w w.heap.size s t ∧ t.Wf ∧ Sized t.m ∧ t.sigs.length ≤ 140737488355328 := by
  obtain ⟨xs, n, _, hx, hl, hlen, ht⟩ := DataW.trod_struct Try.underlying33 hf
  rw [cellsTx] at hl
  obtain ⟨y0, y1, rfl⟩ : ∃ a b, xs = [a, b] := by
    match xs, hlen with
    | [a, b], _ => exact ⟨a, b, rfl⟩
  have hx1 : x.1 = .agg [y0.1, y1.1] := by simpa using congrArg Prod.fst hx
  rw [hx1] at hw
  obtain ⟨w0, w1⟩ := wt_tx hw
  have t0 : DataW.trod enc Try.prog w base (fun _ => true) held n 22 ((cs.drop 0).take 1) = some y0 := by rw [← cellsSigs]; exact ht 0 _ rfl
  have t1 : DataW.trod enc Try.prog w base (fun _ => true) held n 31 ((cs.drop 1).take 39) = some y1 := by rw [← cellsMsg]; exact ht 1 _ rfl
  have hsplit : cs = (cs.drop 0).take 1 ++ (cs.drop 1).take 39 := by
    have e5 : cs.drop 1 = (cs.drop 1).take 39 := (List.take_of_length_le (by rw [List.length_drop]; omega)).symm
    rw [← e5, ← cut cs 0 1 1 rfl]
    rfl
  obtain ⟨v0, hv0⟩ := one_of (cs := (cs.drop 0).take 1) (by simp; omega)
  rw [hv0] at t0
  obtain ⟨SA, sn, sc, ss, rfl, k1, k2, k3, k4, k5⟩ := open_sigs t0 w0
  obtain ⟨q, m, e1, e2, e3, e4⟩ := open_msg_cells t1 w1
  refine ⟨⟨SA, sn, sc, q⟩, ⟨ss, m⟩, ?_, ⟨k3, ⟨k1, k2⟩, e2⟩, ⟨k4, e3⟩, e4, k5⟩
  rw [hsplit, hv0, e1]
  rfl
set_option maxRecDepth 100000 in
theorem open_tx {r : Reach} {v : Value} {d : DataW H} {p : List MemPlace} (hv : Value.okWide Try.prog w r b0 33 v) (h : DataW.Trod enc Try.prog w base (fun _ => true) held 33 v d p) (hw : Wt 33 d) :
    ∃ s t, v = .agg (TRaw.cells s t).toArray ∧ TxIn w w.heap.size s t ∧ t.Wf ∧ Sized t.m ∧ t.sigs.length ≤ 140737488355328 := by
  simp only [Value.okWide, Try.underlying33] at hv
  obtain ⟨arr, rfl, h2, _⟩ := hv
  obtain ⟨fuel, hf⟩ := h
  obtain ⟨s, t, h3, h4⟩ := open_tx_cells hf hw
  refine ⟨s, t, ?_, h4⟩
  have : arr.toList = TRaw.cells s t := h3
  rw [← this]
end
end Go.Proofs.Ytmpgibemmhcncaa

/-
  Of part Rules: what is needed here.
-/
namespace Go.Proofs.Ytmpgibemmhcncaa
open Go.RowKit
set_option linter.unusedVariables false
/-- a lookup's indices -/
def ixs (l : LLook) : Nat := l.wr.length + l.rd.length
/-- all keys -/
def tot (m : LMsg) : Nat := m.keys.length + lookSize m.looks
/-- an instruction that names a key that there is not -/
def astray (tt : Nat) (a : Int) : Bool := decide ((tt : Int) ≤ a)
def pstray (own : Nat) (p : Int) : Bool := decide (p = 0 ∨ (own : Int) ≤ p)
def stray (own tt : Nat) (i : LIn) : Bool := pstray own i.p || i.acc.any (astray tt)
def noix (l : LLook) : Bool := decide (ixs l = 0)
/-- the rules, broken -/
def b1 (x : LTx) : Bool := decide (x.m.s = 0 ∨ (x.sigs.length : Int) ≠ x.m.s)
def b2 (m : LMsg) : Bool := decide (m.s ≤ m.r ∨ (m.keys.length : Int) < m.s + m.o)
def b3 (m : LMsg) : Bool := m.looks.any noix
def b4 (m : LMsg) : Bool := decide (64 < tot m)
def b5 (m : LMsg) : Bool := m.ins.any (stray m.keys.length (tot m))
end Go.Proofs.Ytmpgibemmhcncaa

/-
  Of part Role: what is needed here.
-/
namespace Go.Proofs.Ytmpgibemmhcncaa
open Go.RowKit
set_option linter.unusedVariables false
/-- a role -/
structure LRole where
  key : List Int
  sg : Bool
  wr : Bool
def LRole.cells (r : LRole) : List Value := bv r.key ++ [.bool r.sg, .bool r.wr]
/-- the zero role -/
def r0 : LRole := ⟨List.replicate 32 0, false, false⟩
end Go.Proofs.Ytmpgibemmhcncaa

/-
  Of part TwinMsg: what is needed here.
-/
namespace Go.Proofs.Ytmpgibemmhcncaa
open Go.RowKit
set_option linter.unusedVariables false
/-- a load of many cells yields them -/
theorem exec_load_at {P : Program} {a : Act} {o : Oper} (w : World) (ty : TypeId) (x : Operand) (ho : o.op = .load ty x) (p : Addr) (cs : List Value) (d : TypeDesc) (hu : P.underlying ty = some d) (hd : d.isRow = true) (hi : (P.info? ty).map (·.size) = some cs.length)
    (hc : ∀ j v, cs[j]? = some v → w.cell? (p.add j) = some v) (hx : a.eval x = .pointer (some p)) : (execOp a.eval o).run P w = .ok (.value (.agg cs.toArray)) w := by
  unfold execOp
  simp only [ho, hx, Sem.run_bind, Sem.run_pure, run_loadAt_at w p ty cs d hc hu hd hi, Result.andThen_ok]
theorem LookAt.keep {w w' : World} {B k : Nat} {a : Addr} {x : LLook} {va vd : Value} (h : LookAt w B a k x va vd) (ha : a.block < B) (hk : ∀ p : Addr, p.block < B → w'.cell? p = w.cell? p) : LookAt w' B a k x va vd :=
  ⟨fun j u hu => (hk _ (by rw [addr_block, addr_block]; exact ha)).trans (h.cells j u hu), h.len, h.wr.keep hk, h.rd.keep hk⟩
end Go.Proofs.Ytmpgibemmhcncaa

/-
  Of part Example: what is needed here.
-/
namespace Go.Proofs.Ytmpgibemmhcncaa
open Go.RowKit
set_option linter.unusedVariables false
def xk (a : Int) : List Int := a :: List.replicate 31 0
end Go.Proofs.Ytmpgibemmhcncaa

/-
  Of part AppendN: what is needed here.
-/
namespace Go.Proofs.Ytmpgibemmhcncaa
open Go.RowKit
set_option linter.unusedVariables false
section
variable {P : Program} {w : World} {base : Nat} {t ty e : TypeId} {i : TypeInfo} {z : Value} {size bytes : Nat} {v : Value} {n m c B : Nat} {A : Option Addr} {xs news : List Value}
theorem run_append_nothingN (ht : P.underlying t = some (.slice e)) (hi : P.info? e = some i) (hown : w.ownsRow base e size v n xs) (c : Nat) :
    (Builtin.append_ #[t, t] ty #[v, .slice none 0 c]).run P w = .ok v w := by
  rcases hown.2 with ⟨rfl, rfl⟩ | ⟨g, cap, cur, rfl, _, _, hnc, _⟩ <;>
    simp [Builtin.append_, run_underlying ht, sizeOf, typeInfo, Builtin.lenOf, Builtin.firstCells, storeCells, *]
theorem wp_appendN {o : Oper} {a : Act} {K : Act → World → Prop} {Q : Exit → Act → World → Prop} (s x : Operand) (t e : TypeId) (z : Value) (size bytes : Nat)
    (ho : o.op = .call { callee := .builtin .append, args := #[s, x], argTypes := #[t, t] })
    (ht : P.underlying t = some (.slice e)) (hi : (P.info? e).map (fun i => (i.zero, i.size, i.bytes)) = some (some z, size, bytes)) (hzs : z.cells.size = size) (hs0 : 0 < size)
    (v : Value) (n : Nat) (xs : List Value) (base B : Nat) (A : Option Addr) (m c : Nat) (news : List Value)
    (hs : a.eval s = v) (hown : w.ownsRow base e size v n xs) (hx : a.eval x = .slice A m c) (hr : Sees w B A (m * size) news) (h1 : ∀ u ∈ news, u.oneCell' = true)
    (hnm : n + m ≤ maxLen) (hbytes : (n + m) * bytes ≤ 140737488355328) (hbase : base ≤ w.heap.size)
    (h : ∀ v' w', w'.ownsRow base e size v' (n + m) (xs ++ news) → Grew w w' v v' → K (a.put o.dst v') w') : o.wp P a w K Q := by
  obtain ⟨i0, hi, hz0, hz1, hz2⟩ := info_parts hi
  have hrun : ∃ v' w', (Builtin.append_ #[t, t] o.type #[v, .slice A m c]).run P w = .ok v' w' ∧ w'.ownsRow base e size v' (n + m) (xs ++ news) ∧ Grew w w' v v' := by
    cases A with
    | none =>
      have hn : news = [] := by
        cases news with
        | nil => rfl
        | cons u r =>
          obtain ⟨a, h, _⟩ := hr.cell 0 u rfl
          cases h
      subst hn
      have hl : m * size = 0 := by simpa using hr.len.symm
      obtain rfl : m = 0 := by
        rcases Nat.mul_eq_zero.1 hl with h | h
        · exact h
        · omega
      exact ⟨v, w, run_append_nothingN ht hi hown c, by simpa using hown, Grew.refl _ _⟩
    | some ad =>
      obtain ⟨v', w', hrun, h2, h3, _, h5⟩ := run_append_own_at (P := P) w base t o.type e i0 z size bytes ht hi hz0 hz1 hz2 hzs hs0 v n xs hown ad m c news hr.len
        (fun j u hu => by
          obtain ⟨a, h, _, hc⟩ := hr.cell j u hu
          cases h
          exact hc) h1 hnm hbytes hbase
      refine ⟨v', w', hrun, h2, ⟨h3, fun k hk => ?_⟩⟩
      rcases h5 with h5 | h5
      · exact .inl (h5 ▸ hk)
      · rw [h5] at hk
        cases hk
        exact .inr (Nat.le_refl _)
  obtain ⟨v', w', hr2, h2, h3⟩ := hrun
  unfold Oper.wp execOp
  simp only [ho, resolve, invoke, builtin, Sem.run_bind, Sem.run_pure, Result.andThen_ok, List.map_toArray, List.map_cons, List.map_nil, hs, hx, hr2]
  exact h v' w' h2 h3
theorem wpList_appendN {ops : Array Oper} {rest : List Oper} {o : Oper} {a : Act} {Q : Exit → Act → World → Prop} (hgd : o.guard = none) (s x : Operand) (t e : TypeId) (z : Value) (size bytes : Nat)
    (ho : o.op = .call { callee := .builtin .append, args := #[s, x], argTypes := #[t, t] })
    (ht : P.underlying t = some (.slice e)) (hi : (P.info? e).map (fun i => (i.zero, i.size, i.bytes)) = some (some z, size, bytes)) (hzs : z.cells.size = size) (hs0 : 0 < size)
    (v : Value) (n : Nat) (xs : List Value) (base B : Nat) (A : Option Addr) (m c : Nat) (news : List Value)
    (hs : a.eval s = v) (hown : w.ownsRow base e size v n xs) (hx : a.eval x = .slice A m c) (hr : Sees w B A (m * size) news) (h1 : ∀ u ∈ news, u.oneCell' = true)
    (hnm : n + m ≤ maxLen) (hbytes : (n + m) * bytes ≤ 140737488355328) (hbase : base ≤ w.heap.size)
    (h : ∀ v' w', w'.ownsRow base e size v' (n + m) (xs ++ news) → Grew w w' v v' → wpList P ops Q rest (a.put o.dst v') w') : wpList P ops Q (o :: rest) a w :=
  wpList_plain hgd fun _ hK => wp_appendN s x t e z size bytes ho ht hi hzs hs0 v n xs base B A m c news hs hown hx hr h1 hnm hbytes hbase fun v' w' h2 h3 => hK _ _ (h v' w' h2 h3)
end
theorem own_nilN (w : World) (base : Nat) (e : TypeId) (size : Nat) : w.ownsRow base e size (.slice none 0 0) 0 [] := World.ownsRow_nil w base e size
theorem own_form2 {w : World} {base : Nat} {e : TypeId} {size n : Nat} {v : Value} {xs : List Value} (h : w.ownsRow base e size v n xs) : ∃ A c, v = .slice A n c ∧ Sees w w.heap.size A (n * size) xs ∧ n ≤ c ∧ c ≤ maxLen ∧ (∀ g, v.ownBlock = some g → base ≤ g ∧ g < w.heap.size) := by
  have hlt := h.lt
  rcases h.2 with ⟨rfl, rfl⟩ | ⟨g, cap, cur, rfl, hg, hh, h1, h2, h3, h4⟩
  · have hx : xs = [] := List.eq_nil_of_length_eq_zero (by simpa using h.1)
    subst hx
    exact ⟨none, 0, rfl, by rw [Nat.zero_mul]; exact Sees.nil _ _ _, Nat.le_refl _, by simp [maxLen], hlt⟩
  · refine ⟨_, cap, rfl, ⟨h.1, fun j u hu => ⟨_, rfl, (Array.getElem?_eq_some_iff.1 hh).1, h.cells (g := g) rfl j u hu⟩⟩, h1, h2, hlt⟩
/-- a list of instructions as cells -/
structure InsCells (w : World) (B : Nat) (l : List LIn) (news : List Value) : Prop where
  len : news.length = l.length * 3
  at_ : ∀ i x, l[i]? = some x → ∃ va vd, news[i * 3]? = some (.int .u8 x.p) ∧ news[i * 3 + 1]? = some va ∧ news[i * 3 + 2]? = some vd ∧ BytesIn w B va x.acc ∧ BytesIn w B vd x.dat
  one : ∀ u ∈ news, u.oneCell' = true
theorem BytesIn.one {w : World} {B : Nat} {v : Value} {l : List Int} (h : BytesIn w B v l) : v.oneCell' = true := by
  obtain ⟨A, c, rfl, _⟩ := h.is
  rfl
theorem InsIn.cells {w : World} {B n : Nat} {A : Option Addr} {l : List LIn} (h : InsIn w B A n l) : ∃ news, InsCells w B l news ∧ Sees w B A (n * 3) news := by
  obtain ⟨ps, hps, hp⟩ : ∃ ps : List (Value × Value), ps.length = l.length ∧ ∀ i x p, l[i]? = some x → ps[i]? = some p → ∃ a, A = some a ∧ a.block < B ∧ w.cell? (a.add (i * 3)) = some (.int .u8 x.p) ∧ w.cell? (a.add (i * 3 + 1)) = some p.1 ∧ w.cell? (a.add (i * 3 + 2)) = some p.2 ∧ BytesIn w B p.1 x.acc ∧ BytesIn w B p.2 x.dat := by
    obtain ⟨ps, h1, h2⟩ := list_of (α := Value × Value) (p := fun i p => ∀ x, l[i]? = some x → ∃ a, A = some a ∧ a.block < B ∧ w.cell? (a.add (i * 3)) = some (.int .u8 x.p) ∧ w.cell? (a.add (i * 3 + 1)) = some p.1 ∧ w.cell? (a.add (i * 3 + 2)) = some p.2 ∧ BytesIn w B p.1 x.acc ∧ BytesIn w B p.2 x.dat) l.length fun i hi => by
      obtain ⟨a, va, vd, e1, e2, e3, e4, e5, e6, e7⟩ := h.at_ i _ (List.getElem?_eq_getElem hi)
      refine ⟨(va, vd), fun x hx => ?_⟩
      rw [List.getElem?_eq_getElem hi] at hx
      obtain rfl := Option.some.inj hx
      exact ⟨a, e1, e2, e3, e4, e5, e6, e7⟩
    exact ⟨ps, h1, fun i x p hx hp => h2 i p hp x hx⟩
  let f : Nat → Value := fun j => if j % 3 = 0 then .int .u8 ((l.getD (j / 3) ⟨0, [], []⟩).p) else if j % 3 = 1 then (ps.getD (j / 3) (undef, undef)).1 else (ps.getD (j / 3) (undef, undef)).2
  have hf : ∀ i x, l[i]? = some x → ∃ p, ps[i]? = some p ∧ f (i * 3) = .int .u8 x.p ∧ f (i * 3 + 1) = p.1 ∧ f (i * 3 + 2) = p.2 := by
    intro i x hx
    have hi := (List.getElem?_eq_some_iff.1 hx).1
    obtain ⟨p, hpi⟩ : ∃ p, ps[i]? = some p := ⟨_, List.getElem?_eq_getElem (by omega)⟩
    have hl : l.getD i ⟨0, [], []⟩ = x := by rw [List.getD_eq_getElem?_getD, hx]; rfl
    have hq : ps.getD i (undef, undef) = p := by rw [List.getD_eq_getElem?_getD, hpi]; rfl
    refine ⟨p, hpi, ?_, ?_, ?_⟩
    · show (if i * 3 % 3 = 0 then _ else _) = _
      rw [if_pos (by omega), show i * 3 / 3 = i by omega, hl]
    · show (if (i * 3 + 1) % 3 = 0 then _ else _) = _
      rw [if_neg (by omega), if_pos (by omega), show (i * 3 + 1) / 3 = i by omega, hq]
    · show (if (i * 3 + 2) % 3 = 0 then _ else _) = _
      rw [if_neg (by omega), if_neg (by omega), show (i * 3 + 2) / 3 = i by omega, hq]
  have hget : ∀ j, j < l.length * 3 → ((List.range (l.length * 3)).map f)[j]? = some (f j) := fun j hj => by rw [List.getElem?_map, List.getElem?_range hj]; rfl
  have hall : ∀ j, j < l.length * 3 → ∃ a, A = some a ∧ a.block < B ∧ w.cell? (a.add j) = some (f j) ∧ (f j).oneCell' = true := by
    intro j hj
    have hx := List.getElem?_eq_getElem (l := l) (i := j / 3) (by omega)
    obtain ⟨p, hpi, f0, f1, f2⟩ := hf _ _ hx
    obtain ⟨a, e1, e2, e3, e4, e5, e6, e7⟩ := hp _ _ _ hx hpi
    refine ⟨a, e1, e2, ?_⟩
    rcases (show j = j / 3 * 3 ∨ j = j / 3 * 3 + 1 ∨ j = j / 3 * 3 + 2 by omega) with h | h | h
    · rw [← h] at f0 e3; rw [e3, f0]; exact ⟨rfl, rfl⟩
    · rw [← h] at f1 e4; rw [e4, f1]; exact ⟨rfl, e6.one⟩
    · rw [← h] at f2 e5; rw [e5, f2]; exact ⟨rfl, e7.one⟩
  refine ⟨(List.range (l.length * 3)).map f, ⟨by simp, fun i x hx => ?_, fun u hu => ?_⟩, ⟨by rw [List.length_map, List.length_range, h.len], fun j u hu => ?_⟩⟩
  · have hi := (List.getElem?_eq_some_iff.1 hx).1
    obtain ⟨p, hpi, f0, f1, f2⟩ := hf _ _ hx
    obtain ⟨a, e1, e2, e3, e4, e5, e6, e7⟩ := hp _ _ _ hx hpi
    exact ⟨p.1, p.2, by rw [hget _ (by omega), f0], by rw [hget _ (by omega), f1], by rw [hget _ (by omega), f2], e6, e7⟩
  · obtain ⟨j, hj, rfl⟩ := List.mem_map.1 hu
    obtain ⟨_, _, _, _, h1⟩ := hall j (by simpa using hj)
    exact h1
  · have hj := (List.getElem?_eq_some_iff.1 hu).1
    rw [List.length_map, List.length_range] at hj
    rw [hget j hj] at hu
    obtain ⟨a, e1, e2, e3, _⟩ := hall j hj
    exact ⟨a, e1, e2, by rw [e3, Option.some.inj hu]⟩
theorem InsCells.below {w w' : World} {B : Nat} {l : List LIn} {news : List Value} (h : InsCells w B l news) (hb : Below B w w') : InsCells w' B l news :=
  ⟨h.len, fun i x hx => by
    obtain ⟨va, vd, e1, e2, e3, e4, e5⟩ := h.at_ i x hx
    exact ⟨va, vd, e1, e2, e3, e4.below hb, e5.below hb⟩, h.one⟩
theorem InsCells.more {w : World} {B B' : Nat} {l : List LIn} {news : List Value} (h : InsCells w B l news) (hb : B ≤ B') : InsCells w B' l news :=
  ⟨h.len, fun i x hx => by
    obtain ⟨va, vd, e1, e2, e3, e4, e5⟩ := h.at_ i x hx
    exact ⟨va, vd, e1, e2, e3, e4.more hb, e5.more hb⟩, h.one⟩
theorem InsCells.in_ {w : World} {B n : Nat} {A : Option Addr} {l : List LIn} {news : List Value} (h : InsCells w B l news) (hs : Sees w B A (n * 3) news) (hn : l.length = n) : InsIn w B A n l :=
  ⟨hn, fun i x hx => by
    obtain ⟨va, vd, e1, e2, e3, e4, e5⟩ := h.at_ i x hx
    obtain ⟨a, ha, hb, c0⟩ := hs.cell _ _ e1
    obtain ⟨a1, ha1, _, c1⟩ := hs.cell _ _ e2
    obtain ⟨a2, ha2, _, c2⟩ := hs.cell _ _ e3
    rw [ha] at ha1 ha2
    obtain rfl := Option.some.inj ha1
    obtain rfl := Option.some.inj ha2
    exact ⟨a, va, vd, ha, hb, c0, c1, c2, e4, e5⟩⟩
theorem InsCells.snoc {w : World} {B : Nat} {l : List LIn} {news : List Value} (h : InsCells w B l news) {y : LIn} {va vd : Value} (hb : IsByte y.p) (ha : BytesIn w B va y.acc) (hd : BytesIn w B vd y.dat) : InsCells w B (l ++ [y]) (news ++ inCells y.p va vd) := by
  refine ⟨by rw [List.length_append, h.len, List.length_append]; simp [inCells]; omega, fun i x hx => ?_, fun u hu => ?_⟩
  · by_cases hi : i < l.length
    · rw [List.getElem?_append_left hi] at hx
      obtain ⟨va, vd, e1, e2, e3, e4, e5⟩ := h.at_ i x hx
      exact ⟨va, vd, by rw [List.getElem?_append_left (by rw [h.len]; omega)]; exact e1, by rw [List.getElem?_append_left (by rw [h.len]; omega)]; exact e2, by rw [List.getElem?_append_left (by rw [h.len]; omega)]; exact e3, e4, e5⟩
    · have hlen := (List.getElem?_eq_some_iff.1 hx).1
      rw [List.length_append, List.length_singleton] at hlen
      obtain rfl : i = l.length := by omega
      rw [List.getElem?_append_right (Nat.le_refl _), Nat.sub_self] at hx
      obtain rfl : y = x := by simpa using hx
      exact ⟨va, vd, by rw [List.getElem?_append_right (by rw [h.len]; omega), h.len, Nat.sub_self]; rfl, by rw [List.getElem?_append_right (by rw [h.len]; omega), h.len, show l.length * 3 + 1 - l.length * 3 = 1 by omega]; rfl, by rw [List.getElem?_append_right (by rw [h.len]; omega), h.len, show l.length * 3 + 2 - l.length * 3 = 2 by omega]; rfl, ha, hd⟩
  · rcases List.mem_append.1 hu with hu | hu
    · exact h.one u hu
    · exact inCells_one ha hd u hu
end Go.Proofs.Ytmpgibemmhcncaa

/-
  Of part Cost9: what is needed here.
-/
namespace Go.Proofs.Ytmpgibemmhcncaa
open Go.RowKit
set_option linter.unusedVariables false
/-- how many bytes the data of all instructions have -/
def dat9 (l : List LIn) : Nat := (l.map fun i => i.dat.length).sum
/-- so many, at so much each, held -/
def each9 (n c : Int) : Int := times (max n 0) c 1 false
/-- the parts of a cost -/
def parts9 (ns d : Nat) (wr u : Int) : List Int := [each9 ns 720, each9 wr 300, (d : Int) / 4, u]
/-- a cost -/
def cost9 (ns d : Nat) (wr u : Int) : Int := held (parts9 ns d wr u)
theorem dat9_succ {l : List LIn} {k : Nat} {x : LIn} (h : l[k]? = some x) : dat9 (l.take (k + 1)) = dat9 (l.take k) + x.dat.length := by
  obtain ⟨hk, rfl⟩ := List.getElem?_eq_some_iff.1 h
  unfold dat9
  rw [List.take_succ_eq_append_getElem hk, List.map_append, List.sum_append]
  simp
theorem dat9_take (l : List LIn) (k : Nat) : dat9 (l.take k) ≤ dat9 l := by
  unfold dat9
  have h := congrArg (fun l => (l.map fun i : LIn => i.dat.length).sum) (List.take_append_drop k l)
  simp only [List.map_append, List.sum_append] at h
  omega
theorem each9_word {n c : Int} (hn : n < 18446744073709551616) (hc : Word c) : Word (each9 n c) := by
  unfold each9 times
  have ha : Word (max n 0) := ⟨by omega, by omega⟩
  have hp := word_prod ha hc
  split
  · exact ⟨by decide, by decide⟩
  · rw [if_neg (by simp)]
    rename_i h
    exact (quot_word hp.1 h).1
theorem parts9_word {ns d : Nat} {wr u : Int} (h1 : (ns : Int) < 18446744073709551616) (h2 : (d : Int) < 18446744073709551616) (h3 : wr < 18446744073709551616) (h4 : Word u) : ∀ z ∈ parts9 ns d wr u, Word z := by
  intro z hz
  simp only [parts9, List.mem_cons, List.not_mem_nil, or_false] at hz
  rcases hz with rfl | rfl | rfl | rfl
  · exact each9_word h1 ⟨by decide, by decide⟩
  · exact each9_word h3 ⟨by decide, by decide⟩
  · exact ⟨by omega, by omega⟩
  · exact h4
set_option maxHeartbeats 1000000 in
theorem each_ (n c : Int) (w : World) (hn : n < 9223372036854775808) (hn' : -9223372036854775808 ≤ n) (hc : Word c) :
    Calls Try.prog 16 #[.int .i64 n, .int .u64 c] w fun e w' => e = .returned (.int .u64 (each9 n c)) ∧ Below w.heap.size w w' := by
  have T := Lib.hid (fun w => times_ (max n 0) c 1 false w ⟨by omega, by omega⟩ hc ⟨by decide, by decide⟩)
  have C : Hid (each9 n c = times (max n 0) c 1 false) := Lib.hid rfl
  have HN := Lib.hid hn
  have HN' := Lib.hid hn'
  rw [C.out]
  clear hn hn' C
  by_cases h : n ≤ 0
  · have e : max n 0 = 0 := by omega
    rw [e] at T ⊢
    go_enter Try.func16, Try.ntmps16
    go_wp2_with fail
    refine (T.out _).mono ?_
    rintro e w' ⟨rfl, hb⟩
    go_wp2
    go_ret
    exact ⟨rfl, hb⟩
  · have h' : 0 < n := by omega
    have e : max n 0 = n := by omega
    have e2 : IntKind.u64.wrap n = n := by rw [IntKind.wrap_u64]; have := HN.out; omega
    rw [e] at T ⊢
    clear h
    go_enter Try.func16, Try.ntmps16
    go_wp2_with fail
    refine (T.out _).mono ?_
    rintro e w' ⟨rfl, hb⟩
    go_wp2
    go_ret
    exact ⟨rfl, hb⟩
set_option maxRecDepth 100000 in
set_option maxHeartbeats 2000000 in
theorem data_ (A : Option Addr) (n c B : Nat) (l : List LIn) (w : World) (hin : InsIn w B A n l) (hB : B ≤ w.heap.size) (hn : n ≤ 4000) (hd : dat9 l ≤ 4000) :
    Calls Try.prog 17 #[.slice A n c] w fun e w' => e = .returned (.int .u64 (dat9 l : Nat)) ∧ Below w.heap.size w w' := by
  have HIN := Lib.hid hin
  have HD := Lib.hid hd
  have HBB := Lib.hid hB
  have HL := Lib.hid hin.len
  clear hin hd hB
  go_enter Try.func17, Try.ntmps17
  go_wp2
  go_loopw [3, 8] (fun s i wr => ∃ k : Nat, k ≤ n ∧ i = .int .i64 k ∧ s = .int .u64 (dat9 (l.take k) : Nat) ∧ Below w.heap.size w wr) (fun _ i _ => n - (intOf i).toNat)
  case atStart => exact ⟨0, Nat.zero_le _, rfl, rfl, Below.refl _ _⟩
  case round =>
    obtain ⟨k, hk, rfl, rfl, hbel⟩ := hrel
    have HBL := Lib.hid hbel
    clear hbel
    by_cases hlt : k < n
    · obtain ⟨a, x, va, vd, rfl, hab, hx, hat⟩ := (HIN.out.below (HBL.out.mono HBB.out)).get hlt
      have HS := Lib.hid (dat9_succ hx)
      have hs1 := dat9_take l (k + 1)
      have hs2 := dat9_take l k
      have hs3 := HD.out
      have HAC := Lib.hid hat.cells
      obtain ⟨DA, dc, hvd, hds, hdn, hdm⟩ := hat.dat.is
      subst hvd
      have HSI := Lib.hid (size_in x.p va (.slice DA x.dat.length dc))
      have HI1 := Lib.hid (inCells_one (p := x.p) hat.acc hat.dat)
      have HI3 : Hid ((inCells x.p va (.slice DA x.dat.length dc)).length = 3) := Lib.hid rfl
      have HI2 : Hid ((inCells x.p va (.slice DA x.dat.length dc))[2]? = some (.slice DA x.dat.length dc)) := Lib.hid rfl
      have hs4 : dat9 (l.take k) + x.dat.length ≤ 4000 := by have := HS.out; omega
      have e1 : IntKind.u64.wrap (x.dat.length : Nat) = (x.dat.length : Nat) := by rw [IntKind.wrap_u64]; omega
      have HC : Hid (cap ((dat9 (l.take k) : Nat) + (x.dat.length : Nat)) = (dat9 (l.take (k + 1)) : Nat)) := Lib.hid (by unfold cap; rw [if_neg (by omega), HS.out]; omega)
      clear hat hab hx hds hdn hdm hs1 hs3
      generalize inCells x.p va (.slice DA x.dat.length dc) = IC at *
      generalize x.dat.length = m at *
      generalize dat9 (l.take k) = s at *
      go_wp2_with (first
        | ((with_reducible show wpList _ _ _ ({ dst := some 11, op := Op.load _ _, type := _, pos := _, after := _, guard := _ } :: _) _ _); go_must (refine wpList_load_at rfl 44 (.tmp 10) rfl (a.add (k * 3)) IC _ Try.underlying44 rfl HSI.out HAC.out ?_ ?_; go_simp))
        | ((with_reducible show wpList _ _ _ ({ dst := none, op := Op.store 44 _ _, type := _, pos := _, after := _, guard := _ } :: _) _ _); go_must (refine wpList_store_new rfl 44 (.tmp 5) (.tmp 11) rfl IC HSI.out HI1.out (by rw [HI3.out]; rfl) ?_ ?_ ?_; go_simp; go_simp; intro w2 hr2 hb2 hz2; have B2 := Lib.hid hb2; have d4 := (hr2.cell 2).trans HI2.out; clear hr2 hb2 hz2)))
      refine (sum_two s m _ _ ⟨by omega, by omega⟩ ⟨by omega, by omega⟩ (Row.new' _ _ _ (by simp))).mono ?_
      rintro e w3 ⟨rfl, hb3⟩
      rw [HC.out]
      have hbb := B2.out.alloc B2.out.size (.cells #[.int .u64 s, .int .u64 m] 34)
      have HB3 := Lib.hid (HBL.out.trans ((hbb.trans (hb3.mono hbb.size)).mono HBL.out.size))
      clear hb3 hbb d4
      go_wp2_with fail
      go_roundw
      case rel => exact ⟨k + 1, by omega, by go_num, rfl, HB3.out⟩
      case measure => simp [intOf]; omega
    · obtain rfl : k = n := by omega
      have e : l.take k = l := List.take_of_length_le (by have := HL.out; omega)
      rw [e]
      go_wp2
      go_ret
      exact ⟨rfl, HBL.out⟩
end Go.Proofs.Ytmpgibemmhcncaa

/-
  Of part Iter9: what is needed here.
-/
namespace Go.Proofs.Ytmpgibemmhcncaa
open Go.RowKit Go.Shelf
set_option linter.unusedVariables false
attribute [local go_sem] Oper.semAt_some
/-- a number of 64 bits -/
abbrev W64 := { x : Int // Word x }
/-- what lay below N lies as it lay, but for block b -/
structure But9 (N b : Nat) (W W' : World) : Prop where
  size : W.heap.size ≤ W'.heap.size
  block : ∀ k, k < N → k ≠ b → W'.heap[k]? = W.heap[k]?
theorem But9.trans {N b : Nat} {A B C : World} (h : But9 N b A B) (k : But9 N b B C) : But9 N b A C :=
  ⟨Nat.le_trans h.size k.size, fun i hi hb => (k.block i hi hb).trans (h.block i hi hb)⟩
theorem But9.refl (N b : Nat) (W : World) : But9 N b W W := ⟨Nat.le_refl _, fun _ _ _ => rfl⟩
theorem But9.of_below {N b B : Nat} {W W' : World} (h : Below B W W') (hN : N ≤ B) : But9 N b W W' := ⟨h.size, fun k hk _ => h.block k (by omega)⟩
theorem But9.put {N b : Nat} {w : World} (hN : N ≤ w.heap.size) (W : World) (l : Nat) (o o' : Obj) (hl : w.heap.size ≤ l) (h : W.heap[l]? = some o) (_ : o.isCells = false) (_ : o.isWalk = false) : But9 N b W (W.putObj l o') :=
  ⟨by simp, fun k hk _ => World.putObj_heap_other (by omega)⟩
/-- what the parts of a cost are read from: three boxes, and the instructions -/
structure Src9 (w : World) (N B b bx bw bu ns n : Nat) (SA A : Option Addr) (sc c : Nat) (l : List LIn) (wr u : Int) : Prop where
  c0 : w.cell? ⟨bx, 0, none⟩ = some (.slice SA ns sc)
  c38 : w.cell? ⟨bx, 38, none⟩ = some (.slice A n c)
  cw : w.cell? ⟨bw, 0, none⟩ = some (.int .i64 wr)
  cu : w.cell? ⟨bu, 0, none⟩ = some (.int .u64 u)
  ins : InsIn w B A n l
  lx : bx < N ∧ bx ≠ b
  lw : bw < N ∧ bw ≠ b
  lu : bu < N ∧ bu ≠ b
  lB : B ≤ b ∧ B ≤ N
theorem Src9.keep {w w' : World} {N B b bx bw bu ns n sc c : Nat} {SA A : Option Addr} {l : List LIn} {wr u : Int} (h : Src9 w N B b bx bw bu ns n SA A sc c l wr u) (k : But9 N b w w') : Src9 w' N B b bx bw bu ns n SA A sc c l wr u :=
  ⟨(World.cell?_of_block (k.block _ h.lx.1 h.lx.2)).trans h.c0, (World.cell?_of_block (k.block _ h.lx.1 h.lx.2)).trans h.c38, (World.cell?_of_block (k.block _ h.lw.1 h.lw.2)).trans h.cw, (World.cell?_of_block (k.block _ h.lu.1 h.lu.2)).trans h.cu,
    h.ins.keep (fun p hp => World.cell?_of_block (k.block _ (by have := h.lB.2; omega) (by have := h.lB.1; omega))), h.lx, h.lw, h.lu, h.lB⟩
/-- new blocks alone -/
theorem grown_new9 {W W' : World} (h : Below W.heap.size W W') : W.grownBy W' none := ⟨h.os, h.tape, h.output, h.size, fun k hk _ => h.block k hk⟩
theorem abides_new {β : Type} {B : Nat} {J : β → World → Prop} (h : AbidesFrom B J) {s : β} {W W' : World} (hs : J s W) (hb : Below W.heap.size W W') : J s W' := h s W W' none hs (grown_new9 hb) (fun r e => by cases e)
set_option maxRecDepth 100000 in
set_option maxHeartbeats 2000000 in
theorem parts1_stops (m : Nat) (hm : 1 ≤ m) (w : World) (N B b bx bw bu ns n : Nat) (SA A : Option Addr) (sc c : Nat) (l : List LIn) (wr u : Int) (h : Src9 w N B b bx bw bu ns n SA A sc c l wr u) (hN : N ≤ w.heap.size)
    (h1 : ns ≤ 4000) (h2 : n ≤ 4000) (h3 : dat9 l ≤ 4000) (h4 : -9223372036854775808 ≤ wr) (h5 : wr < 9223372036854775808) (h6 : Word u) :
    SeqStopsK Fence.wide m Try.prog 15 #[.pointer (some ⟨bx, 0, none⟩), .pointer (some ⟨bw, 0, none⟩), .pointer (some ⟨bu, 0, none⟩)] (fun x : W64 => #[.int .u64 x.1]) (But9 N b)
      (fun xs => xs.map (·.1) = parts9 ns (dat9 l) wr u) (fun _ => True) 4 w := by
  intro lp J Jx W hW hJ hJx hY h0
  have hs := h.keep (But9.of_below hW hN)
  have hNW : N ≤ W.heap.size := Nat.le_trans hN hW.size
  have HW := parts9_word (ns := ns) (d := dat9 l) (wr := wr) (u := u) (by omega) (by omega) (by omega) h6
  have hw0 := HW (each9 ns 720) (by simp [parts9])
  have hw1 := HW (each9 wr 300) (by simp [parts9])
  have hw2 := HW ((dat9 l : Int) / 4) (by simp [parts9])
  have P0 := Lib.hid (fun W => each_ ns 720 W (by omega) (by omega) ⟨by decide, by decide⟩)
  have P1 := Lib.hid (fun W => each_ wr 300 W (by omega) (by omega) ⟨by decide, by decide⟩)
  have HU := Lib.hid h6
  have HY := Lib.hid hY
  have HS0 := Lib.hid hs.c0
  have HP : Hid (parts9 ns (dat9 l) wr u = [each9 ns 720, each9 wr 300, (dat9 l : Int) / 4, u]) := Lib.hid rfl
  rw [HP.out]
  have d0 := hs.c0
  generalize each9 ns 720 = p0 at *
  generalize each9 wr 300 = p1 at *
  refine callsIn_of_wp Try.func15 rfl trivial ?_ rfl
  simp only [Try.ntmps15, List.size_toArray, List.length_cons, List.length_nil, Nat.reduceAdd, Nat.reduceSub, Array.replicate_succ, Array.replicate_zero, List.push_toArray, List.append_toArray, List.nil_append, List.cons_append]
  have h16 : Fence.wide.fn 16 := trivial
  have h17 : Fence.wide.fn 17 := trivial
  gi_wp2_with fail
  refine (callsIn_wide.2 (P0.out W)).mono ?_
  rintro e W1 ⟨rfl, hb1⟩
  have HS1 := Lib.hid (hs.keep (But9.of_below hb1 hNW))
  have hJ1 := abides_new hJ h0 hb1
  have HN1 := Lib.hid (Nat.le_trans hNW hb1.size)
  obtain ⟨f1, t1, a1, b1, hy1, hR1⟩ := HY.out [] ⟨p0, hw0⟩ W1 hJ1 (by simp)
  clear hb1 hJ1
  gi_wp2_with fail
  refine hR1.mono ?_
  rintro e W2 (⟨rfl, hJ2, hk2⟩ | ⟨rfl, hx2⟩)
  · have HS2 := Lib.hid (HS1.out.keep hk2)
    have HN2 := Lib.hid (Nat.le_trans HN1.out hk2.size)
    have d2 := HS2.out.cw
    clear hk2 hR1 hy1 d0
    gi_wp2_with fail
    refine (callsIn_wide.2 (P1.out W2)).mono ?_
    rintro e W3 ⟨rfl, hb3⟩
    have HS3 := Lib.hid (HS2.out.keep (But9.of_below hb3 HN2.out))
    have hJ3 := abides_new hJ hJ2 hb3
    have HN3 := Lib.hid (Nat.le_trans HN2.out hb3.size)
    obtain ⟨f3, t3, a3, b3, hy3, hR3⟩ := HY.out _ ⟨p1, hw1⟩ W3 hJ3 (by simp)
    clear hb3 hJ3 d2
    gi_wp2_with fail
    refine hR3.mono ?_
    rintro e W4 (⟨rfl, hJ4, hk4⟩ | ⟨rfl, hx4⟩)
    · have HS4 := Lib.hid (HS3.out.keep hk4)
      have HN4 := Lib.hid (Nat.le_trans HN3.out hk4.size)
      have d4 := HS4.out.c38
      clear hk4 hR3 hy3
      gi_wp2_with fail
      refine (callsIn_wide.2 (data_ A n c B l W4 HS4.out.ins (by have := HS4.out.lB; have := HN4.out; omega) h2 h3)).mono ?_
      rintro e W5 ⟨rfl, hb5⟩
      have HS5 := Lib.hid (HS4.out.keep (But9.of_below hb5 HN4.out))
      have hJ5 := abides_new hJ hJ4 hb5
      have HN5 := Lib.hid (Nat.le_trans HN4.out hb5.size)
      obtain ⟨f5, t5, a5, b5, hy5, hR5⟩ := HY.out _ ⟨(dat9 l : Int) / 4, hw2⟩ W5 hJ5 (by simp)
      clear hb5 hJ5 d4
      gi_wp2_with fail
      refine hR5.mono ?_
      rintro e W6 (⟨rfl, hJ6, hk6⟩ | ⟨rfl, hx6⟩)
      · have HS6 := Lib.hid (HS5.out.keep hk6)
        have d6 := HS6.out.cu
        obtain ⟨f7, t7, a7, b7, hy7, hR7⟩ := HY.out _ ⟨u, HU.out⟩ W6 hJ6 (by simp)
        clear hk6 hR5 hy5
        gi_wp2_with fail
        refine hR7.mono ?_
        rintro e W8 (⟨rfl, hJ8, hk8⟩ | ⟨rfl, hx8⟩)
        · gi_wp2
          go_end0
          exact ⟨⟨_, rfl⟩, .inl ⟨_, rfl, hJ8⟩⟩
        · gi_wp2
          go_end0
          exact ⟨⟨_, rfl⟩, .inr ⟨_, trivial, hx8⟩⟩
      · gi_wp2_with (refine ⟨fun _ _ => trivial, ?_⟩)
        go_end0
        exact ⟨⟨_, rfl⟩, .inr ⟨_, trivial, hx6⟩⟩
    · gi_wp2_with (refine ⟨fun _ _ => trivial, ?_⟩)
      go_end0
      exact ⟨⟨_, rfl⟩, .inr ⟨_, trivial, hx4⟩⟩
  · gi_wp2_with (refine ⟨fun _ _ => trivial, ?_⟩)
    go_end0
    exact ⟨⟨_, rfl⟩, .inr ⟨_, trivial, hx2⟩⟩
end Go.Proofs.Ytmpgibemmhcncaa

/-
  Of part Of9: what is needed here.
-/
namespace Go.Proofs.Ytmpgibemmhcncaa
open Go.RowKit Go.Shelf
set_option linter.unusedVariables false
attribute [local go_sem] Oper.semAt_some
theorem size_tx9 : (Try.prog.info? 33).map (·.size) = some 40 := by kernel_rfl
set_option maxRecDepth 100000 in
set_option maxHeartbeats 2000000 in
theorem cparts_ (cs : List Value) (wr u : Int) (w : World) :
    Calls Try.prog 11 #[.agg cs.toArray, .int .i64 wr, .int .u64 u] w fun e w' =>
      e = .returned (.func (.func 15) #[] #[.pointer (some ⟨w.heap.size, 0, none⟩), .pointer (some ⟨w.heap.size + 1, 0, none⟩), .pointer (some ⟨w.heap.size + 2, 0, none⟩)]) ∧
      w' = ((w.alloc (.cells cs.toArray 33)).alloc (.cells #[.int .i64 wr] 3)).alloc (.cells #[.int .u64 u] 34) := by
  go_enter Try.func11, Try.ntmps11
  go_wp2
  go_ret
  exact ⟨rfl, rfl⟩
/-- the numbers -/
def vals9 (pre : List W64) : List Int := pre.map (·.1)
theorem vals9_word (pre : List W64) : ∀ z ∈ vals9 pre, Word z := by
  intro z hz
  obtain ⟨x, _, rfl⟩ := List.mem_map.1 hz
  exact x.2
theorem vals9_snoc (pre : List W64) (x : W64) : held (vals9 (pre ++ [x])) = cap (held (vals9 pre) + x.1) := by
  have h : vals9 (pre ++ [x]) = vals9 pre ++ [x.1] := by simp [vals9]
  rw [h]
  unfold held
  rw [List.sum_append, cap_add x.2.1]
  simp
set_option maxRecDepth 100000 in
set_option maxHeartbeats 2000000 in
theorem cost_ (cs : List Value) (ns n : Nat) (SA A : Option Addr) (sc c B : Nat) (l : List LIn) (wr u : Int) (w : World) (hl : cs.length = 40) (hc0 : cs[0]? = some (.slice SA ns sc)) (hc38 : cs[38]? = some (.slice A n c))
    (hin : InsIn w B A n l) (hB : B ≤ w.heap.size) (h1 : ns ≤ 4000) (h2 : n ≤ 4000) (h3 : dat9 l ≤ 4000) (h4 : -9223372036854775808 ≤ wr) (h5 : wr < 9223372036854775808) (h6 : Word u) :
    Calls Try.prog 9 #[.agg cs.toArray, .int .i64 wr, .int .u64 u] w fun e w' => e = .returned (.int .u64 (cost9 ns (dat9 l) wr u)) ∧ Below w.heap.size w w' := by
  have HSZ := Lib.hid (show (Try.prog.info? 33).map (·.size) = some cs.length by rw [hl]; exact size_tx9)
  have r0 := Row.new w 33 cs
  have b0 := (Below.refl w.heap.size w).alloc (Nat.le_refl _) (.cells cs.toArray 33)
  have s0 : (w.alloc (.cells cs.toArray 33)).heap.size = w.heap.size + 1 := by simp
  have HR1 := Lib.hid (r0.below ((Below.refl _ _).alloc (Nat.le_refl _) (.cells #[.int .u64 0] 34)) (by rw [s0]; omega))
  have HC0 := Lib.hid hc0
  have HC38 := Lib.hid hc38
  have HIN := Lib.hid hin
  have HB := Lib.hid hB
  have H4 := Lib.hid h4
  have H5 := Lib.hid h5
  have H6 := Lib.hid h6
  have HB0 := Lib.hid b0
  have HS0 := Lib.hid s0
  clear hl hc0 hc38 hin hB h4 h5 h6 r0 b0 s0
  refine (callsIn_wide (n := 5)).1 ?_
  refine callsIn_of_wp_marks Try.func9 rfl trivial ?_ rfl
  simp only [Try.ntmps9, List.size_toArray, List.length_cons, List.length_nil, Nat.reduceAdd, Nat.reduceSub, Array.replicate_succ, Array.replicate_zero, List.push_toArray, List.append_toArray, List.nil_append, List.cons_append]
  refine wpIn_wide.2 ?_
  go_wp2_with ((with_reducible show wpList _ _ _ ({ dst := some 9, op := Op.load _ _, type := _, pos := _, after := _, guard := _ } :: _) _ _); go_must (refine wpList_load_whole rfl 33 (.tmp 3) rfl w.heap.size 33 cs _ Try.underlying33 rfl HSZ.out HR1.out ?_ ?_; go_simp))
  refine (cparts_ cs wr u _).mono ?_
  rintro e w1 ⟨rfl, hw1⟩
  obtain ⟨W2, hW2⟩ : ∃ W2, (w.alloc (.cells cs.toArray 33)).alloc (.cells #[.int .u64 0] 34) = W2 := ⟨_, rfl⟩
  have S2 : W2.heap.size = w.heap.size + 2 := by rw [← hW2]; simp
  have B2 : Below w.heap.size w W2 := by rw [← hW2]; exact HB0.out.alloc HB0.out.size _
  have R2 : Row W2 (w.heap.size + 1) 34 [.int .u64 0] := by rw [← hW2]; exact Row.new' _ _ _ (by simp)
  rw [hW2] at hw1 ⊢
  have B5 : Below W2.heap.size W2 w1 := by rw [hw1]; exact (((Below.refl _ _).alloc (Nat.le_refl _) _).alloc (by simp) _).alloc (by simp; omega) _
  have S5 : w1.heap.size = w.heap.size + 5 := by rw [hw1]; simp [S2]
  have RX : Row w1 (w.heap.size + 2) 33 cs := by rw [hw1, ← S2]; exact ((Row.new W2 _ cs).below ((Below.refl _ _).alloc (Nat.le_refl _) _) (by simp)).below ((Below.refl _ _).alloc (Nat.le_refl _) _) (by simp; omega)
  have RW : Row w1 (w.heap.size + 3) 3 [.int .i64 wr] := by rw [hw1]; exact (Row.new' (W2.alloc (.cells cs.toArray 33)) _ [.int .i64 wr] (by simp [S2])).below ((Below.refl _ _).alloc (Nat.le_refl _) _) (by simp [S2])
  have RU : Row w1 (w.heap.size + 4) 34 [.int .u64 u] := by rw [hw1]; exact Row.new' _ _ [.int .u64 u] (by simp [S2])
  have RA := R2.below B5 (by rw [S2]; omega)
  have BW := B2.trans (B5.mono (by rw [S2]; omega))
  have SRC : Src9 w1 (w.heap.size + 5) B (w.heap.size + 1) (w.heap.size + 2) (w.heap.size + 3) (w.heap.size + 4) ns n SA A sc c l wr u :=
    ⟨(RX.cell 0).trans HC0.out, (RX.cell 38).trans HC38.out, (RW.cell 0).trans rfl, (RU.cell 0).trans rfl, HIN.out.below (BW.mono HB.out), by omega, by omega, by omega, by have := HB.out; omega⟩
  have hc := (RA.cell 0).trans (show ([Value.int .u64 0] : List Value)[0]? = some (.int .u64 0) from rfl)
  have hf := RA.frozen 0
  clear hw1 hW2 R2 RX RW RU RA B2 B5 HR1
  go_wp2_with fail
  refine (wpIn_wide (n := 5)).1 ?_
  refine wpIn_rangeFunc_ownF rfl (by omega) (gf := 15) (lb := #[.pointer (some ⟨w.heap.size + 2, 0, none⟩), .pointer (some ⟨w.heap.size + 3, 0, none⟩), .pointer (some ⟨w.heap.size + 4, 0, none⟩)]) ?hg trivial (enters_of Try.func15 (by kernel_rfl) rfl)
    (parts1_stops 4 (by omega) w1 (w.heap.size + 5) B (w.heap.size + 1) _ _ _ ns n SA A sc c l wr u SRC (by omega) h1 h2 h3 H4.out H5.out H6.out) (fun h k => h.trans k) (But9.put (by omega)) (Below.refl _ _) (fun _ => rfl)
    (fun pre W => (W.cell? ⟨w.heap.size + 1, 0, none⟩ = some (.int .u64 (held (vals9 pre))) ∧ W.frozen? ⟨w.heap.size + 1, 0, none⟩ = false) ∧ w.heap.size + 5 ≤ W.heap.size ∧ Below w.heap.size w W)
    (fun _ _ _ => False)
    (OwnFrom.and (Own.from (fun s A B row hs hg hr => ⟨cell_kept hs.1 hg hr, (frozen_kept hs.1 hg hr).trans hs.2⟩) _) (OwnFrom.and (fun s A B row hs hg hr => Nat.le_trans hs hg.size) (ownFrom_below (Nat.le_refl _) (by omega))))
    (fun _ _ _ _ _ hs _ _ => hs)
    ⟨⟨hc, hf⟩, by omega, BW⟩
    (fun x => { tmps := #[.agg cs.toArray, .int .i64 wr, .int .u64 u, .pointer (some ⟨w.heap.size, 0, none⟩), undef, undef, .int .u64 0, .pointer (some ⟨w.heap.size + 1, 0, none⟩), .int .u64 x.1, .agg cs.toArray, .int .i64 wr, .int .u64 u,
      .func (.func 15) #[] #[.pointer (some ⟨w.heap.size + 2, 0, none⟩), .pointer (some ⟨w.heap.size + 3, 0, none⟩), .pointer (some ⟨w.heap.size + 4, 0, none⟩)], .int .u64 x.1, undef, undef, undef, undef, undef], defers := [] }) ?assign ?body ?done ?stop
  case hg => rfl
  case assign =>
    intro lp x W K hK
    gi_wp2
    exact hK
  case body =>
    rintro lp pre x W ⟨⟨hc, hf⟩, h9, hB⟩ hlen
    have hv := held_word (vals9_word pre)
    have hlt : w.heap.size + 1 < W.heap.size := by obtain ⟨o, ho, -⟩ := cells_of_cell hc; exact (Array.getElem?_eq_some_iff.1 ho).1
    have HS := Lib.hid (vals9_snoc pre x)
    have HBL := Lib.hid hB
    have H9 := Lib.hid h9
    clear hB h9
    generalize held (vals9 pre) = s at *
    gi_wp2_with fail
    refine ⟨trivial, (CallsIn.inRound lp (callsIn_wide.2 (sum_two s x.1 _ _ hv x.2 (Row.new' _ _ _ (by simp))))).mono ?_⟩
    rintro e W1 ⟨rfl, hb⟩
    have b1 := (Below.refl W.heap.size W).alloc (Nat.le_refl _) (.cells #[.int .u64 s, .int .u64 x.1] 34)
    have HB1 := Lib.hid (b1.trans (hb.mono b1.size))
    have hc1 := (HB1.out.cell (p := ⟨w.heap.size + 1, 0, none⟩) hlt).trans hc
    have hf1 := (HB1.out.frozen (p := ⟨w.heap.size + 1, 0, none⟩) hlt).trans hf
    have HW := Lib.hid hlt
    clear hb b1 hc hf hlt
    rw [← HS.out]
    gi_wp2
    refine ⟨?_, ?_, ⟨?_, ?_⟩, ?_, ?_⟩
    · exact (KeepsOthers.of_grownBy (grown_new9 HB1.out) (fun j o e => by cases e)).trans (KeepsOthers.setCell _ _ _)
    · exact (But9.of_below HB1.out H9.out).trans ⟨(KeepsWalks.setCell W1 _ _).size, fun k _ hk => Below.heap_setCell W1 _ _ k hk⟩
    · exact World.cell?_setCell_same' _ _ _ (by rw [hc1]; rfl)
    · rw [World.frozen?_setCell]; exact hf1
    · exact Nat.le_trans (Nat.le_trans H9.out HB1.out.size) (KeepsWalks.setCell W1 _ _).size
    · exact (HBL.out.trans (HB1.out.mono HBL.out.size)).setCell (p := ⟨w.heap.size + 1, 0, none⟩) (by show w.heap.size ≤ w.heap.size + 1; omega) _
  case done =>
    rintro D ys W hD hys ⟨⟨hc, _⟩, _, hB⟩ hK
    have e : held (vals9 ys) = cost9 ns (dat9 l) wr u := by unfold cost9; exact congrArg held hys
    rw [e] at hc
    clear e hys
    go_wp2
    refine ⟨by simp, .inl ⟨_, _, rfl, run_takeDeferred hK, ?_⟩⟩
    exact ⟨_, results_tmp rfl _ _ _, rfl, hB.trans (belowK_b (w := w) (Nat.le_refl _) W D _ _ (by omega) hK rfl rfl)⟩
  case stop =>
    rintro D c pre W _ _ h _
    exact h.elim
end Go.Proofs.Ytmpgibemmhcncaa

/-
  Of part Lives4: what is needed here.
-/
namespace Go.Proofs.Ytmpgibemmhcncaa
open Go.RowKit
set_option linter.unusedVariables false
theorem split39 (m : List Value) (h : m.length = 39) : ∃ f : Fin 39 → Value, m = List.ofFn f := ⟨fun i => m.getD i undef, by
    refine List.ext_getElem (by simpa using h) fun i h1 h2 => ?_
    rw [List.getElem_ofFn, List.getD_eq_getElem?_getD, List.getElem?_eq_getElem h1]
    rfl⟩
theorem wp_make_full {P : Program} {w : World} {o : Oper} {a : Act} {K : Act → World → Prop} {Q : Exit → Act → World → Prop}
    (l c : Operand) (t : TypeId) (hop : o.op = Op.makeSlice t l c)
    (base : Nat) (e : TypeId) (i : TypeInfo) (z : Value) (size : Nat) (h1 : P.underlying t = some (.slice e)) (h2 : P.info? e = some i) (h3 : i.zero = some z) (h4 : i.size = size)
    (kl kc : IntKind) (n : Nat) (hl : a.eval l = .int kl n) (hc : a.eval c = .int kc n) (b2 : i.bytes * n ≤ 281474976710656) (b3 : n ≤ maxLen) (b4 : base ≤ w.heap.size)
    (hK : ∀ w', w'.ownsRow base e size (.slice (some ⟨w.heap.size, 0, none⟩) n n) n (madeCells z.cells (n * size)).toList → w.grownBy w' none → K (a.put o.dst (.slice (some ⟨w.heap.size, 0, none⟩) n n)) w') : o.wp P a w K Q := by
  obtain ⟨w', hrun, r1, r2⟩ := run_make_full (P := P) w base t e i z size h1 h2 h3 h4 kl kc n b2 b3 b4
  unfold Oper.wp
  simp [execOp, hop, hl, hc, hrun, Result.andThen]
  exact hK w' r1 r2
end Go.Proofs.Ytmpgibemmhcncaa

/-
  Of part GetN: what is needed here.
-/
namespace Go.Proofs.Ytmpgibemmhcncaa
open Go.RowKit
set_option linter.unusedVariables false
/-- the number that the first k bytes are, the lowest first -/
def num : List Int → Nat → Int
  | _, 0 => 0
  | zs, k + 1 => num zs k + zs.getD k 0 * 256 ^ k
end Go.Proofs.Ytmpgibemmhcncaa

/-
  Of part HoldWalk: what is needed here.
-/
namespace Go.Proofs.Ytmpgibemmhcncaa
open Go.RowKit Go.Maps
set_option linter.unusedVariables false
def i1 : DataW Unit := .lit (.int .i64 1)
end Go.Proofs.Ytmpgibemmhcncaa

/-
  Of part MoreWalk: what is needed here.
-/
namespace Go.Proofs.Ytmpgibemmhcncaa
open Go.RowKit
set_option linter.unusedVariables false
theorem bytes_nil (w : World) (B : Nat) : BytesIn w B (.slice none 0 0) [] := ⟨⟨none, 0, rfl, Sees.nil _ _ _, Nat.le_refl _, by simp [maxLen]⟩⟩
theorem info_ins5 : (Try.prog.info? 44).map (fun i => (i.zero, i.size, i.bytes)) = some (some (.agg #[.int .u8 0, .slice none 0 0, .slice none 0 0]), 3, 56) := by kernel_rfl
end Go.Proofs.Ytmpgibemmhcncaa

/-
  Of part OtherMem: what is needed here.
-/
namespace Go.Proofs.Ytmpgibemmhcncaa
open Go.RowKit
set_option linter.unusedVariables false
theorem own_keep {w w' : World} {base : Nat} {e : TypeId} {size n : Nat} {v : Value} {xs : List Value} (h : w.ownsRow base e size v n xs) (hk : ∀ g, v.ownBlock = some g → w'.heap[g]? = w.heap[g]?) : w'.ownsRow base e size v n xs := by
  refine ⟨h.1, ?_⟩
  rcases h.2 with h2 | ⟨g, cap, cur, hv, hg, hh, r⟩
  · exact .inl h2
  · exact .inr ⟨g, cap, cur, hv, hg, (hk g (by rw [hv]; rfl)).trans hh, r⟩
theorem own_is {w : World} {base : Nat} {e : TypeId} {size n g : Nat} {v : Value} {xs : List Value} (h : w.ownsRow base e size v n xs) (hg : v.ownBlock = some g) : ∃ cur, w.heap[g]? = some (.cells cur e (0, 0)) := by
  rcases h.2 with ⟨rfl, _⟩ | ⟨g', cap, cur, rfl, _, hh, _⟩
  · cases hg
  · cases hg
    exact ⟨cur, hh⟩
theorem own_turned {w w' : World} {base g : Nat} {e t : TypeId} {size n : Nat} {v : Value} {xs ys : List Value} (h : w.ownsRow base e size v n xs) (hr : Row w g t ys) (hne : e ≠ t) (ht : Turned w w' g) : w'.ownsRow base e size v n xs :=
  own_keep h fun k hk => ht.block k (fun e1 => by
    obtain ⟨cur, hc⟩ := own_is h hk
    rw [e1, hr.is] at hc
    injection (Option.some.inj hc) with _ h3 _
    exact hne h3.symm)
/-- what the rules see of an instruction -/
def pa (i : LIn) : Int × List Int := (i.p, i.acc)
end Go.Proofs.Ytmpgibemmhcncaa

/-
  Of part Lives6: what is needed here.
-/
namespace Go.Proofs.Ytmpgibemmhcncaa
open Go.RowKit
set_option linter.unusedVariables false
def y1 : List LLook := [⟨xk 9, [2], [0, 1]⟩]
def y2 : List LLook := [⟨xk 9, [], [3]⟩]
end Go.Proofs.Ytmpgibemmhcncaa

/-
  Of part Elems: what is needed here.
-/
namespace Go.Proofs.Ytmpgibemmhcncaa
open Go.RowKit
set_option linter.unusedVariables false
/-- a lookup's cells -/
def EL (w : World) (B : Nat) (cs : List Value) (x : LLook) : Prop := ∃ va vd, cs = bv x.tab ++ [va, vd] ∧ x.tab.length = 32 ∧ BytesIn w B va x.wr ∧ BytesIn w B vd x.rd
theorem EL.keep {w w' : World} {B B' : Nat} {cs : List Value} {x : LLook} (h : EL w B cs x) (hb : Below B w w') (hB : B ≤ B') : EL w' B' cs x := by
  obtain ⟨va, vd, h1, h2, h3, h4⟩ := h
  exact ⟨va, vd, h1, h2, (h3.below hb).more hB, (h4.below hb).more hB⟩
end Go.Proofs.Ytmpgibemmhcncaa

/-
  Of part Known: what is needed here.
-/
namespace Go.Proofs.Ytmpgibemmhcncaa
open Go.RowKit
set_option linter.unusedVariables false
/-- the known programs' keys -/
def k0 : List Int := List.replicate 32 0
def k3 : List Int := 3 :: List.replicate 31 0
def kn (x : List Int) : Bool := decide (x = k0) || decide (x = k3)
end Go.Proofs.Ytmpgibemmhcncaa

/-
  Of part Lives7: what is needed here.
-/
namespace Go.Proofs.Ytmpgibemmhcncaa
open Go.RowKit
set_option linter.unusedVariables false
def xq (a : Int) : List Int := a :: List.replicate 31 0
/-- the example -/
def m7 : LMsg := ⟨false, 2, 1, 1, [xq 1, xq 2, xq 4, k0], List.replicate 32 0, [], []⟩
def e7 : List LRole := [⟨xq 1, true, true⟩, ⟨xq 2, true, false⟩, ⟨xq 4, false, true⟩, ⟨k0, false, false⟩]
end Go.Proofs.Ytmpgibemmhcncaa

/-
  Of part With8: what is needed here.
-/
namespace Go.Proofs.Ytmpgibemmhcncaa
open Go.RowKit
set_option linter.unusedVariables false
/-- the keys of such a message; its instructions -/
def keys8 : List (List Int) := [xq 7, k3, xq 8]
def m8 (ins : List LIn) : LMsg := ⟨false, 0, 0, 0, keys8, List.replicate 32 0, ins, []⟩
def q8 (g : Nat) (A : Option Addr) (n c : Nat) : Raw := ⟨some ⟨g, 0, none⟩, 3, 3, A, n, c, none, 0, 0⟩
theorem keys8_len : ∀ k ∈ keys8, k.length = 32 := by
  intro k hk
  simp only [keys8, List.mem_cons, List.not_mem_nil, or_false] at hk
  rcases hk with rfl | rfl | rfl <;> rfl
/-- a message in a block of its own, its instructions a row of the call's own -/
structure W8 (B lo : Nat) (w : World) (gk gm : Nat) (A : Option Addr) (n c : Nat) (ins : List LIn) : Prop where
  rk : Row w gk 47 (bv (xq 7) ++ (bv k3 ++ bv (xq 8)))
  rm : Row w gm 31 ((q8 gk A n c).cells (m8 ins))
  own : ∃ news, w.ownsRow lo 44 3 (.slice A n c) n news ∧ InsCells w B ins news
  hk : lo ≤ gk
  hm : lo ≤ gm
  len : ins.length = n
  bl : B ≤ lo
section
variable {B lo : Nat} {w w' : World} {gk gm : Nat} {A : Option Addr} {n c : Nat} {ins : List LIn}
theorem W8.size (h : W8 B lo w gk gm A n c ins) : lo < w.heap.size := by have := h.rm.lt; have := h.hm; omega
theorem W8.below (h : W8 B lo w gk gm A n c ins) (hb : Below w.heap.size w w') : W8 B lo w' gk gm A n c ins := by
  obtain ⟨news, ho, hi⟩ := h.own
  exact ⟨h.rk.below hb h.rk.lt, h.rm.below hb h.rm.lt, ⟨news, own_below ho hb, hi.below (hb.mono (by have := h.size; have := h.bl; omega))⟩, h.hk, h.hm, h.len, h.bl⟩
theorem W8.drew (h : W8 B lo w gk gm A n c ins) : W8 B lo w.drew gk gm A n c ins := h.below (Below.refl _ _).drew
theorem W8.in_ (h : W8 B lo w gk gm A n c ins) : MsgIn w w.heap.size (q8 gk A n c) (m8 ins) := by
  obtain ⟨news, ho, hi⟩ := h.own
  obtain ⟨A', c', he, hs, h1, h2, _⟩ := own_form2 ho
  injection he with e1 e2 e3
  subst e1 e3
  exact ⟨rfl, keys_row (l := keys8) (ys := []) (by rw [List.append_nil]; exact h.rk) rfl keys8_len h.rk.lt, (hi.more (by have := h.size; have := h.bl; omega)).in_ hs h.len, ⟨rfl, by simp [m8]⟩, ⟨Nat.le_refl _, by show 3 ≤ maxLen; unfold maxLen; omega⟩, ⟨h1, h2⟩, ⟨Nat.le_refl _, Nat.zero_le _⟩⟩
end
end Go.Proofs.Ytmpgibemmhcncaa

/-
  Of part Lives9: what is needed here.
-/
namespace Go.Proofs.Ytmpgibemmhcncaa
open Go.RowKit
set_option linter.unusedVariables false
/-- a transaction as a value: so many signatures, these instructions, below block B -/
structure CX (w : World) (B : Nat) (cs : List Value) (ns : Nat) (l : List LIn) : Prop where
  len : cs.length = 40
  c0 : ∃ SA sc, cs[0]? = some (.slice SA ns sc)
  c38 : ∃ A n c, cs[38]? = some (.slice A n c) ∧ InsIn w B A n l
  one : ∀ u ∈ cs, u.oneCell' = true
theorem CX.below {w w' : World} {B : Nat} {cs : List Value} {ns : Nat} {l : List LIn} (h : CX w B cs ns l) (hb : Below B w w') : CX w' B cs ns l := by
  obtain ⟨A, n, c, h1, h2⟩ := h.c38
  exact ⟨h.len, h.c0, ⟨A, n, c, h1, h2.below hb⟩, h.one⟩
theorem CX.more {w : World} {B B' : Nat} {cs : List Value} {ns : Nat} {l : List LIn} (h : CX w B cs ns l) (hB : B ≤ B') : CX w B' cs ns l := by
  obtain ⟨A, n, c, h1, h2⟩ := h.c38
  exact ⟨h.len, h.c0, ⟨A, n, c, h1, h2.more hB⟩, h.one⟩
/-- costs.Of of it -/
theorem CX.cost {w : World} {B : Nat} {cs : List Value} {ns : Nat} {l : List LIn} (h : CX w B cs ns l) (hB : B ≤ w.heap.size) (h1 : ns ≤ 4000) (h2 : l.length ≤ 4000) (h3 : dat9 l ≤ 4000) (wr u : Int) (h4 : -9223372036854775808 ≤ wr) (h5 : wr < 9223372036854775808) (h6 : Word u) :
    Calls Try.prog 9 #[.agg cs.toArray, .int .i64 wr, .int .u64 u] w fun e w' => e = .returned (.int .u64 (cost9 ns (dat9 l) wr u)) ∧ Below w.heap.size w w' := by
  obtain ⟨A, n, c, hc, hin⟩ := h.c38
  obtain ⟨SA, sc, h0⟩ := h.c0
  exact cost_ cs ns n SA A sc c B l wr u w h.len h0 hc hin hB h1 (by rw [← hin.len]; exact h2) h3 h4 h5 h6
/-- out of a transaction -/
theorem CX.of {w : World} {B : Nat} {s : TRaw} {x : LTx} (h : TxIn w B s x) : CX w B (s.cells x) x.sigs.length x.m.ins :=
  ⟨tcells_len h.m.recent, ⟨s.SA, s.sc, by rw [h.sigs.len]; rfl⟩, ⟨s.q.IA, s.q.n, s.q.ic, (tcells_m 37).trans (cells_37 h.m.recent), h.m.ins⟩, tcells_one⟩
theorem CX.zero (w : World) (B : Nat) : CX w B tzero 0 [] := CX.of (zTx_in w B)
/-- signatures of its own -/
theorem CX.sigs {w : World} {B : Nat} {cs : List Value} {ns : Nat} {l : List LIn} (h : CX w B cs ns l) (A : Option Addr) (n c : Nat) : CX w B (cs.set 0 (.slice A n c)) n l := by
  obtain ⟨A', n', c', h1, h2⟩ := h.c38
  refine ⟨by simp [h.len], ⟨A, c, by simp [h.len]⟩, ⟨A', n', c', by simpa using h1, h2⟩, fun u hu => ?_⟩
  rcases List.mem_or_eq_of_mem_set hu with hu | rfl
  · exact h.one u hu
  · rfl
/-- instructions of its own -/
theorem CX.ins {w : World} {B : Nat} {cs : List Value} {ns : Nat} {l l' : List LIn} (h : CX w B cs ns l) {A : Option Addr} {n c : Nat} (hi : InsIn w B A n l') : CX w B (cs.set 38 (.slice A n c)) ns l' := by
  obtain ⟨SA, sc, h0⟩ := h.c0
  refine ⟨by simp [h.len], ⟨SA, sc, by simpa using h0⟩, ⟨A, n, c, by simp [h.len], hi⟩, fun u hu => ?_⟩
  rcases List.mem_or_eq_of_mem_set hu with hu | rfl
  · exact h.one u hu
  · rfl
theorem built9_s (A : Option Addr) (n c : Nat) : Try.prog.built 33 [(0, .slice A n c)] = some (tzero.set 0 (.slice A n c)).toArray := by kernel_rfl
theorem built9_0 : Try.prog.built 33 [] = some tzero.toArray := by kernel_rfl
theorem built9_in (A : Option Addr) (n c : Nat) : Try.prog.built 44 [(2, .slice A n c)] = some (inCells 0 (.slice none 0 0) (.slice A n c)).toArray := by kernel_rfl
/-- a slice of two elements, as one step -/
theorem wp_buildTwo9 {P : Program} {o : Oper} {a : Act} {w : World} {K : Act → World → Prop} {Q : Exit → Act → World → Prop} (t e : TypeId) (y y' : Operand) (ho : o.op = .buildSlice t 2 #[(0, y), (1, y')])
    (cs cs' : List Value) (z : Value) (size bytes : Nat) (hu : P.underlying t = some (.slice e)) (hi : (P.info? e).map (fun i => (i.zero, i.size, i.bytes)) = some (some z, size, bytes)) (hzs : z.cells.size = size) (hs0 : 0 < size) (hs1 : size ≤ 1000)
    (hcs : cs.length = size) (hcs' : cs'.length = size) (hy : a.eval y = .agg cs.toArray) (hy' : a.eval y' = .agg cs'.toArray)
    (h : K (a.put o.dst (.slice (some ⟨w.heap.size, 0, none⟩) 2 2)) (w.alloc (.cells (cs ++ cs').toArray e))) : o.wp P a w K Q := by
  obtain ⟨ie, hie, h1, h2, _⟩ := info_parts hi
  subst h2
  refine wp_buildSlice t e 2 _ ho (cs ++ cs').toArray ie z hu hie h1 (by omega) (by omega) ?_ h
  have := Go.Great.fill_whole (s := ie.size) hs0 [Value.agg cs.toArray, Value.agg cs'.toArray] ((Array.range (2 * ie.size)).map (z.cells[· % z.cells.size]!)) (by simp [Value.cells, hcs, hcs']) (by simp)
  simpa [hy, hy', Value.cells] using this
/-- two instructions with such data, in a row -/
theorem ins_two9 {w : World} {g t B : Nat} {v v' : Value} {l l' : List Int} {p p' : Int} {a a' : Value} {m m' : List Int} (hr : Row w g t (inCells p a v ++ inCells p' a' v')) (hg : g < B) (h1 : BytesIn w B a m) (h2 : BytesIn w B v l) (h3 : BytesIn w B a' m') (h4 : BytesIn w B v' l') :
    InsIn w B (some ⟨g, 0, none⟩) 2 [⟨p, m, l⟩, ⟨p', m', l'⟩] := by
  refine ⟨rfl, fun i x hx => ?_⟩
  have hc : ∀ k, w.cell? ((⟨g, 0, none⟩ : Addr).add k) = (inCells p a v ++ inCells p' a' v')[k]? := fun k => by rw [addr_row, Nat.zero_add, hr.cell]
  match i, hx with
  | 0, hx => cases hx; exact ⟨_, a, v, rfl, hg, (hc 0).trans rfl, (hc 1).trans rfl, (hc 2).trans rfl, h1, h2⟩
  | 1, hx => cases hx; exact ⟨_, a', v', rfl, hg, (hc 3).trans rfl, (hc 4).trans rfl, (hc 5).trans rfl, h3, h4⟩
  | j + 2, hx => simp at hx
theorem bytes_row9 {w : World} {g t B n : Nat} {xs : List Int} (hr : Row w g t (bv xs)) (hg : g < B) (hl : xs.length = n) (hn : n ≤ maxLen) : BytesIn w B (.slice (some ⟨g, 0, none⟩) n n) xs := by
  subst hl
  exact ⟨some ⟨g, 0, none⟩, xs.length, rfl, ⟨bv_length xs, fun i u hu => ⟨_, rfl, hg, by rw [addr_row, Nat.zero_add, hr.cell, hu]⟩⟩, Nat.le_refl _, hn⟩
/-- the example's instructions -/
def ex9 : List LIn := [⟨0, [], List.replicate 5 0⟩, ⟨0, [], List.replicate 7 0⟩]
theorem ex9_1 : cost9 1 (dat9 ex9) 2 1000 = 2323 := by kernel_rfl
theorem ex9_2 : cost9 1 (dat9 ex9) (-9) 18446744073709551615 = 18446744073709551615 := by kernel_rfl
theorem ex9_3 : cost9 0 (dat9 []) 0 0 = 0 := by kernel_rfl
set_option maxRecDepth 100000 in
set_option maxHeartbeats 4000000 in
theorem lives9 (w : World) : Calls Try.prog 8 #[] w fun e w' => e = .returned (.bool true) ∧ Below w.heap.size w w' := by
  obtain ⟨i0, hi, hz0, hz1, hz2⟩ := info_parts info_sig
  have HE1 := Lib.hid ex9_1
  have HE2 := Lib.hid ex9_2
  have HE3 := Lib.hid ex9_3
  obtain ⟨tz, htz⟩ : ∃ tz, tz = tzero.set 0 (.slice (some ⟨w.heap.size, 0, none⟩) 1 1) := ⟨_, rfl⟩
  have HTZ := Lib.hid htz
  have HTC : Hid (∀ (V : World) B, CX V B tz 1 []) := Lib.hid fun V B => by rw [htz]; exact CX.sigs (CX.zero V B) _ _ _
  have HB9 : Try.prog.built 33 [(0, .slice (some ⟨w.heap.size, 0, none⟩) 1 1)] = some tz.toArray := by rw [htz]; exact built9_s _ _ _
  clear htz
  go_enter Try.func8, Try.ntmps8
  go_upto_region 2 with (first
    | (at_make; go_must (refine wpList_make_full _ rfl (.const (.int .i64 1)) (.const (.int .i64 1)) 22 rfl w.heap.size 41 i0 _ 64 Try.underlying22 hi hz0 hz1 .i64 .i64 1 1 1 rfl rfl rfl rfl (by rw [hz2]; omega) (by unfold maxLen; omega) (Nat.le_refl _) ?_; intro w1 hown hgrow; have hb1 := (Below.refl w.heap.size w).grown hgrow (Nat.le_refl _) (fun k hk => by cases hk)))
    | ((with_reducible show wpList _ _ _ ({ dst := some 3, op := Op.build _ _, type := _, pos := _, after := _, guard := _ } :: _) _ _); go_must (refine BigFrame.wpList_want (by kernel_rfl) fun K hK => wp_built _ _ _ rfl (by simp only [List.map_toArray, List.map_cons, List.map_nil]; exact HB9) (hK _ _ ?_)))
    | ((with_reducible show wpList _ _ _ ({ dst := none, op := Op.store 33 _ _, type := _, pos := _, after := _, guard := _ } :: _) _ _); go_must (refine wpList_store_new rfl 33 (.tmp 1) (.tmp 3) rfl tz (by rw [(HTC.out w 0).len]; exact size_tx9) (HTC.out w 0).one (by rw [(HTC.out w 0).len]; rfl) ?_ ?_ ?_; go_simp; go_simp; intro w2 hr2 hb2 hz2')))
  obtain ⟨gx, hgx⟩ : ∃ gx, gx = w1.heap.size := ⟨_, rfl⟩
  rw [← hgx] at hr2 ⊢
  obtain ⟨V, hV⟩ : ∃ V, w2.drew = V := ⟨_, rfl⟩
  have RV : Hid (Row V gx 33 tz) := Lib.hid (by rw [← hV]; exact hr2.drew)
  have BV : Hid (Below w.heap.size w V) := Lib.hid (by rw [← hV]; exact (hb1.trans (hb2.mono hb1.size)).drew)
  have GV := Lib.hid RV.out.lt
  have HG : Hid (w.heap.size ≤ gx) := Lib.hid (by rw [hgx]; exact hb1.size)
  clear hr2 hb2 hz2' hb1 hown hgrow hgx hi hz0 hz1 hz2
  refine wp_region_held_drew (S := fun _ => True) (by kernel_rfl) trivial (fun _ => ?_)
  rw [hV]
  clear hV
  obtain ⟨i0, hi, hz0, hz1, hz2⟩ := info_parts info_u8
  refine readyL2 (i := 0) (j := 2) rfl rfl (by kernel_rfl) (by kernel_rfl) (by kernel_rfl) (fun K hK => ?_) (fun K hK => ?_)
  · refine wp_make_full (.const (.int .i64 5)) (.const (.int .i64 5)) 42 rfl V.heap.size 5 i0 _ 1 Try.underlying42 hi hz0 hz1 .i64 .i64 5 rfl rfl (by rw [hz2]; omega) (by unfold maxLen; omega) (Nat.le_refl _) ?_
    intro w3 hown hgrow
    rw [made_bytes] at hown
    have hb3 := (Below.refl V.heap.size V).grown hgrow (Nat.le_refl _) (fun k hk => by cases hk)
    have D5 := Lib.hid (Row.of_ownN hown)
    clear hown hgrow
    refine hK.out _ _ trivial ?_
    clear hK K
    try simp only [Act.put, List.setIfInBounds_toArray, List.set_cons_zero, List.set_cons_succ]
    have RW3 := Lib.hid (RV.out.below hb3 RV.out.lt)
    have BW3 := Lib.hid (BV.out.trans (hb3.mono BV.out.size))
    have GZ := Lib.hid hb3.size
    refine takeL (i := 1) (v := .agg (inCells 0 (.slice none 0 0) (.slice (some ⟨V.heap.size, 0, none⟩) 5 5)).toArray) rfl (by kernel_rfl) (by kernel_rfl) (by kernel_rfl) (fun _ _ _ h => h) (Or.inl ⟨by rfl, fun wz hwz => exec_built wz _ _ _ rfl (by simp only [List.map_toArray, List.map_cons, List.map_nil]; exact built9_in _ _ _)⟩) trivial ?_
    try simp only [Act.put, List.setIfInBounds_toArray, List.set_cons_zero, List.set_cons_succ]
    refine readyL (i := 2) rfl (by kernel_rfl) (by kernel_rfl) fun K hK => ?_
    refine wp_make_full (.const (.int .i64 7)) (.const (.int .i64 7)) 42 rfl w3.heap.size 5 i0 _ 1 Try.underlying42 hi hz0 hz1 .i64 .i64 7 rfl rfl (by rw [hz2]; omega) (by unfold maxLen; omega) (Nat.le_refl _) ?_
    intro w4 hown hgrow
    rw [made_bytes] at hown
    have hb4 := (Below.refl w3.heap.size w3).grown hgrow (Nat.le_refl _) (fun k hk => by cases hk)
    have D7 := Lib.hid (Row.of_ownN hown)
    clear hown hgrow
    refine hK.out _ _ trivial ?_
    clear hK K
    try simp only [Act.put, List.setIfInBounds_toArray, List.set_cons_zero, List.set_cons_succ]
    have D5 := Lib.hid (D5.out.below hb4 D5.out.lt)
    have RW4 := Lib.hid (RW3.out.below hb4 RW3.out.lt)
    have BW4 := Lib.hid (BW3.out.trans (hb4.mono BW3.out.size))
    have GW4 := Lib.hid (Nat.lt_of_lt_of_le RW3.out.lt hb4.size)
    clear hb3 hb4 RW3 BW3
    refine takeL (i := 3) (v := .agg (inCells 0 (.slice none 0 0) (.slice (some ⟨w3.heap.size, 0, none⟩) 7 7)).toArray) rfl (by kernel_rfl) (by kernel_rfl) (by kernel_rfl) (fun _ _ _ h => h) (Or.inl ⟨by rfl, fun wz hwz => exec_built wz _ _ _ rfl (by simp only [List.map_toArray, List.map_cons, List.map_nil]; exact built9_in _ _ _)⟩) trivial ?_
    try simp only [Act.put, List.setIfInBounds_toArray, List.set_cons_zero, List.set_cons_succ]
    refine readyL (i := 4) rfl (by kernel_rfl) (by kernel_rfl) fun K hK => ?_
    refine wp_buildTwo9 28 44 (.tmp 5) (.tmp 7) rfl (inCells 0 (.slice none 0 0) (.slice (some ⟨V.heap.size, 0, none⟩) 5 5)) (inCells 0 (.slice none 0 0) (.slice (some ⟨w3.heap.size, 0, none⟩) 7 7)) _ 3 56 Try.underlying28 info_ins5 (by kernel_rfl) (by omega) (by omega) rfl rfl ?_ ?_ ?_
    · go_simp
    · go_simp
    have hb5 := (Below.refl w4.heap.size w4).alloc (Nat.le_refl _) (.cells ((inCells 0 (.slice none 0 0) (.slice (some ⟨V.heap.size, 0, none⟩) 5 5)) ++ (inCells 0 (.slice none 0 0) (.slice (some ⟨w3.heap.size, 0, none⟩) 7 7))).toArray 44)
    have I5 := Lib.hid (Row.new w4 44 ((inCells 0 (.slice none 0 0) (.slice (some ⟨V.heap.size, 0, none⟩) 5 5)) ++ (inCells 0 (.slice none 0 0) (.slice (some ⟨w3.heap.size, 0, none⟩) 7 7))))
    have E5 := Lib.hid (D5.out.below hb5 D5.out.lt)
    have E7 := Lib.hid (D7.out.below hb5 D7.out.lt)
    have RW5 := Lib.hid (RW4.out.below hb5 RW4.out.lt)
    have BW5 := Lib.hid (BW4.out.trans (hb5.mono BW4.out.size))
    have GW5 : Hid (w4.heap.size < (w4.alloc (.cells ((inCells 0 (.slice none 0 0) (.slice (some ⟨V.heap.size, 0, none⟩) 5 5)) ++ (inCells 0 (.slice none 0 0) (.slice (some ⟨w3.heap.size, 0, none⟩) 7 7))).toArray 44)).heap.size) := Lib.hid (by simp)
    refine hK.out _ _ trivial ?_
    clear hK K hb5 D5 D7 RW4 BW4
    try simp only [Act.put, List.setIfInBounds_toArray, List.set_cons_zero, List.set_cons_succ]
    generalize w4.alloc (.cells ((inCells 0 (.slice none 0 0) (.slice (some ⟨V.heap.size, 0, none⟩) 5 5)) ++ (inCells 0 (.slice none 0 0) (.slice (some ⟨w3.heap.size, 0, none⟩) 7 7))).toArray 44) = w5 at *
    refine takeL (i := 5) (v := ?_) rfl (by kernel_rfl) (by kernel_rfl) (by kernel_rfl) (fun _ _ _ h => h) (Or.inl ⟨by rfl, ?_⟩) trivial ?_
    rotate_left
    · intro w hw
      try dsimp only at hw
      go_simp
      try with_reducible rfl
    try simp only [Act.put, List.setIfInBounds_toArray, List.set_cons_zero, List.set_cons_succ]
    refine takeL (i := 6) (v := ?_) rfl (by kernel_rfl) (by kernel_rfl) (by kernel_rfl) (fun _ _ _ h => h) (Or.inl ⟨by rfl, ?_⟩) trivial ?_
    rotate_left
    · intro w hw
      try dsimp only at hw
      go_simp
      try with_reducible rfl
    try simp only [Act.put, List.setIfInBounds_toArray, List.set_cons_zero, List.set_cons_succ]
    refine readyL (i := 7) rfl (by kernel_rfl) (by kernel_rfl) fun K hK => ?_
    have f5 := RW5.out.frozen 38
    have hc5 := (RW5.out.cell 38).trans (show tz[38]? = some (tz[38]'(by rw [(HTC.out w 0).len]; omega)) from List.getElem?_eq_getElem _)
    go_simp
    refine hK.out _ _ trivial ?_
    clear hK K f5 hc5
    try simp only [Act.put, List.setIfInBounds_toArray, List.set_cons_zero, List.set_cons_succ]
    refine wpAnyH_done (by kernel_rfl) ?_ _
    obtain ⟨w6, h6⟩ : ∃ w6, w6 = w5.setCell ⟨gx, 38, none⟩ (.slice (some ⟨w4.heap.size, 0, none⟩) 2 2) := ⟨_, rfl⟩
    have ht := turned_setCell w5 ⟨gx, 38, none⟩ (.slice (some ⟨w4.heap.size, 0, none⟩) 2 2)
    have hx := RW5.out.set_ 38 (.slice (some ⟨w4.heap.size, 0, none⟩) 2 2)
    rw [← h6] at ht hx ⊢
    have RX := Lib.hid hx
    have hbel := BW5.out.trans (ht.below HG.out)
    have hz6 := ht.size
    have k5 := ht.row E5.out (show V.heap.size ≠ gx by have := GV.out; have := GZ.out; omega)
    have k7 := ht.row E7.out (show w3.heap.size ≠ gx by have := GV.out; have := GZ.out; omega)
    have ki := ht.row I5.out (show w4.heap.size ≠ gx by have := GW4.out; omega)
    have HCX : Hid (CX w6 w6.heap.size (tz.set 38 (.slice (some ⟨w4.heap.size, 0, none⟩) 2 2)) 1 ex9) := Lib.hid ((HTC.out w6 w6.heap.size).ins (c := 2) (ins_two9 ki ki.lt ((bytes_nil w6 _)) (bytes_row9 k5 k5.lt (by simp) (by unfold maxLen; omega)) ((bytes_nil w6 _)) (bytes_row9 k7 k7.lt (by simp) (by unfold maxLen; omega))))
    have HSZ := Lib.hid (show (Try.prog.info? 33).map (·.size) = some (tz.set 38 (.slice (some ⟨w4.heap.size, 0, none⟩) 2 2)).length by rw [HCX.out.len]; exact size_tx9)
    have HBL := Lib.hid hbel
    clear h6 ht hx hbel hz6 k5 k7 ki
    generalize tz.set 38 (.slice (some ⟨w4.heap.size, 0, none⟩) 2 2) = tc at *
    have HC1 := Lib.hid (HCX.out.cost (Nat.le_refl _) (by omega) (by simp [ex9]) (by decide) 2 1000 (by omega) (by omega) ⟨by decide, by decide⟩)
    rw [HE1.out] at HC1
    go_wp2_with ((with_reducible show wpList _ _ _ ({ dst := some 11, op := Op.load _ _, type := _, pos := _, after := _, guard := _ } :: _) _ _); go_must (refine wpList_load_whole rfl 33 (.tmp 1) rfl gx 33 tc _ Try.underlying33 rfl HSZ.out RX.out ?_ ?_; go_simp))
    refine HC1.out.mono ?_
    rintro e w7 ⟨rfl, hb7⟩
    have RX7 := Lib.hid (RX.out.below hb7 RX.out.lt)
    have HCX7 := Lib.hid ((HCX.out.below hb7).more hb7.size)
    have HBL7 := Lib.hid (HBL.out.trans (hb7.mono HBL.out.size))
    clear hb7 HC1 RX HCX HBL
    have HC2 := Lib.hid (HCX7.out.cost (Nat.le_refl _) (by omega) (by simp [ex9]) (by decide) (-9) 18446744073709551615 (by omega) (by omega) ⟨by decide, by decide⟩)
    rw [HE2.out] at HC2
    go_wp2_with ((with_reducible show wpList _ _ _ ({ dst := some 15, op := Op.load _ _, type := _, pos := _, after := _, guard := _ } :: _) _ _); go_must (refine wpList_load_atg (by kernel_rfl) 33 (.tmp 1) rfl ⟨gx, 0, none⟩ tc _ Try.underlying33 rfl HSZ.out (fun j v hv => by rw [addr_row, RX7.out.cell]; simpa using hv) ?_ ?_; go_simp))
    refine HC2.out.mono ?_
    rintro e w8 ⟨rfl, hb8⟩
    have HBL8 := Lib.hid (HBL7.out.trans (hb8.mono HBL7.out.size))
    clear hb8 HC2 RX7 HCX7 HBL7
    have HC3 := Lib.hid ((CX.zero w8 0).cost (Nat.zero_le _) (by omega) (by simp) (by decide) 0 0 (by omega) (by omega) ⟨by decide, by decide⟩)
    rw [HE3.out] at HC3
    go_wp2_with ((with_reducible show wpList _ _ _ ({ dst := some 20, op := Op.build _ _, type := _, pos := _, after := _, guard := _ } :: _) _ _); go_must (refine BigFrame.wpList_want (by kernel_rfl) fun K hK => wp_built _ _ _ rfl (by simp only [List.map_toArray, List.map_nil]; exact built9_0) (hK _ _ ?_)))
    refine HC3.out.mono ?_
    rintro e w9 ⟨rfl, hb9⟩
    go_wp2
    go_ret
    exact ⟨rfl, HBL8.out.trans (hb9.mono HBL8.out.size)⟩
  · refine wp_make_full (.const (.int .i64 7)) (.const (.int .i64 7)) 42 rfl V.heap.size 5 i0 _ 1 Try.underlying42 hi hz0 hz1 .i64 .i64 7 rfl rfl (by rw [hz2]; omega) (by unfold maxLen; omega) (Nat.le_refl _) ?_
    intro w3 hown hgrow
    rw [made_bytes] at hown
    have hb3 := (Below.refl V.heap.size V).grown hgrow (Nat.le_refl _) (fun k hk => by cases hk)
    have D7 := Lib.hid (Row.of_ownN hown)
    clear hown hgrow
    refine hK.out _ _ trivial ?_
    clear hK K
    try simp only [Act.put, List.setIfInBounds_toArray, List.set_cons_zero, List.set_cons_succ]
    have RW3 := Lib.hid (RV.out.below hb3 RV.out.lt)
    have BW3 := Lib.hid (BV.out.trans (hb3.mono BV.out.size))
    have GZ := Lib.hid hb3.size
    refine takeL (i := 3) (v := .agg (inCells 0 (.slice none 0 0) (.slice (some ⟨V.heap.size, 0, none⟩) 7 7)).toArray) rfl (by kernel_rfl) (by kernel_rfl) (by kernel_rfl) (fun _ _ _ h => h) (Or.inl ⟨by rfl, fun wz hwz => exec_built wz _ _ _ rfl (by simp only [List.map_toArray, List.map_cons, List.map_nil]; exact built9_in _ _ _)⟩) trivial ?_
    try simp only [Act.put, List.setIfInBounds_toArray, List.set_cons_zero, List.set_cons_succ]
    refine readyL (i := 0) rfl (by kernel_rfl) (by kernel_rfl) fun K hK => ?_
    refine wp_make_full (.const (.int .i64 5)) (.const (.int .i64 5)) 42 rfl w3.heap.size 5 i0 _ 1 Try.underlying42 hi hz0 hz1 .i64 .i64 5 rfl rfl (by rw [hz2]; omega) (by unfold maxLen; omega) (Nat.le_refl _) ?_
    intro w4 hown hgrow
    rw [made_bytes] at hown
    have hb4 := (Below.refl w3.heap.size w3).grown hgrow (Nat.le_refl _) (fun k hk => by cases hk)
    have D5 := Lib.hid (Row.of_ownN hown)
    clear hown hgrow
    refine hK.out _ _ trivial ?_
    clear hK K
    try simp only [Act.put, List.setIfInBounds_toArray, List.set_cons_zero, List.set_cons_succ]
    have D7 := Lib.hid (D7.out.below hb4 D7.out.lt)
    have RW4 := Lib.hid (RW3.out.below hb4 RW3.out.lt)
    have BW4 := Lib.hid (BW3.out.trans (hb4.mono BW3.out.size))
    have GW4 := Lib.hid (Nat.lt_of_lt_of_le RW3.out.lt hb4.size)
    clear hb3 hb4 RW3 BW3
    refine takeL (i := 1) (v := .agg (inCells 0 (.slice none 0 0) (.slice (some ⟨w3.heap.size, 0, none⟩) 5 5)).toArray) rfl (by kernel_rfl) (by kernel_rfl) (by kernel_rfl) (fun _ _ _ h => h) (Or.inl ⟨by rfl, fun wz hwz => exec_built wz _ _ _ rfl (by simp only [List.map_toArray, List.map_cons, List.map_nil]; exact built9_in _ _ _)⟩) trivial ?_
    try simp only [Act.put, List.setIfInBounds_toArray, List.set_cons_zero, List.set_cons_succ]
    refine readyL (i := 4) rfl (by kernel_rfl) (by kernel_rfl) fun K hK => ?_
    refine wp_buildTwo9 28 44 (.tmp 5) (.tmp 7) rfl (inCells 0 (.slice none 0 0) (.slice (some ⟨w3.heap.size, 0, none⟩) 5 5)) (inCells 0 (.slice none 0 0) (.slice (some ⟨V.heap.size, 0, none⟩) 7 7)) _ 3 56 Try.underlying28 info_ins5 (by kernel_rfl) (by omega) (by omega) rfl rfl ?_ ?_ ?_
    · go_simp
    · go_simp
    have hb5 := (Below.refl w4.heap.size w4).alloc (Nat.le_refl _) (.cells ((inCells 0 (.slice none 0 0) (.slice (some ⟨w3.heap.size, 0, none⟩) 5 5)) ++ (inCells 0 (.slice none 0 0) (.slice (some ⟨V.heap.size, 0, none⟩) 7 7))).toArray 44)
    have I5 := Lib.hid (Row.new w4 44 ((inCells 0 (.slice none 0 0) (.slice (some ⟨w3.heap.size, 0, none⟩) 5 5)) ++ (inCells 0 (.slice none 0 0) (.slice (some ⟨V.heap.size, 0, none⟩) 7 7))))
    have E5 := Lib.hid (D5.out.below hb5 D5.out.lt)
    have E7 := Lib.hid (D7.out.below hb5 D7.out.lt)
    have RW5 := Lib.hid (RW4.out.below hb5 RW4.out.lt)
    have BW5 := Lib.hid (BW4.out.trans (hb5.mono BW4.out.size))
    have GW5 : Hid (w4.heap.size < (w4.alloc (.cells ((inCells 0 (.slice none 0 0) (.slice (some ⟨w3.heap.size, 0, none⟩) 5 5)) ++ (inCells 0 (.slice none 0 0) (.slice (some ⟨V.heap.size, 0, none⟩) 7 7))).toArray 44)).heap.size) := Lib.hid (by simp)
    refine hK.out _ _ trivial ?_
    clear hK K hb5 D5 D7 RW4 BW4
    try simp only [Act.put, List.setIfInBounds_toArray, List.set_cons_zero, List.set_cons_succ]
    generalize w4.alloc (.cells ((inCells 0 (.slice none 0 0) (.slice (some ⟨w3.heap.size, 0, none⟩) 5 5)) ++ (inCells 0 (.slice none 0 0) (.slice (some ⟨V.heap.size, 0, none⟩) 7 7))).toArray 44) = w5 at *
    refine takeL (i := 5) (v := ?_) rfl (by kernel_rfl) (by kernel_rfl) (by kernel_rfl) (fun _ _ _ h => h) (Or.inl ⟨by rfl, ?_⟩) trivial ?_
    rotate_left
    · intro w hw
      try dsimp only at hw
      go_simp
      try with_reducible rfl
    try simp only [Act.put, List.setIfInBounds_toArray, List.set_cons_zero, List.set_cons_succ]
    refine takeL (i := 6) (v := ?_) rfl (by kernel_rfl) (by kernel_rfl) (by kernel_rfl) (fun _ _ _ h => h) (Or.inl ⟨by rfl, ?_⟩) trivial ?_
    rotate_left
    · intro w hw
      try dsimp only at hw
      go_simp
      try with_reducible rfl
    try simp only [Act.put, List.setIfInBounds_toArray, List.set_cons_zero, List.set_cons_succ]
    refine readyL (i := 7) rfl (by kernel_rfl) (by kernel_rfl) fun K hK => ?_
    have f5 := RW5.out.frozen 38
    have hc5 := (RW5.out.cell 38).trans (show tz[38]? = some (tz[38]'(by rw [(HTC.out w 0).len]; omega)) from List.getElem?_eq_getElem _)
    go_simp
    refine hK.out _ _ trivial ?_
    clear hK K f5 hc5
    try simp only [Act.put, List.setIfInBounds_toArray, List.set_cons_zero, List.set_cons_succ]
    refine wpAnyH_done (by kernel_rfl) ?_ _
    obtain ⟨w6, h6⟩ : ∃ w6, w6 = w5.setCell ⟨gx, 38, none⟩ (.slice (some ⟨w4.heap.size, 0, none⟩) 2 2) := ⟨_, rfl⟩
    have ht := turned_setCell w5 ⟨gx, 38, none⟩ (.slice (some ⟨w4.heap.size, 0, none⟩) 2 2)
    have hx := RW5.out.set_ 38 (.slice (some ⟨w4.heap.size, 0, none⟩) 2 2)
    rw [← h6] at ht hx ⊢
    have RX := Lib.hid hx
    have hbel := BW5.out.trans (ht.below HG.out)
    have hz6 := ht.size
    have k5 := ht.row E5.out (show w3.heap.size ≠ gx by have := GV.out; have := GZ.out; omega)
    have k7 := ht.row E7.out (show V.heap.size ≠ gx by have := GV.out; have := GZ.out; omega)
    have ki := ht.row I5.out (show w4.heap.size ≠ gx by have := GW4.out; omega)
    have HCX : Hid (CX w6 w6.heap.size (tz.set 38 (.slice (some ⟨w4.heap.size, 0, none⟩) 2 2)) 1 ex9) := Lib.hid ((HTC.out w6 w6.heap.size).ins (c := 2) (ins_two9 ki ki.lt ((bytes_nil w6 _)) (bytes_row9 k5 k5.lt (by simp) (by unfold maxLen; omega)) ((bytes_nil w6 _)) (bytes_row9 k7 k7.lt (by simp) (by unfold maxLen; omega))))
    have HSZ := Lib.hid (show (Try.prog.info? 33).map (·.size) = some (tz.set 38 (.slice (some ⟨w4.heap.size, 0, none⟩) 2 2)).length by rw [HCX.out.len]; exact size_tx9)
    have HBL := Lib.hid hbel
    clear h6 ht hx hbel hz6 k5 k7 ki
    generalize tz.set 38 (.slice (some ⟨w4.heap.size, 0, none⟩) 2 2) = tc at *
    have HC1 := Lib.hid (HCX.out.cost (Nat.le_refl _) (by omega) (by simp [ex9]) (by decide) 2 1000 (by omega) (by omega) ⟨by decide, by decide⟩)
    rw [HE1.out] at HC1
    go_wp2_with ((with_reducible show wpList _ _ _ ({ dst := some 11, op := Op.load _ _, type := _, pos := _, after := _, guard := _ } :: _) _ _); go_must (refine wpList_load_whole rfl 33 (.tmp 1) rfl gx 33 tc _ Try.underlying33 rfl HSZ.out RX.out ?_ ?_; go_simp))
    refine HC1.out.mono ?_
    rintro e w7 ⟨rfl, hb7⟩
    have RX7 := Lib.hid (RX.out.below hb7 RX.out.lt)
    have HCX7 := Lib.hid ((HCX.out.below hb7).more hb7.size)
    have HBL7 := Lib.hid (HBL.out.trans (hb7.mono HBL.out.size))
    clear hb7 HC1 RX HCX HBL
    have HC2 := Lib.hid (HCX7.out.cost (Nat.le_refl _) (by omega) (by simp [ex9]) (by decide) (-9) 18446744073709551615 (by omega) (by omega) ⟨by decide, by decide⟩)
    rw [HE2.out] at HC2
    go_wp2_with ((with_reducible show wpList _ _ _ ({ dst := some 15, op := Op.load _ _, type := _, pos := _, after := _, guard := _ } :: _) _ _); go_must (refine wpList_load_atg (by kernel_rfl) 33 (.tmp 1) rfl ⟨gx, 0, none⟩ tc _ Try.underlying33 rfl HSZ.out (fun j v hv => by rw [addr_row, RX7.out.cell]; simpa using hv) ?_ ?_; go_simp))
    refine HC2.out.mono ?_
    rintro e w8 ⟨rfl, hb8⟩
    have HBL8 := Lib.hid (HBL7.out.trans (hb8.mono HBL7.out.size))
    clear hb8 HC2 RX7 HCX7 HBL7
    have HC3 := Lib.hid ((CX.zero w8 0).cost (Nat.zero_le _) (by omega) (by simp) (by decide) 0 0 (by omega) (by omega) ⟨by decide, by decide⟩)
    rw [HE3.out] at HC3
    go_wp2_with ((with_reducible show wpList _ _ _ ({ dst := some 20, op := Op.build _ _, type := _, pos := _, after := _, guard := _ } :: _) _ _); go_must (refine BigFrame.wpList_want (by kernel_rfl) fun K hK => wp_built _ _ _ rfl (by simp only [List.map_toArray, List.map_nil]; exact built9_0) (hK _ _ ?_)))
    refine HC3.out.mono ?_
    rintro e w9 ⟨rfl, hb9⟩
    go_wp2
    go_ret
    exact ⟨rfl, HBL8.out.trans (hb9.mono HBL8.out.size)⟩
end Go.Proofs.Ytmpgibemmhcncaa

/-
  Of part RefWide: what is needed here.
-/
namespace Go.Proofs.Ytmpgibemmhcncaa
open Go.RowKit
set_option linter.unusedVariables false
/-- the number of digits to the base 65536, the lowest first -/
def val : List Int → Int
  | [] => 0
  | a :: t => a + 65536 * val t
/-- all are digits -/
def Digs (l : List Int) : Prop := ∀ i, 0 ≤ l.getD i 0 ∧ l.getD i 0 < 65536
/-- the lowest k digits -/
def dgs (x : Int) (k : Nat) : List Int := (List.range k).map fun i => x / 65536 ^ i % 65536
theorem dgs_len (x : Int) (k : Nat) : (dgs x k).length = k := by simp [dgs]
theorem dgs_succ (x : Int) (k : Nat) : dgs x (k + 1) = dgs x k ++ [x / 65536 ^ k % 65536] := by simp [dgs, List.range_succ]
theorem dgs_digs (x : Int) (k : Nat) : Digs (dgs x k) := by
  intro i
  rw [List.getD_eq_getElem?_getD]
  by_cases h : i < k
  · simp [dgs, h]
    omega
  · rw [List.getElem?_eq_none (by rw [dgs_len]; omega)]; simp
theorem val_four (x : Int) (h : Word x) : val (dgs x 4) = x := by
  have h1 := h.1
  have h2 := h.2
  simp [dgs, List.range, List.range.loop, val]
  omega
theorem val_set : ∀ (l : List Int) (j : Nat) (v : Int), j < l.length → val (l.set j v) = val l + (v - l.getD j 0) * 65536 ^ j
  | [], _, _, h => by simp at h
  | a :: t, 0, v, _ => by simp [val]; omega
  | a :: t, j + 1, v, h => by
    have ih := val_set t j v (by simpa using h)
    simp only [List.set_cons_succ, val, List.getD_cons_succ, ih]
    rw [Int.mul_add, Int.pow_succ, Int.mul_comm ((65536 : Int) ^ j) 65536, Int.mul_left_comm]
    omega
theorem val_take : ∀ (l : List Int) (k : Nat), k < l.length → val (l.take (k + 1)) = val (l.take k) + l.getD k 0 * 65536 ^ k
  | [], _, h => by simp at h
  | a :: t, 0, _ => by simp [val]
  | a :: t, k + 1, h => by
    have ih := val_take t k (by simpa using h)
    simp only [List.take_succ_cons, val, List.getD_cons_succ] at ih ⊢
    rw [ih, Int.mul_add, Int.pow_succ, Int.mul_comm ((65536 : Int) ^ k) 65536, Int.mul_left_comm]
    omega
theorem val_split : ∀ (l : List Int) (k : Nat), k ≤ l.length → val l = val (l.take k) + 65536 ^ k * val (l.drop k)
  | l, 0, _ => by simp [val]
  | [], k + 1, h => by simp at h
  | a :: t, k + 1, h => by
    have ih := val_split t k (by simpa using h)
    simp only [List.take_succ_cons, List.drop_succ_cons, val, ih]
    rw [Int.mul_add, Int.pow_succ, Int.mul_comm ((65536 : Int) ^ k) 65536, Int.mul_assoc]
    omega
theorem digs_tail {a : Int} {t : List Int} (h : Digs (a :: t)) : Digs t := fun i => by simpa using h (i + 1)
theorem val_in : ∀ (l : List Int), Digs l → 0 ≤ val l ∧ val l < 65536 ^ l.length
  | [], _ => by simp [val]
  | a :: t, h => by
    have ih := val_in t (digs_tail h)
    have h0 := h 0
    simp at h0
    simp only [val, List.length_cons, Int.pow_succ]
    omega
theorem digs_set {l : List Int} (h : Digs l) (j : Nat) {v : Int} (h0 : 0 ≤ v) (h1 : v < 65536) : Digs (l.set j v) := by
  intro i
  have := h i
  rw [List.getD_eq_getElem?_getD] at this ⊢
  rw [List.getElem?_set]
  split
  · split
    · simp; omega
    · simp
  · exact this
theorem digs_take {l : List Int} (h : Digs l) (k : Nat) : Digs (l.take k) := by
  intro i
  have := h i
  rw [List.getD_eq_getElem?_getD] at this ⊢
  rw [List.getElem?_take]
  split
  · exact this
  · simp
theorem digs_drop {l : List Int} (h : Digs l) (k : Nat) : Digs (l.drop k) := by
  intro i
  have := h (k + i)
  rw [List.getD_eq_getElem?_getD] at this ⊢
  rw [List.getElem?_drop]
  exact this
/-- what the rounds of the school method keep: i digits of x are done, of the next one k digits of y; c is carried -/
structure School (x y o : List Int) (i k : Nat) (c : Int) : Prop where
  len : o.length = 8
  digs : Digs o
  c0 : 0 ≤ c
  c1 : c < 65536
  zero : ∀ j, i + 4 ≤ j → o.getD j 0 = 0
  eq : val o + c * 65536 ^ (i + k) = val (x.take i) * val y + x.getD i 0 * val (y.take k) * 65536 ^ i
/-- the sum of one round -/
def round (x y o : List Int) (i k : Nat) (c : Int) : Int := o.getD (i + k) 0 + x.getD i 0 * y.getD k 0 + c
theorem round_in {x y o : List Int} {i k : Nat} {c : Int} (hx : Digs x) (hy : Digs y) (s : School x y o i k c) : 0 ≤ round x y o i k c ∧ round x y o i k c < 4294967296 ∧ 0 ≤ x.getD i 0 * y.getD k 0 ∧ x.getD i 0 * y.getD k 0 < 4294967296 ∧ 0 ≤ o.getD (i + k) 0 + x.getD i 0 * y.getD k 0 ∧ o.getD (i + k) 0 + x.getD i 0 * y.getD k 0 < 4294967296 := by
  have a := hx i
  have b := hy k
  have d := s.digs (i + k)
  have c0 := s.c0
  have c1 := s.c1
  have m0 : 0 ≤ x.getD i 0 * y.getD k 0 := Int.mul_nonneg a.1 b.1
  have m1 : x.getD i 0 * y.getD k 0 ≤ 65535 * 65535 := Int.mul_le_mul (by omega) (by omega) b.1 (by omega)
  unfold round
  omega
theorem School.next {x y o : List Int} {i k : Nat} {c : Int} (hx : Digs x) (hy : Digs y) (ly : y.length = 4) (hi : i < 4) (hk : k < 4) (s : School x y o i k c) :
    School x y (o.set (i + k) (round x y o i k c % 65536)) i (k + 1) (round x y o i k c / 65536) := by
  have b := round_in hx hy s
  refine ⟨by simp [s.len], digs_set s.digs _ (by omega) (by omega), by omega, by omega, ?_, ?_⟩
  · intro j hj
    have := s.zero j hj
    rw [List.getD_eq_getElem?_getD] at this ⊢
    rw [List.getElem?_set_ne (by omega)]
    exact this
  · have e := s.eq
    rw [val_set o _ _ (by have := s.len; omega), val_take y k (by omega)]
    have r : round x y o i k c = o.getD (i + k) 0 + x.getD i 0 * y.getD k 0 + c := rfl
    generalize round x y o i k c = R at *
    have t : R % 65536 + 65536 * (R / 65536) = R := by omega
    generalize R % 65536 = lo at *
    generalize R / 65536 = hi at *
    have p1 : hi * (65536 : Int) ^ (i + (k + 1)) = (65536 * hi) * 65536 ^ (i + k) := by
      rw [← Nat.add_assoc, Int.pow_succ, ← Int.mul_assoc, Int.mul_right_comm, Int.mul_comm hi 65536]
    have p2 : x.getD i 0 * (val (y.take k) + y.getD k 0 * 65536 ^ k) * 65536 ^ i = x.getD i 0 * val (y.take k) * 65536 ^ i + x.getD i 0 * y.getD k 0 * 65536 ^ (i + k) := by
      rw [Int.mul_add, Int.add_mul, Nat.add_comm i k, Int.pow_add, ← Int.mul_assoc, ← Int.mul_assoc]
    rw [p1, p2]
    have p3 : 65536 * hi = R - lo := by omega
    rw [p3]
    generalize x.getD i 0 * y.getD k 0 = m at *
    generalize o.getD (i + k) 0 = d at *
    generalize (65536 : Int) ^ (i + k) = P at *
    generalize val (y.take k) = Y at *
    generalize x.getD i 0 * Y * 65536 ^ i = Q at *
    rw [r, Int.sub_mul, Int.sub_mul, Int.add_mul, Int.add_mul]
    omega
theorem School.over {x y o : List Int} {i : Nat} {c : Int} (hx : Digs x) (lx : x.length = 4) (ly : y.length = 4) (hi : i < 4) (s : School x y o i 4 c) : School x y (o.set (i + 4) c) (i + 1) 0 0 := by
  refine ⟨by simp [s.len], digs_set s.digs _ s.c0 s.c1, by omega, by omega, ?_, ?_⟩
  · intro j hj
    have := s.zero j (by omega)
    rw [List.getD_eq_getElem?_getD] at this ⊢
    rw [List.getElem?_set_ne (by omega)]
    exact this
  · have e := s.eq
    rw [val_set o _ _ (by have := s.len; omega), s.zero (i + 4) (by omega), val_take x i (by omega)]
    rw [List.take_of_length_le (show y.length ≤ 4 by omega)] at e
    simp only [List.take_zero, val, Int.mul_zero, Int.zero_mul, Int.add_zero, Int.sub_zero]
    rw [e, Int.add_mul, Int.mul_right_comm]
end Go.Proofs.Ytmpgibemmhcncaa

/-
  Of part SumsWalk: what is needed here.
-/
namespace Go.Proofs.Ytmpgibemmhcncaa
open Go.RowKit
set_option linter.unusedVariables false
theorem info_u64 : (Try.prog.info? 34).map (fun i => (i.zero, i.size, i.bytes)) = some (some (.int .u64 0), 1, 8) := by kernel_rfl
theorem cv_one (k : IntKind) (zs : List Int) : ∀ u ∈ cv k zs, u.oneCell' = true := by
  intro u hu
  simp only [cv, List.mem_map] at hu
  obtain ⟨z, _, rfl⟩ := hu
  rfl
theorem cv_append (k : IntKind) (xs ys : List Int) : cv k (xs ++ ys) = cv k xs ++ cv k ys := by simp [cv]
theorem own_belowW {w w' : World} {base : Nat} {e : TypeId} {v : Value} {n : Nat} {xs : List Value} (h : w.ownsRow base e 1 v n xs) {B : Nat} (hB : w.heap.size ≤ B) (hb : Below B w w') : w'.ownsRow base e 1 v n xs := by
  refine ⟨h.1, ?_⟩
  rcases h.2 with h2 | ⟨g, cap, cur, hv, hg, hh, r⟩
  · exact .inl h2
  · have : g < w.heap.size := (Array.getElem?_eq_some_iff.1 hh).1
    exact .inr ⟨g, cap, cur, hv, hg, (hb.block g (by omega)).trans hh, r⟩
theorem Sees.drop {w : World} {B n : Nat} {A : Option Addr} {xs : List Value} (h : Sees w B A n xs) {a : Addr} (hA : A = some a) (k : Nat) : Sees w B (some (a.add k)) (n - k) (xs.drop k) :=
  ⟨by have := h.len; simp; omega, fun i u hu => by
    rw [List.getElem?_drop] at hu
    obtain ⟨a', e, hb, hc⟩ := h.cell _ u hu
    rw [hA] at e
    cases e
    exact ⟨_, rfl, by rw [addr_block]; exact hb, by rw [addr_add]; exact hc⟩⟩
theorem Sees.take {w : World} {B n : Nat} {A : Option Addr} {xs : List Value} (h : Sees w B A n xs) (k : Nat) (hk : k ≤ n) : Sees w B A k (xs.take k) :=
  ⟨by have := h.len; simp; omega, fun i u hu => by
    rw [List.getElem?_take] at hu
    split at hu
    · exact h.cell i u hu
    · cases hu⟩
theorem sum_app (xs ys : List Int) : (xs ++ ys).sum = xs.sum + ys.sum := by simp
end Go.Proofs.Ytmpgibemmhcncaa
