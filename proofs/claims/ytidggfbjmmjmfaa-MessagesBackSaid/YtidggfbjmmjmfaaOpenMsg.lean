/-
  A message that came in: how it lies in memory, out of the form's own reading.
-/
import Derived.Test.YtidggfbjmmjmfaaCameIn
import Derived.Test.YtidggfbjmmjmfaaGreat
import Derived.Test.YtidggfbjmmjmfaaIsIn
import Derived.Deep.Slices
import Derived.Deep.Strs
import Derived.SizedLaws
namespace Go.Proofs.Ytidggfbjmmjmfaa
open Go.ChangeShapes Go.WideShapes Go.RowKit
set_option linter.unusedVariables false

theorem list_of {α : Type} {p : Nat → α → Prop} : ∀ (n : Nat), (∀ i, i < n → ∃ x, p i x) → ∃ l : List α, l.length = n ∧ ∀ i x, l[i]? = some x → p i x
  | 0, _ => ⟨[], rfl, fun i x h => by simp at h⟩
  | n + 1, h => by
    obtain ⟨l, hl, hp⟩ := list_of n fun i hi => h i (by omega)
    obtain ⟨x, hx⟩ := h n (Nat.lt_succ_self _)
    refine ⟨l ++ [x], by simp [hl], fun i y hy => ?_⟩
    by_cases hi : i < n
    · rw [List.getElem?_append_left (by omega)] at hy
      exact hp i y hy
    · rw [List.getElem?_append_right (by omega)] at hy
      have h1 := (List.getElem?_eq_some_iff.1 hy).1
      simp at h1
      have : i = n := by omega
      subst this
      rw [show i - l.length = 0 by omega] at hy
      simp at hy
      exact hy ▸ hx

theorem KeysIn.of_at {w : World} {B : Nat} {A : Option Addr} {n : Nat} {l : List (List Int)} (hn : l.length = n) (h : ∀ (i : Nat) x, l[i]? = some x → x.length = 32 ∧ ∃ a, A = some a ∧ a.block < B ∧ ∀ j u, (bv x)[j]? = some u → w.cell? (a.add (i * 32 + j)) = some u) : KeysIn w B A n l := by
  have he : ∀ k ∈ l, k.length = 32 := fun k hk => by
    obtain ⟨i, hi, rfl⟩ := List.getElem_of_mem hk
    exact (h i _ (List.getElem?_eq_getElem hi)).1
  have hf : l.flatten.length = n * 32 := by
    rw [← hn]
    clear hn h
    induction l with
    | nil => rfl
    | cons y r ih =>
      have h1 := ih (fun k hk => he k (by simp [hk]))
      have h2 := he y (by simp)
      simp only [List.flatten_cons, List.length_append, List.length_cons, h1, h2]
      omega
  refine ⟨hn, he, ⟨by rw [bv_length]; exact hf, fun i u hu => ?_⟩⟩
  have hi := (List.getElem?_eq_some_iff.1 hu).1
  rw [bv_length, hf] at hi
  have hk : i / 32 < l.length := by omega
  obtain ⟨h1, a, rfl, h2, h3⟩ := h (i / 32) _ (List.getElem?_eq_getElem hk)
  refine ⟨_, rfl, h2, ?_⟩
  have hlt : i % 32 < (bv l[i / 32]).length := by rw [bv_length, h1]; omega
  obtain ⟨u', hu'⟩ : ∃ u', (bv l[i / 32])[i % 32]? = some u' := ⟨_, List.getElem?_eq_getElem hlt⟩
  have h4 := h3 _ _ hu'
  rw [show i / 32 * 32 + i % 32 = i by omega] at h4
  rw [h4]
  rw [bv_getElem?] at hu hu'
  obtain ⟨z', hz', rfl⟩ : ∃ z, (l[i / 32])[i % 32]? = some z ∧ u' = .int .u8 z := by
    cases hq : (l[i / 32])[i % 32]? with
    | none => rw [hq] at hu'; simp at hu'
    | some z => rw [hq] at hu'; exact ⟨z, rfl, by simpa using hu'.symm⟩
  have h5 := flatten_at 32 l (i / 32) _ (fun i y hy => he y (List.mem_of_getElem? hy)) (List.getElem?_eq_getElem hk) (i % 32) z' hz'
  rw [show i / 32 * 32 + i % 32 = i by omega] at h5
  rw [h5] at hu
  exact hu

theorem byte_wf {z : Int} (h : (Lit.int .u8 z).wf = true) : IsByte z := by
  have := bounds_u8 h
  unfold IsByte
  omega

section
variable {H : Type} {enc : TypeId × Value → H}
/-- no list in it is longer than the form's reach -/
def Wt (t : TypeId) (d : DataW H) : Prop := ∀ n ∈ d.weights Try.prog t, n ≤ reachBytes
theorem wt_all {e : TypeId} : ∀ {l : List (DataW H)}, (∀ n ∈ DataW.weightsAll Try.prog e l, n ≤ reachBytes) → ∀ d ∈ l, Wt e d
  | [], _, d, hd => by simp at hd
  | y :: r, h, d, hd => by
    rcases List.mem_cons.1 hd with rfl | hd
    · exact fun n hn => h n (by simp [DataW.weightsAll, hn])
    · exact wt_all (l := r) (fun n hn => h n (by simp [DataW.weightsAll, hn])) d hd

variable {w : World} {base : Nat} {held : Bool}
theorem open_sl {t e : TypeId} {fuel : Nat} {cs : List Value} {x : DataW H × List MemPlace} (ht : Try.prog.underlying t = some (.slice e)) (hc : 0 < Try.prog.cellsOf e)
    (h : DataW.trod enc Try.prog w base (fun _ => true) held fuel t cs = some x) (hw : Wt t x.1) :
    ∃ A n c, cs = [.slice A n c] ∧ n ≤ c ∧ c ≤ maxLen ∧ n * Try.prog.bytesOf e ≤ reachBytes ∧ ∀ i, i < n → ∃ a cs' y m, A = some a ∧ a.block < w.heap.size ∧ cs'.length = Try.prog.cellsOf e ∧
      (∀ j u, cs'[j]? = some u → w.cell? (a.add (i * Try.prog.cellsOf e + j)) = some u) ∧ DataW.trod enc Try.prog w base (fun _ => true) held m e cs' = some y ∧ Wt e y.1 := by
  rcases Go.Deep.open_slice ht h with ⟨rfl, rfl⟩ | ⟨a, len, cap, m, n, D, Pl, rfl, hb, hl, hm, hmm, rfl, hx⟩
  · exact ⟨none, 0, 0, rfl, Nat.le_refl _, Nat.zero_le _, by simp, fun i hi => by omega⟩
  · have hm' : m = cap := by simpa using hmm
    have h1 : ((len + (m - len)) * Try.prog.bytesOf e) ≤ reachBytes := by
      refine hw _ ?_
      simp [DataW.weights, ht]
    have h2 : ∀ d ∈ (List.range len).map D, Wt e d := wt_all fun n hn => hw n (by simp only [DataW.weights, ht]; simp [hn])
    refine ⟨some a, len, cap, rfl, hl, hm, Nat.le_trans (Nat.mul_le_mul_right _ (by omega)) h1, fun i hi => ?_⟩
    obtain ⟨cs', hcs, htr⟩ := hx i (by omega)
    have hbl := World.cells?_block hcs hc
    obtain ⟨_, hlen, hat⟩ := World.cells?_some hcs
    refine ⟨a, cs', _, n, rfl, by rwa [addr_block] at hbl, hlen, fun j u hu => ?_, htr, h2 _ (by simp; exact ⟨i, hi, rfl⟩)⟩
    have := hat j (by have := (List.getElem?_eq_some_iff.1 hu).1; omega)
    rw [addr_add] at this
    rw [this, hu]

theorem cellsU8 : Try.prog.cellsOf 5 = 1 := by kernel_rfl
theorem bytesU8 : Try.prog.bytesOf 5 = 1 := by kernel_rfl
theorem cellsKey : Try.prog.cellsOf 53 = 32 := by kernel_rfl
theorem bytesKey : Try.prog.bytesOf 53 = 32 := by kernel_rfl
theorem cellsHash : Try.prog.cellsOf 26 = 32 := by kernel_rfl
theorem cellsIn : Try.prog.cellsOf 52 = 3 := by kernel_rfl
theorem bytesIn : Try.prog.bytesOf 52 = 56 := by kernel_rfl
theorem cellsLook : Try.prog.cellsOf 55 = 34 := by kernel_rfl
theorem bytesLook : Try.prog.bytesOf 55 = 80 := by kernel_rfl
theorem cellsBs : Try.prog.cellsOf 34 = 1 := by kernel_rfl
theorem reach47 : reachBytes ≤ 140737488355328 := by decide

theorem open_bytes {fuel : Nat} {v : Value} {x : DataW H × List MemPlace} (h : DataW.trod enc Try.prog w base (fun _ => true) held fuel 34 [v] = some x) (hw : Wt 34 x.1) :
    ∃ l, BytesIn w w.heap.size v l ∧ AllBytes l ∧ l.length ≤ 140737488355328 := by
  obtain ⟨A, n, c, hcs, h1, h2, h3, h4⟩ := open_sl Try.underlying34 (by rw [cellsU8]; omega) h hw
  obtain rfl : v = .slice A n c := by simpa using hcs
  rw [bytesU8] at h3
  have := reach47
  obtain ⟨l, hl, hp⟩ := list_of (α := Int) (p := fun i z => IsByte z ∧ ∃ a, A = some a ∧ a.block < w.heap.size ∧ w.cell? (a.add i) = some (.int .u8 z)) n fun i hi => by
    obtain ⟨a, cs', y, m, e1, e2, e3, e4, e5, _⟩ := h4 i hi
    obtain ⟨z, rfl, _, hz⟩ := DataW.trod_int Try.underlying5 e5
    have := e4 0 _ rfl
    rw [cellsU8, Nat.mul_one, Nat.add_zero] at this
    exact ⟨z, byte_wf hz, a, e1, e2, this⟩
  subst hl
  refine ⟨l, ⟨A, c, rfl, ⟨bv_length _, fun i u hu => ?_⟩, h1, h2⟩, fun z hz => ?_, by omega⟩
  · rw [bv_getElem?] at hu
    cases hq : l[i]? with
    | none => rw [hq] at hu; simp at hu
    | some z =>
      rw [hq] at hu
      obtain ⟨_, a, e1, e2, e3⟩ := hp i z hq
      obtain rfl : Value.int .u8 z = u := by simpa using hu
      exact ⟨a, e1, e2, e3⟩
  · obtain ⟨i, hi, rfl⟩ := List.getElem_of_mem hz
    exact (hp i _ (List.getElem?_eq_getElem hi)).1

theorem open_32 {t : TypeId} {fuel : Nat} {cs : List Value} {x : DataW H × List MemPlace} (ht : Try.prog.underlying t = some (.array 32 5)) (hc : Try.prog.cellsOf t = 32) (h : DataW.trod enc Try.prog w base (fun _ => true) held fuel t cs = some x) :
    ∃ l : List Int, cs = bv l ∧ l.length = 32 ∧ AllBytes l := by
  obtain ⟨xs, m, _, _, hl, hxs, hat⟩ := DataW.trod_array ht h
  obtain ⟨l, hll, hp⟩ := list_of (α := Int) (p := fun i z => IsByte z ∧ cs[i]? = some (.int .u8 z)) 32 fun i hi => by
    have h1 := hat i hi
    have hx : xs[i]? = some xs[i] := List.getElem?_eq_getElem (by omega)
    rw [cellsU8, hx] at h1
    obtain ⟨z, hz, _, hwz⟩ := DataW.trod_int Try.underlying5 h1
    refine ⟨z, byte_wf hwz, ?_⟩
    have := congrArg List.head? hz
    simpa [List.head?_take] using this
  rw [hc] at hl
  refine ⟨l, List.ext_getElem? fun i => ?_, hll, fun z hz => ?_⟩
  · by_cases hi : i < 32
    · have e := List.getElem?_eq_getElem (l := l) (i := i) (by omega)
      rw [bv_getElem?, e, (hp i _ e).2]
      rfl
    · rw [List.getElem?_eq_none (by omega), List.getElem?_eq_none (by rw [bv_length]; omega)]
  · obtain ⟨i, hi, rfl⟩ := List.getElem_of_mem hz
    exact (hp i _ (List.getElem?_eq_getElem hi)).1
end
end Go.Proofs.Ytidggfbjmmjmfaa
