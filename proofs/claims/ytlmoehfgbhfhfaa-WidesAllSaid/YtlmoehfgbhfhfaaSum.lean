/-
  wides.Sum: numbers together, held; each comes to what was there by the closure.
-/
import Derived.Test.YtlmoehfgbhfhfaaWideMul
import Derived.Test.YtlmoehfgbhfhfaaRow
import Derived.Below
import Derived.Laws.NewBlocks
namespace Go.Proofs.Ytlmoehfgbhfhfaa
open Go.RowKit
set_option linter.unusedVariables false

/-- held at the greatest -/
def cap (x : Int) : Int := if 18446744073709551615 < x then 18446744073709551615 else x
/-- what numbers come to, held -/
def held (zs : List Int) : Int := cap zs.sum

theorem cap_word {x : Int} (h : 0 ≤ x) : Word (cap x) := by unfold cap; split <;> exact ⟨by omega, by omega⟩
theorem cap_add {x y : Int} (h : 0 ≤ y) : cap (cap x + y) = cap (x + y) := by unfold cap; repeat' split <;> omega
theorem sum_nonneg {zs : List Int} (h : ∀ z ∈ zs, Word z) : 0 ≤ zs.sum := by
  induction zs with
  | nil => simp
  | cons a t ih =>
    have := (h a (by simp)).1
    have := ih (fun z hz => h z (by simp [hz]))
    simp; omega
theorem held_word {zs : List Int} (h : ∀ z ∈ zs, Word z) : Word (held zs) := cap_word (sum_nonneg h)
theorem sum_take (zs : List Int) (j : Nat) (h : j < zs.length) : (zs.take (j + 1)).sum = (zs.take j).sum + zs.getD j 0 := by
  rw [List.take_succ_eq_append_getElem h, List.sum_append, List.getD_eq_getElem?_getD, List.getElem?_eq_getElem h]
  simp
theorem word_getD {zs : List Int} (h : ∀ z ∈ zs, Word z) (j : Nat) : Word (zs.getD j 0) := by
  rw [List.getD_eq_getElem?_getD]
  by_cases hi : j < zs.length
  · rw [List.getElem?_eq_getElem hi]
    exact h _ (List.getElem_mem hi)
  · rw [List.getElem?_eq_none (by omega)]; exact ⟨by simp, by simp⟩
theorem word_take {zs : List Int} (h : ∀ z ∈ zs, Word z) (j : Nat) : ∀ z ∈ zs.take j, Word z := fun z hz => h z (List.mem_of_mem_take hz)
theorem held_take {zs : List Int} (h : ∀ z ∈ zs, Word z) (j : Nat) (hj : j < zs.length) : held (zs.take (j + 1)) = cap (held (zs.take j) + zs.getD j 0) := by
  unfold held
  rw [sum_take zs j hj, cap_add (word_getD h j).1]

theorem cv_at {k : IntKind} {zs : List Int} {i : Nat} (h : i < zs.length) : (cv k zs)[i]? = some (.int k (zs.getD i 0)) := by
  rw [show (cv k zs)[i]? = zs[i]?.map (Value.int k) by simp [cv], List.getD_eq_getElem?_getD, List.getElem?_eq_getElem h]; rfl
theorem Sees.num {w : World} {B n : Nat} {A : Option Addr} {k : IntKind} {zs : List Int} {i : Nat} (h : Sees w B A n (cv k zs)) (hi : i < n) : ∃ a, A = some a ∧ a.block < B ∧ w.cell? (a.add i) = some (.int k (zs.getD i 0)) := by
  obtain ⟨a, u, e, hb, hx, hc⟩ := h.at_ hi
  have hl : i < zs.length := by have := h.len; rw [cv_length] at this; omega
  rw [cv_at hl] at hx
  cases hx
  exact ⟨a, e, hb, hc⟩

/-- the closure -/
theorem add_ (x a : Int) (B : Nat) (w : World) (hx : Word x) (ha : Word a) (hr : Row w B 22 [.int .u64 a]) :
    Calls Try.prog 18 #[.int .u64 x, .pointer (some ⟨B, 0, none⟩)] w fun e w' => e = .returned (.tuple #[]) ∧ w' = w.setCell ⟨B, 0, none⟩ (.int .u64 (cap (a + x))) := by
  have c0 := hr.cell 0
  have f0 := hr.frozen 0
  simp at c0
  have s1 := add64 a x ha hx
  by_cases h : 18446744073709551615 < a + x
  · have e1 : (a + x) / 18446744073709551616 = 1 := by have := ha.2; have := hx.2; omega
    have e2 := Lib.hid (show cap (a + x) = 18446744073709551615 by unfold cap; rw [if_pos h])
    rw [e1] at s1
    clear e1 h
    go_enter Try.func18, Try.ntmps18
    go_wp2_with (simp only [s1])
    go_end0
    rw [e2.out]
    exact ⟨rfl, rfl⟩
  · have e1 : (a + x) / 18446744073709551616 = 0 := by have := ha.1; have := hx.1; omega
    have e3 : (a + x) % 18446744073709551616 = a + x := by have := ha.1; have := hx.1; omega
    have e2 := Lib.hid (show cap (a + x) = a + x by unfold cap; rw [if_neg h])
    rw [e1, e3] at s1
    clear e1 h e3
    go_enter Try.func18, Try.ntmps18
    go_wp2_with (simp only [s1])
    go_end0
    rw [e2.out]
    exact ⟨rfl, rfl⟩

set_option maxHeartbeats 1000000 in
theorem sum_ (A : Option Addr) (n c : Nat) (zs : List Int) (w : World) (S : Nat) (hx : Sees w S A n (cv .u64 zs)) (hS : S ≤ w.heap.size) (hn : n ≤ maxLen) (hz : ∀ z ∈ zs, Word z) :
    Calls Try.prog 12 #[.slice A n c] w fun e w' => e = .returned (.int .u64 (held zs)) ∧ Below w.heap.size w w' := by
  unfold maxLen at hn
  have lx := Lib.hid (show zs.length = n by have := hx.len; rwa [cv_length] at this)
  have hx := hx.more hS
  have b0 : Below w.heap.size w (w.alloc (.cells #[.int .u64 0] 22)) := (Below.refl _ _).alloc (Nat.le_refl _) _
  have R0 := Row.new w 22 [.int .u64 0]
  generalize hB : w.heap.size = B at *
  go_enter Try.func12, Try.ntmps12
  go_wp2
  go_loopw [6, 10] (fun _ i wr => ∃ j : Nat, j ≤ n ∧ i = .int .i64 j ∧ Row wr B 22 [.int .u64 (held (zs.take j))] ∧ Below B w wr) (fun _ i _ => n - (intOf i).toNat)
  case atStart => exact ⟨0, Nat.zero_le _, rfl, by simpa [held, cap] using R0, b0⟩
  case round =>
    obtain ⟨j, hj, rfl, hr, hbr⟩ := hrel
    by_cases hlt : j < n
    · obtain ⟨a, rfl, ha, hca⟩ := (hx.below hbr).num hlt
      have wz := word_getD hz j
      have E := Lib.hid (held_take hz j (by have := lx.out; omega))
      have C := add_ (zs.getD j 0) (held (zs.take j)) B wr wz (held_word (word_take hz j)) hr
      have M := Lib.hid hr
      clear hr wz
      generalize zs.getD j 0 = z at *
      generalize held (zs.take j) = hd at *
      go_wp2_with fail
      refine C.mono ?_
      rintro e w1 ⟨rfl, rfl⟩
      have R1 := M.out.set_ 0 (.int .u64 (cap (hd + z)))
      rw [← E.out] at R1
      go_wp2
      go_roundw
      case rel =>
        refine ⟨j + 1, by omega, by go_num, ?_, hbr.setCell (Nat.le_refl _) _⟩
        rw [E.out] at R1 ⊢
        exact R1
      case measure => simp [intOf]; omega
    · have hj : j = n := by omega
      have hn : ¬ n < n := by omega
      subst hj
      have E := Lib.hid (show held (zs.take j) = held zs by rw [List.take_of_length_le (by have := lx.out; omega)])
      have c0 := hr.cell 0
      simp at c0
      clear hr
      go_wp2
      go_ret
      rw [E.out]
      exact ⟨rfl, hbr⟩
end Go.Proofs.Ytlmoehfgbhfhfaa
