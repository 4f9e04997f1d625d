/-
  The reference's products: digits to the base 65536, over no program first.
-/
import Derived.Test.YtlmoehfgbhfhfaaSum
import Derived.Test.YtlmoehfgbhfhfaaAppend
import Derived.Deep.QuietTactic
import Derived.BigQuiet
import Derived.Deep.RegionWith
namespace Go.Proofs.Ytlmoehfgbhfhfaa
open Go.RowKit
set_option linter.unusedVariables false

/-- the number of digits to the base 65536, the lowest first -/
def val : List Int → Int
  | [] => 0
  | a :: t => a + 65536 * val t
/-- all are digits -/
def Digs (l : List Int) : Prop := ∀ i, 0 ≤ l.getD i 0 ∧ l.getD i 0 < 65536
/-- the lowest k digits -/
def dgs (x : Int) (k : Nat) : List Int := (List.range k).map fun i => x / 65536 ^ i % 65536

theorem dgs_len (x : Int) (k : Nat) : (dgs x k).length = k := by simp [dgs]
theorem dgs_succ (x : Int) (k : Nat) : dgs x (k + 1) = dgs x k ++ [x / 65536 ^ k % 65536] := by simp [dgs, List.range_succ]
theorem dgs_digs (x : Int) (k : Nat) : Digs (dgs x k) := by
  intro i
  rw [List.getD_eq_getElem?_getD]
  by_cases h : i < k
  · simp [dgs, h]
    omega
  · rw [List.getElem?_eq_none (by rw [dgs_len]; omega)]; simp
theorem val_four (x : Int) (h : Word x) : val (dgs x 4) = x := by
  have h1 := h.1
  have h2 := h.2
  simp [dgs, List.range, List.range.loop, val]
  omega

theorem val_set : ∀ (l : List Int) (j : Nat) (v : Int), j < l.length → val (l.set j v) = val l + (v - l.getD j 0) * 65536 ^ j
  | [], _, _, h => by simp at h
  | a :: t, 0, v, _ => by simp [val]; omega
  | a :: t, j + 1, v, h => by
    have ih := val_set t j v (by simpa using h)
    simp only [List.set_cons_succ, val, List.getD_cons_succ, ih]
    rw [Int.mul_add, Int.pow_succ, Int.mul_comm ((65536 : Int) ^ j) 65536, Int.mul_left_comm]
    omega
theorem val_take : ∀ (l : List Int) (k : Nat), k < l.length → val (l.take (k + 1)) = val (l.take k) + l.getD k 0 * 65536 ^ k
  | [], _, h => by simp at h
  | a :: t, 0, _ => by simp [val]
  | a :: t, k + 1, h => by
    have ih := val_take t k (by simpa using h)
    simp only [List.take_succ_cons, val, List.getD_cons_succ] at ih ⊢
    rw [ih, Int.mul_add, Int.pow_succ, Int.mul_comm ((65536 : Int) ^ k) 65536, Int.mul_left_comm]
    omega
theorem val_split : ∀ (l : List Int) (k : Nat), k ≤ l.length → val l = val (l.take k) + 65536 ^ k * val (l.drop k)
  | l, 0, _ => by simp [val]
  | [], k + 1, h => by simp at h
  | a :: t, k + 1, h => by
    have ih := val_split t k (by simpa using h)
    simp only [List.take_succ_cons, List.drop_succ_cons, val, ih]
    rw [Int.mul_add, Int.pow_succ, Int.mul_comm ((65536 : Int) ^ k) 65536, Int.mul_assoc]
    omega
theorem digs_tail {a : Int} {t : List Int} (h : Digs (a :: t)) : Digs t := fun i => by simpa using h (i + 1)
theorem val_in : ∀ (l : List Int), Digs l → 0 ≤ val l ∧ val l < 65536 ^ l.length
  | [], _ => by simp [val]
  | a :: t, h => by
    have ih := val_in t (digs_tail h)
    have h0 := h 0
    simp at h0
    simp only [val, List.length_cons, Int.pow_succ]
    omega
theorem digs_set {l : List Int} (h : Digs l) (j : Nat) {v : Int} (h0 : 0 ≤ v) (h1 : v < 65536) : Digs (l.set j v) := by
  intro i
  have := h i
  rw [List.getD_eq_getElem?_getD] at this ⊢
  rw [List.getElem?_set]
  split
  · split
    · simp; omega
    · simp
  · exact this
theorem digs_take {l : List Int} (h : Digs l) (k : Nat) : Digs (l.take k) := by
  intro i
  have := h i
  rw [List.getD_eq_getElem?_getD] at this ⊢
  rw [List.getElem?_take]
  split
  · exact this
  · simp
theorem digs_drop {l : List Int} (h : Digs l) (k : Nat) : Digs (l.drop k) := by
  intro i
  have := h (k + i)
  rw [List.getD_eq_getElem?_getD] at this ⊢
  rw [List.getElem?_drop]
  exact this
theorem digs_words {l : List Int} (h : Digs l) : ∀ z ∈ l, Word z := by
  intro z hz
  obtain ⟨i, hi, rfl⟩ := List.getElem_of_mem hz
  have := h i
  rw [List.getD_eq_getElem?_getD, List.getElem?_eq_getElem hi] at this
  exact ⟨this.1, by have := this.2; simp at this; omega⟩

/-- what the rounds of the school method keep: i digits of x are done, of the next one k digits of y; c is carried -/
structure School (x y o : List Int) (i k : Nat) (c : Int) : Prop where
  len : o.length = 8
  digs : Digs o
  c0 : 0 ≤ c
  c1 : c < 65536
  zero : ∀ j, i + 4 ≤ j → o.getD j 0 = 0
  eq : val o + c * 65536 ^ (i + k) = val (x.take i) * val y + x.getD i 0 * val (y.take k) * 65536 ^ i

/-- the sum of one round -/
def round (x y o : List Int) (i k : Nat) (c : Int) : Int := o.getD (i + k) 0 + x.getD i 0 * y.getD k 0 + c

theorem round_in {x y o : List Int} {i k : Nat} {c : Int} (hx : Digs x) (hy : Digs y) (s : School x y o i k c) : 0 ≤ round x y o i k c ∧ round x y o i k c < 4294967296 ∧ 0 ≤ x.getD i 0 * y.getD k 0 ∧ x.getD i 0 * y.getD k 0 < 4294967296 ∧ 0 ≤ o.getD (i + k) 0 + x.getD i 0 * y.getD k 0 ∧ o.getD (i + k) 0 + x.getD i 0 * y.getD k 0 < 4294967296 := by
  have a := hx i
  have b := hy k
  have d := s.digs (i + k)
  have c0 := s.c0
  have c1 := s.c1
  have m0 : 0 ≤ x.getD i 0 * y.getD k 0 := Int.mul_nonneg a.1 b.1
  have m1 : x.getD i 0 * y.getD k 0 ≤ 65535 * 65535 := Int.mul_le_mul (by omega) (by omega) b.1 (by omega)
  unfold round
  omega

theorem School.next {x y o : List Int} {i k : Nat} {c : Int} (hx : Digs x) (hy : Digs y) (ly : y.length = 4) (hi : i < 4) (hk : k < 4) (s : School x y o i k c) :
    School x y (o.set (i + k) (round x y o i k c % 65536)) i (k + 1) (round x y o i k c / 65536) := by
  have b := round_in hx hy s
  refine ⟨by simp [s.len], digs_set s.digs _ (by omega) (by omega), by omega, by omega, ?_, ?_⟩
  · intro j hj
    have := s.zero j hj
    rw [List.getD_eq_getElem?_getD] at this ⊢
    rw [List.getElem?_set_ne (by omega)]
    exact this
  · have e := s.eq
    rw [val_set o _ _ (by have := s.len; omega), val_take y k (by omega)]
    have r : round x y o i k c = o.getD (i + k) 0 + x.getD i 0 * y.getD k 0 + c := rfl
    generalize round x y o i k c = R at *
    have t : R % 65536 + 65536 * (R / 65536) = R := by omega
    generalize R % 65536 = lo at *
    generalize R / 65536 = hi at *
    have p1 : hi * (65536 : Int) ^ (i + (k + 1)) = (65536 * hi) * 65536 ^ (i + k) := by
      rw [← Nat.add_assoc, Int.pow_succ, ← Int.mul_assoc, Int.mul_right_comm, Int.mul_comm hi 65536]
    have p2 : x.getD i 0 * (val (y.take k) + y.getD k 0 * 65536 ^ k) * 65536 ^ i = x.getD i 0 * val (y.take k) * 65536 ^ i + x.getD i 0 * y.getD k 0 * 65536 ^ (i + k) := by
      rw [Int.mul_add, Int.add_mul, Nat.add_comm i k, Int.pow_add, ← Int.mul_assoc, ← Int.mul_assoc]
    rw [p1, p2]
    have p3 : 65536 * hi = R - lo := by omega
    rw [p3]
    generalize x.getD i 0 * y.getD k 0 = m at *
    generalize o.getD (i + k) 0 = d at *
    generalize (65536 : Int) ^ (i + k) = P at *
    generalize val (y.take k) = Y at *
    generalize x.getD i 0 * Y * 65536 ^ i = Q at *
    rw [r, Int.sub_mul, Int.sub_mul, Int.add_mul, Int.add_mul]
    omega

theorem School.over {x y o : List Int} {i : Nat} {c : Int} (hx : Digs x) (lx : x.length = 4) (ly : y.length = 4) (hi : i < 4) (s : School x y o i 4 c) : School x y (o.set (i + 4) c) (i + 1) 0 0 := by
  refine ⟨by simp [s.len], digs_set s.digs _ s.c0 s.c1, by omega, by omega, ?_, ?_⟩
  · intro j hj
    have := s.zero j (by omega)
    rw [List.getD_eq_getElem?_getD] at this ⊢
    rw [List.getElem?_set_ne (by omega)]
    exact this
  · have e := s.eq
    rw [val_set o _ _ (by have := s.len; omega), s.zero (i + 4) (by omega), val_take x i (by omega)]
    rw [List.take_of_length_le (show y.length ≤ 4 by omega)] at e
    simp only [List.take_zero, val, Int.mul_zero, Int.zero_mul, Int.add_zero, Int.sub_zero]
    rw [e, Int.add_mul, Int.mul_right_comm]
end Go.Proofs.Ytlmoehfgbhfhfaa
