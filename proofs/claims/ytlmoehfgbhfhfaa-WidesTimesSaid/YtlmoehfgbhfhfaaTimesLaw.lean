/-
  The law on divided products: its arithmetic.
-/
import Derived.Test.YtlmoehfgbhfhfaaLives2
namespace Go.Proofs.Ytlmoehfgbhfhfaa
open Go.RowKit
set_option linter.unusedVariables false

theorem times_word (a b d : Int) (up : Bool) (ha : Word a) (hb : Word b) (hd : Word d) : Word (times a b d up) := by
  unfold times
  have p := word_prod ha hb
  split
  · exact ⟨by omega, by omega⟩
  · next h =>
    obtain ⟨q, _, _⟩ := quot_word p.1 h
    split
    · exact cap_word (by have := q.1; omega)
    · exact q

theorem times_zero (a b : Int) (up : Bool) (ha : Word a) (hb : Word b) : times a b 0 up = 18446744073709551615 := by
  have := (word_hi ha hb).1
  unfold times
  rw [if_pos this]

/-- a product divided by one of its parts -/
theorem times_part (a d : Int) (up : Bool) (ha : Word a) (hd : Word d) (h : d ≠ 0) : times a d d up = a := by
  have h0 : 0 < d := by have := hd.1; omega
  have e : a * d / d = a := Int.mul_ediv_cancel _ h
  have r : a * d % d = 0 := Int.mul_emod_left _ _
  have l : a * d / 18446744073709551616 < d := Int.ediv_lt_of_lt_mul (by omega) (by
    rw [Int.mul_comm a d]
    exact Int.mul_lt_mul_of_pos_left ha.2 h0)
  unfold times
  rw [if_neg (by omega), if_neg (by omega), e]

/-- all the ways in which the law can go, d not 0: h and l the product's words, x and y those of n times d, r what is left -/
theorem law_ways (a b d : Int) (ha : Word a) (hb : Word b) (hd : Word d) (hd0 : d ≠ 0) :
    ∃ h l n u x y r : Int, a * b / 18446744073709551616 = h ∧ a * b % 18446744073709551616 = l ∧ times a b d false = n ∧ times a b d true = u ∧ n * d / 18446744073709551616 = x ∧ n * d % 18446744073709551616 = y ∧ IntKind.u64.wrap (l - y) = r ∧
      Word n ∧ Word u ∧
      ((n = 18446744073709551615 ∧ u = 18446744073709551615 ∧ r ≠ -1 ∧
          ((x = h ∧ ¬ l < y ∧ d ≤ r ∧ r ≠ 0) ∨ (x < h ∧ ¬ l < y) ∨ (x < h ∧ l < y ∧ IntKind.u64.wrap (h - 1) = h - 1 ∧ x < h - 1) ∨ (x < h ∧ l < y ∧ IntKind.u64.wrap (h - 1) = x ∧ d ≤ r ∧ r ≠ 0))) ∨
       (r < d ∧ ((x = h ∧ ¬ l < y) ∨ (x < h ∧ l < y ∧ IntKind.u64.wrap (h - 1) = x)) ∧
          ((r = 0 ∧ u = n) ∨ (0 < r ∧ n = 18446744073709551615 ∧ u = 18446744073709551615) ∨ (0 < r ∧ n < 18446744073709551615 ∧ u = n + 1 ∧ IntKind.u64.wrap (u - n) = 1 ∧ u ≠ 18446744073709551615 + 1)))) := by
  have p := word_prod ha hb
  have d0 : 0 < d := by have := hd.1; omega
  have d1 := hd.2
  refine ⟨_, _, _, _, _, _, _, rfl, rfl, rfl, rfl, rfl, rfl, rfl, times_word a b d false ha hb hd, times_word a b d true ha hb hd, ?_⟩
  unfold times
  simp only [Bool.false_eq_true, false_and, if_false, true_and, IntKind.wrap_u64]
  by_cases c : d ≤ a * b / 18446744073709551616
  · left
    rw [if_pos c]
    simp only [if_pos c]
    generalize a * b = N at *
    refine ⟨trivial, trivial, by omega, ?_⟩
    omega
  · right
    obtain ⟨q, r0, r1⟩ := quot_word p.1 c
    have e := Int.mul_ediv_add_emod (a * b) d
    rw [Int.mul_comm d] at e
    have q1 := q.2
    have q0 := q.1
    have pp := Int.mul_nonneg q0 (Int.le_of_lt d0)
    simp only [if_neg c]
    generalize hR : a * b % d = R at *
    generalize hn : a * b / d = n at *
    generalize a * b = N at *
    generalize n * d = P at *
    have g : (N % 18446744073709551616 - P % 18446744073709551616) % 18446744073709551616 = R := by omega
    rw [g]
    refine ⟨r1, by omega, ?_⟩
    by_cases z : 0 < R
    · rw [if_pos z]
      unfold cap
      split <;> omega
    · rw [if_neg z]
      left; exact ⟨by omega, rfl⟩
end Go.Proofs.Ytlmoehfgbhfhfaa
