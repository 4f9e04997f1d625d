/-
  The arithmetic under math/bits.Div64's text (two words by one, in halves of 32 bits), over no program.
-/
import Derived.Lib.BitFns
namespace Go.Proofs.Ytlmoehfgbhfhfaa
open Go
set_option linter.unusedVariables false

theorem bitLen_hi : ∀ (k x : Nat), x < 2 ^ k → x < 2 ^ 64 → x < 2 ^ Lib.bitLen x
  | 0, x, h, _ => by
      have : x = 0 := by omega
      subst this; decide
  | k + 1, x, h, h' => by
      by_cases h0 : x = 0
      · subst h0; decide
      · rw [Lib.bitLen_half x h0 h']
        have := bitLen_hi k (x / 2) (by rw [Nat.pow_succ] at h; omega) (by omega)
        rw [Nat.add_comm, Nat.pow_succ]; omega
theorem bitLen_lo : ∀ (k x : Nat), x < 2 ^ k → x < 2 ^ 64 → 0 < x → 2 ^ Lib.bitLen x ≤ 2 * x
  | 0, x, h, _, h0 => by omega
  | k + 1, x, h, h', h0 => by
      rw [Lib.bitLen_half x (by omega) h']
      by_cases h1 : x = 1
      · subst h1; decide
      · have := bitLen_lo k (x / 2) (by rw [Nat.pow_succ] at h; omega) (by omega) (by omega)
        rw [Nat.add_comm, Nat.pow_succ]; omega

/-- the shift that brings a number's highest bit to the top -/
theorem shift_top (y : Nat) (h0 : 0 < y) (h1 : y < 2 ^ 64) : ∃ s : Nat, s ≤ 63 ∧ Lib.bitLen y = 64 - s ∧ 2 ^ 63 ≤ y * 2 ^ s ∧ y * 2 ^ s < 2 ^ 64 := by
  have a := bitLen_hi 64 y h1 h1
  have b := bitLen_lo 64 y h1 h1 h0
  have c := Lib.bitLen_le y 64 (by omega) h1
  have d : 1 ≤ Lib.bitLen y := by
    rcases Nat.eq_zero_or_pos (Lib.bitLen y) with h | h
    · rw [h] at a; omega
    · exact h
  generalize Lib.bitLen y = n at *
  have e : 2 ^ n * 2 ^ (64 - n) = 2 ^ 64 := by rw [← Nat.pow_add]; congr 1; omega
  refine ⟨64 - n, by omega, by omega, ?_, ?_⟩
  · have := Nat.mul_le_mul_right (2 ^ (64 - n)) b
    rw [e, Nat.mul_assoc] at this
    omega
  · have p : 0 < 2 ^ (64 - n) := Nat.pow_pos (by omega)
    have := Nat.mul_lt_mul_of_pos_right a p
    omega

section
/-! one digit: u below v, both of 64 bits, d of 32; v's upper half is v1, its lower v0 -/
variable {u v d v1 v0 : Int} (hu : 0 ≤ u) (huv : u < v) (hd : 0 ≤ d) (hd' : d < 4294967296) (hv : 9223372036854775808 ≤ v) (hv' : v < 18446744073709551616) (e1 : v1 = v / 4294967296) (e0 : v0 = v % 4294967296)

/-- the digit -/
def digit (u v d : Int) : Int := (u * 4294967296 + d) / v

include hu huv hd hd' hv in
theorem digit_in : 0 ≤ digit u v d ∧ digit u v d < 4294967296 := by
  unfold digit
  refine ⟨Int.ediv_nonneg (by omega) (by omega), ?_⟩
  exact Int.ediv_lt_of_lt_mul (by omega) (by omega)
include hv in
theorem digit_le {q : Int} (h : q * v ≤ u * 4294967296 + d) : q ≤ digit u v d := Int.le_ediv_of_mul_le (by omega) h
include hv in
theorem digit_ge : digit u v d * v ≤ u * 4294967296 + d := Int.ediv_mul_le _ (by omega)

include e1 e0 in
theorem halves (q : Int) : q * v = q * v1 * 4294967296 + q * v0 := by
  have : v = v1 * 4294967296 + v0 := by omega
  rw [this, Int.mul_add, ← Int.mul_assoc]

/-- what a guess q and its rest r keep -/
structure Guess (u v d v1 q r : Int) : Prop where
  eq : q * v1 + r = u
  up : digit u v d ≤ q
  r0 : 0 ≤ r
  r1 : r < 4294967296
  q0 : 0 ≤ q
  q1 : q ≤ 4294967297

include hu huv hd hd' hv hv' e1 e0 in
theorem Guess.first : Guess u v d v1 (u / v1) (u % v1) := by
  have p : 0 < v1 := by omega
  have e := Int.mul_ediv_add_emod u v1
  have a := Int.emod_nonneg u (show v1 ≠ 0 by omega)
  have b := Int.emod_lt_of_pos u p
  have q0 : 0 ≤ u / v1 := Int.ediv_nonneg hu (by omega)
  refine ⟨by rw [Int.mul_comm]; exact e, ?_, a, by omega, q0, ?_⟩
  · have h := digit_ge (u := u) (d := d) hv
    rw [halves e1 e0] at h
    have hq := (digit_in hu huv hd hd' hv).1
    generalize digit u v d = q at *
    refine Int.le_ediv_of_mul_le p ?_
    have z : 0 ≤ q * v0 := Int.mul_nonneg hq (by omega)
    omega
  · have : u / v1 < 4294967298 := Int.ediv_lt_of_lt_mul p (by omega)
    omega

include hv e1 e0 in
/-- the guess is good -/
theorem Guess.done {q r : Int} (g : Guess u v d v1 q r) (h : q * v0 ≤ 4294967296 * r + d) : q = digit u v d := by
  have hq := g.eq; have hup := g.up
  refine Int.le_antisymm (digit_le hv ?_) hup
  rw [halves e1 e0]
  generalize q * v1 = a at *
  omega

include hu huv hd hd' hv e1 e0 in
/-- the guess is too big -/
theorem Guess.big {q r : Int} (g : Guess u v d v1 q r) (h : 4294967296 ≤ q ∨ 4294967296 * r + d < q * v0) : digit u v d ≤ q - 1 := by
  have hq := g.eq; have hup := g.up
  rcases h with h | h
  · have := (digit_in hu huv hd hd' hv).2
    omega
  · have h2 := digit_ge (u := u) (d := d) hv
    by_cases c : digit u v d = q
    · rw [c, halves e1 e0] at h2
      generalize q * v1 = a at *
      omega
    · omega

include hu huv hd hd' hv hv' e1 e0 in
theorem Guess.next {q r : Int} (g : Guess u v d v1 q r) (h : 4294967296 ≤ q ∨ 4294967296 * r + d < q * v0) (hr : r + v1 < 4294967296) : Guess u v d v1 (q - 1) (r + v1) := by
  have hb := g.big hu huv hd hd' hv e1 e0 h
  have hi := (digit_in hu huv hd hd' hv).1
  have := g.eq; have := g.r0; have := g.q1
  refine ⟨?_, hb, by omega, hr, by omega, by omega⟩
  rw [Int.sub_mul, Int.one_mul]; omega

include hu huv hd hd' hv e1 e0 in
theorem Guess.out {q r : Int} (g : Guess u v d v1 q r) (h : 4294967296 ≤ q ∨ 4294967296 * r + d < q * v0) (hr : 4294967296 ≤ r + v1) : q - 1 = digit u v d := by
  have hb := g.big hu huv hd hd' hv e1 e0 h
  have hi := (digit_in hu huv hd hd' hv).1
  have hq := g.eq; have := g.r0; have := g.q1
  refine Int.le_antisymm (digit_le hv ?_) hb
  rw [halves e1 e0]
  have z : (q - 1) * v0 ≤ 4294967296 * 4294967295 := Int.mul_le_mul (by omega) (by omega) (by omega) (by omega)
  have w : (q - 1) * v1 = q * v1 - v1 := by rw [Int.sub_mul, Int.one_mul]
  rw [w]
  generalize q * v1 = a at *
  omega

include e0 in
/-- the products of the test don't wrap -/
theorem Guess.fit {q r : Int} (g : Guess u v d v1 q r) (h : q < 4294967296) : 0 ≤ q * v0 ∧ q * v0 < 18446744073709551616 := by
  have := g.q0
  refine ⟨Int.mul_nonneg (by omega) (by omega), ?_⟩
  have z : q * v0 ≤ 4294967295 * 4294967295 := Int.mul_le_mul (by omega) (by omega) (by omega) (by omega)
  omega

/-- what is left behind the digit -/
def left (u v d : Int) : Int := (u * 4294967296 + d) % v
include hv in
theorem left_in : 0 ≤ left u v d ∧ left u v d < v := ⟨Int.emod_nonneg _ (by omega), Int.emod_lt_of_pos _ (by omega)⟩
theorem left_eq : u * 4294967296 + d - digit u v d * v = left u v d := by
  have := Int.mul_ediv_add_emod (u * 4294967296 + d) v
  unfold digit left
  rw [Int.mul_comm v] at this
  omega
end

/-- the two digits together, and what is left, are the quotient and the rest -/
theorem two_digits {hi lo y : Int} {s : Nat} (h0 : 0 ≤ hi) (h1 : hi < y) (l0 : 0 ≤ lo) (l1 : lo < 18446744073709551616) {u v d e : Int} (hv : v = y * 2 ^ s) (hde : u * 18446744073709551616 + d * 4294967296 + e = (hi * 18446744073709551616 + lo) * 2 ^ s)
    (hu : 0 ≤ u) (huv : u < v) (hd : 0 ≤ d) (hd' : d < 4294967296) (he : 0 ≤ e) (he' : e < 4294967296) (hv9 : 9223372036854775808 ≤ v) :
    digit u v d * 4294967296 + digit (left u v d) v e = (hi * 18446744073709551616 + lo) / y ∧ left (left u v d) v e / 2 ^ s = (hi * 18446744073709551616 + lo) % y := by
  have a := left_eq (u := u) (v := v) (d := d)
  have b := left_eq (u := left u v d) (v := v) (d := e)
  have i1 := left_in (u := u) (d := d) hv9
  have i2 := left_in (u := left u v d) (d := e) hv9
  have dq := digit_in hu huv hd hd' hv9
  have dq' := digit_in i1.1 i1.2 he he' hv9
  generalize left (left u v d) v e = r2 at *
  generalize left u v d = r1 at *
  generalize digit u v d = q1 at *
  generalize digit r1 v e = q0 at *
  have p : (0 : Int) < 2 ^ s := Int.pow_pos (by omega)
  have t : (hi * 18446744073709551616 + lo) * 2 ^ s = (q1 * 4294967296 + q0) * v + r2 := by
    rw [← hde, Int.add_mul, Int.mul_right_comm]
    generalize q1 * v = g at *
    generalize q0 * v = g' at *
    omega
  generalize hi * 18446744073709551616 + lo = N at *
  generalize q1 * 4294967296 + q0 = Q at *
  subst hv
  have t2 : r2 = (N - Q * y) * 2 ^ s := by rw [Int.sub_mul, Int.mul_assoc]; omega
  have y0 : 0 < y := by omega
  have k0 : 0 ≤ N - Q * y := by
    apply Int.le_of_not_gt
    intro h
    have : (N - Q * y) * 2 ^ s < 0 := Int.mul_neg_of_neg_of_pos h p
    omega
  have k1 : N - Q * y < y := by
    apply Int.lt_of_mul_lt_mul_right _ (Int.le_of_lt p)
    omega
  have e1 : N = (N - Q * y) + y * Q := by rw [Int.mul_comm y]; omega
  constructor
  · rw [e1, Int.add_mul_ediv_left _ _ (by omega), Int.ediv_eq_zero_of_lt k0 k1]; omega
  · rw [t2, Int.mul_ediv_cancel _ (by omega)]
    rw [e1, Int.add_mul_emod_self_left]
    rw [← e1]
    exact (Int.emod_eq_of_lt k0 k1).symm

end Go.Proofs.Ytlmoehfgbhfhfaa
