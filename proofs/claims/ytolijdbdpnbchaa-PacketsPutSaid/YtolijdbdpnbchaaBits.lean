/-
  The operations on bits that shorts' numbers want, as sums and remainders.
-/
import Derived.Laws.BitsAllLaws
import Derived.WalkKit
namespace Go.Proofs.Ytolijdbdpnbchaa
open Go.RowKit
set_option linter.unusedVariables false

theorem nat_or_add (k y x : Nat) (hy : y < 2 ^ k) (hx : x % 2 ^ k = 0) : y ||| x = y + x := by
  obtain ⟨q, rfl⟩ : 2 ^ k ∣ x := Nat.dvd_of_mod_eq_zero hx
  rw [Nat.or_comm, Nat.add_comm, Nat.two_pow_add_eq_or_of_lt hy]

theorem ofInt64 (a : Nat) (ha : a < 18446744073709551616) : (BitVec.ofInt 64 (a : Int)).toNat = a := by
  rw [BitVec.ofInt_natCast, BitVec.toNat_ofNat]; exact Nat.mod_eq_of_lt (by omega)

theorem i64_or_nat (a b : Nat) (ha : a < 9223372036854775808) (hb : b < 9223372036854775808) : bits .or .i64 (a : Int) (b : Int) = ((a ||| b : Nat) : Int) := by
  have hx : a ||| b < 2 ^ 63 := Nat.or_lt_two_pow (by omega) (by omega)
  show IntKind.i64.wrap ((BitVec.ofInt 64 (a : Int) ||| BitVec.ofInt 64 (b : Int)).toNat : Int) = _
  rw [BitVec.toNat_or, ofInt64 a (by omega), ofInt64 b (by omega)]
  exact IntWalk.i64_in _ (by omega)

section
variable (k : Nat) (y x : Int) (h0 : 0 ≤ y) (h1 : y < 2 ^ k) (h2 : 0 ≤ x) (h3 : x % 2 ^ k = 0)
include h0 h1 h2 h3
theorem pow_facts : ∃ a b : Nat, y = a ∧ x = b ∧ a ||| b = a + b := by
  obtain ⟨a, rfl⟩ := Int.eq_ofNat_of_zero_le h0
  obtain ⟨b, rfl⟩ := Int.eq_ofNat_of_zero_le h2
  exact ⟨a, b, rfl, rfl, nat_or_add k a b (by exact_mod_cast h1) (by exact_mod_cast h3)⟩
theorem i64_or_lo (hy : y < 9223372036854775808) (hx : x < 9223372036854775808) : bits .or .i64 y x = y + x := by
  obtain ⟨a, b, rfl, rfl, h⟩ := pow_facts k y x h0 h1 h2 h3
  rw [i64_or_nat a b (by omega) (by omega), h]; simp
theorem i64_or_hi (hy : y < 9223372036854775808) (hx : x < 9223372036854775808) : bits .or .i64 x y = x + y := by
  obtain ⟨a, b, rfl, rfl, h⟩ := pow_facts k y x h0 h1 h2 h3
  rw [i64_or_nat b a (by omega) (by omega), Nat.or_comm, h]; simp; omega
theorem u64_or_lo (hy : y < 18446744073709551616) (hx : x < 18446744073709551616) : bits .or .u64 y x = y + x := by
  obtain ⟨a, b, rfl, rfl, h⟩ := pow_facts k y x h0 h1 h2 h3
  rw [u64_or_nat a b (by omega) (by omega), h]; simp
theorem u8_or_lo (hy : y < 256) (hx : x < 256) : bits .or .u8 y x = y + x := by
  obtain ⟨a, b, rfl, rfl, h⟩ := pow_facts k y x h0 h1 h2 h3
  rw [u8_or_nat a b (by omega) (by omega), h]; simp
theorem u8_or_hi (hy : y < 256) (hx : x < 256) : bits .or .u8 x y = x + y := by
  obtain ⟨a, b, rfl, rfl, h⟩ := pow_facts k y x h0 h1 h2 h3
  rw [u8_or_nat b a (by omega) (by omega), Nat.or_comm, h]; simp; omega
end

theorem i64_or_zero (x : Int) (h0 : 0 ≤ x) (h1 : x < 9223372036854775808) : bits .or .i64 0 x = x := by
  have := i64_or_lo 0 0 x (by omega) (by omega) h0 (by simp) (by omega) h1; simpa using this
theorem u64_or_zero (x : Int) (h0 : 0 ≤ x) (h1 : x < 18446744073709551616) : bits .or .u64 0 x = x := by
  have := u64_or_lo 0 0 x (by omega) (by omega) h0 (by simp) (by omega) h1; simpa using this
theorem u8_or_zero (x : Int) (h0 : 0 ≤ x) (h1 : x < 256) : bits .or .u8 0 x = x := by
  have := u8_or_lo 0 0 x (by omega) (by omega) h0 (by simp) (by omega) h1; simpa using this

theorem u8_and127 (x : Int) (h0 : 0 ≤ x) (h1 : x < 256) : bits .and .u8 x 127 = x % 128 := by
  rw [u8_and x 127 h0 h1 (by omega) (by omega)]
  obtain ⟨a, rfl⟩ := Int.eq_ofNat_of_zero_le h0
  have : a &&& 127 = a % 128 := Nat.and_two_pow_sub_one_eq_mod a 7
  simp only [Int.toNat_natCast]
  show ((a &&& 127 : Nat) : Int) = _
  rw [this]; simp
end Go.Proofs.Ytolijdbdpnbchaa
