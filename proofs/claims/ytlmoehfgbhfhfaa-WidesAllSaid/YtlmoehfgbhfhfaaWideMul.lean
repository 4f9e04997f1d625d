/-
  Products of two words: math/bits.Mul64's own text, wides.Mul; math/bits.Add64, for which the model stands in.
-/
import Derived.Test.YtlmoehfgbhfhfaaRows
import Derived.Test.YtlmoehfgbhfhfaaMem
import Derived.Test.YtlmoehfgbhfhfaaBits
import Derived.WalkKit
import Derived.WalkSpells
import Derived.WalkLawsBesides
import Derived.IntWalk
import Derived.Lib.Mul64
import Derived.Laws.Bits64b
import Derived.Laws.Externs
namespace Go.Proofs.Ytlmoehfgbhfhfaa
open Go.RowKit
set_option linter.unusedVariables false

/-- a number of 64 bits -/
def Word (x : Int) : Prop := 0 ≤ x ∧ x < 18446744073709551616
theorem Word.nat {x : Int} (h : Word x) : ∃ n : Nat, x = n ∧ n < 18446744073709551616 := ⟨x.toNat, by have := h.1; omega, by have := h.1; have := h.2; omega⟩
theorem word_mod (x : Int) : Word (x % 18446744073709551616) := ⟨by omega, by omega⟩
theorem word_lit {x : Int} (h : 0 ≤ x) (h' : x < 18446744073709551616) : Word x := ⟨h, h'⟩

/-- The product of two words, over two words -/
theorem word_prod {a b : Int} (ha : Word a) (hb : Word b) : 0 ≤ a * b ∧ a * b ≤ 18446744073709551615 * 18446744073709551615 := by
  obtain ⟨a0, a1⟩ := ha
  obtain ⟨b0, b1⟩ := hb
  exact ⟨Int.mul_nonneg a0 b0, Int.mul_le_mul (by omega) (by omega) b0 (by omega)⟩
theorem word_hi {a b : Int} (ha : Word a) (hb : Word b) : Word (a * b / 18446744073709551616) := by
  have := word_prod ha hb
  exact ⟨by omega, by omega⟩

theorem low32 (n : Nat) (h : n < 18446744073709551616) : bits .and .u64 (n : Int) 4294967295 = ((n % 4294967296 : Nat) : Int) := by
  have e := bits_and_u64_nat n 4294967295 h (by omega)
  rw [show n &&& 4294967295 = n % 4294967296 from Nat.and_two_pow_sub_one_eq_mod n 32] at e
  exact e
theorem up32 (n : Nat) : (n : Int) / 4294967296 = ((n / 4294967296 : Nat) : Int) := by omega
theorem in64 (n : Nat) (h : n < 18446744073709551616) : IntKind.u64.wrap (n : Int) = n := by rw [IntKind.wrap_u64]; omega
theorem lo64 (n : Nat) : IntKind.u64.wrap (n : Int) = ((n % 18446744073709551616 : Nat) : Int) := by rw [IntKind.wrap_u64]; omega

theorem pair64 {a b c d : Int} (h : a = c) (h' : b = d) : Ending.returned (.tuple #[.int .u64 a, .int .u64 b]) = .returned (.tuple #[.int .u64 c, .int .u64 d]) := by rw [h, h']

set_option maxHeartbeats 1000000 in
theorem bitsMul64 (a b : Int) (ha : Word a) (hb : Word b) (w : World) :
    Calls Try.prog 14 #[.int .u64 a, .int .u64 b] w fun e w' => e = .returned (.tuple #[.int .u64 (a * b / 18446744073709551616), .int .u64 (a * b % 18446744073709551616)]) ∧ w = w' := by
  obtain ⟨x, rfl, hx⟩ := ha.nat
  obtain ⟨y, rfl, hy⟩ := hb.nat
  obtain ⟨m1, m2, m3, m4⟩ := Lib.mul64_hi x y hx hy
  have l1 := Lib.half_mul_le (a := x / 4294967296) (b := y / 4294967296) (by omega) (by omega)
  have l2 := Lib.half_mul_le (a := x / 4294967296) (b := y % 4294967296) (by omega) (by omega)
  have l3 := Lib.half_mul_le (a := x % 4294967296) (b := y / 4294967296) (by omega) (by omega)
  have hq : x * y / 18446744073709551616 < 18446744073709551616 := by
    have : x * y ≤ 18446744073709551615 * 18446744073709551615 := Nat.mul_le_mul (by omega) (by omega)
    omega
  have n1 : x / 4294967296 * (y / 4294967296) < 18446744073709551616 := by omega
  have n2 : x / 4294967296 * (y % 4294967296) < 18446744073709551616 := by omega
  have n3 : x % 4294967296 * (y / 4294967296) < 18446744073709551616 := by omega
  have n4 : x / 4294967296 * (y / 4294967296) + (x / 4294967296 * (y % 4294967296) + x % 4294967296 * (y % 4294967296) / 4294967296) / 4294967296 < 18446744073709551616 := by omega
  have n5 := m4 ▸ hq
  have E := Lib.hid m4
  clear m4 ha hb
  go_enter Try.func14, Try.ntmps14
  go_wp2
  simp only [low32 x hx, low32 y hy, up32, ← Int.natCast_mul, ← Int.natCast_add, in64 _ m1, in64 _ m2, in64 _ n2, low32 _ m2, in64 _ n3, in64 _ m3, in64 _ n1, in64 _ n4, in64 _ n5, lo64 (x * y)]
  rw [E.out]
  go_ret2
  exact ⟨pair64 (a := ((x * y / 18446744073709551616 : Nat) : Int)) (b := ((x * y % 18446744073709551616 : Nat) : Int)) (by omega) (by omega), rfl⟩

theorem mul_ (a b : Int) (ha : Word a) (hb : Word b) (w : World) :
    Calls Try.prog 8 #[.int .u64 a, .int .u64 b] w fun e w' => e = .returned (.tuple #[.int .u64 (a * b / 18446744073709551616), .int .u64 (a * b % 18446744073709551616)]) ∧ w = w' := by
  have C := fun w => bitsMul64 a b ha hb w
  generalize a * b / 18446744073709551616 = h at *
  generalize a * b % 18446744073709551616 = l at *
  go_enter Try.func8, Try.ntmps8
  go_wp2_with fail
  refine (C _).mono ?_
  rintro e w1 ⟨rfl, rfl⟩
  go_wp2
  go_ret2
  exact ⟨rfl, rfl⟩

/-- math/bits.Add64 with no carry coming in -/
theorem add64 (x y : Int) (hx : Word x) (hy : Word y) (w : World) :
    (callFunc 19 #[.int .u64 x, .int .u64 y, .int .u64 0]).run Try.prog w =
      .ok (.value (.tuple #[.int .u64 ((x + y) % 18446744073709551616), .int .u64 ((x + y) / 18446744073709551616)])) w := by
  rw [run_callFunc_extern Try.func19 (by kernel_rfl) (by kernel_rfl) (by kernel_rfl) (e := add64Entry) (by kernel_rfl), run_add64 x y 0 hx.1 hy.1 (by omega) (by omega)]
  simp [Result.andThen]
end Go.Proofs.Ytlmoehfgbhfhfaa
