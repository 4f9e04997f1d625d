/-
  math/bits.LeadingZeros64 by its contract: how far a number is to be moved for its highest bit to stand at the top.
-/
import Derived.Test.YtlmoehfgbhfhfaaWideMul
import Derived.Test.YtlmoehfgbhfhfaaDivMath
import Derived.Shelf.Small.Bits
namespace Go.Proofs.Ytlmoehfgbhfhfaa
open Go.RowKit
set_option linter.unusedVariables false

def lzRen : Go.Shelf.Ren := ⟨fun | 134 => 21 | 129 => 22 | n => n, fun | 53 => 22 | 3 => 3 | 4 => 4 | 46 => 38 | 5 => 5 | 9 => 9 | n => n, fun | n => n⟩
theorem lzLays : Go.Proofs.Lays.n134 Try.prog lzRen := {
  mixed := by kernel_rfl
  f129 := Try.func22.trans (congrArg some (by kernel_rfl))
  f134 := Try.func21.trans (congrArg some (by kernel_rfl))
  t3 := Try.underlying3
  a3 := Try.isAgg3
  z3 := Try.sizeOf3
  v3 := Try.zeroValue3
  t4 := Try.underlying4
  a4 := Try.isAgg4
  z4 := Try.sizeOf4
  v4 := Try.zeroValue4
  t5 := Try.underlying5
  a5 := Try.isAgg5
  z5 := Try.sizeOf5
  v5 := Try.zeroValue5
  t9 := Try.underlying9
  a9 := Try.isAgg9
  z9 := Try.sizeOf9
  v9 := Try.zeroValue9
  t46 := Try.underlying38
  a46 := Try.isAgg38
  z46 := Try.sizeOf38
  v46 := Try.zeroValue38
  t53 := Try.underlying22
  a53 := Try.isAgg22
  z53 := Try.sizeOf22
  v53 := Try.zeroValue22 }

/-- how far y is to be moved up -/
theorem leading (y : Int) (h0 : 0 < y) (h1 : y < 18446744073709551616) : ∃ s : Nat, s ≤ 63 ∧ 9223372036854775808 ≤ y * 2 ^ s ∧ y * 2 ^ s < 18446744073709551616 ∧
    ∀ w, Calls Try.prog 21 #[.int .u64 y] w fun e w' => e = .returned (.int .i64 s) ∧ w = w' := by
  obtain ⟨x, rfl⟩ := Int.eq_ofNat_of_zero_le (Int.le_of_lt h0)
  obtain ⟨s, a, b, c, d⟩ := shift_top x (by omega) (by omega)
  have e : (x : Int) * 2 ^ s = ((x * 2 ^ s : Nat) : Int) := by simp
  refine ⟨s, a, by rw [e]; omega, by rw [e]; omega, fun w => ?_⟩
  refine (Any.bits_LeadingZeros64 lzLays x w (by omega) (by omega)).mono ?_
  rintro e' w' ⟨rfl, rfl⟩
  refine ⟨?_, rfl⟩
  have : 64 - ((Lib.bitLen ((x : Int).toNat) : Nat) : Int) = s := by
    rw [Int.toNat_natCast]; omega
  rw [this]
end Go.Proofs.Ytlmoehfgbhfhfaa
