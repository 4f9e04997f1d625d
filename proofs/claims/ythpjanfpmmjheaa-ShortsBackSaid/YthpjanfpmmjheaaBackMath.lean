import Derived.Test.YthpjanfpmmjheaaRefGetN
import Derived.Test.YthpjanfpmmjheaaRefPutN
import Derived.Test.YthpjanfpmmjheaaRefGet
namespace Go.Proofs.Ythpjanfpmmjheaa
open Go.RowKit
set_option linter.unusedVariables false

theorem getD_app (xs ys : List Int) (i : Nat) : (xs ++ ys).getD i 0 = if i < xs.length then xs.getD i 0 else ys.getD (i - xs.length) 0 := by
  simp only [List.getD_eq_getElem?_getD, List.getElem?_append]
  split <;> rfl

theorem getS_short (n : Int) (rest : List Int) (h0 : 0 ≤ n) (h1 : n ≤ 65535) : getS (short n ++ rest) = (n, ((short n).length : Int), 0) := by
  by_cases h : n < 128
  · have e : short n = [n] := by simp [short, h]
    have hm : mea (n :: rest) = (1, 0) := by simp [mea, h]
    simp [e, getS, hm]
  · by_cases h' : n < 16384
    · have e : short n = [n % 128 + 128, n / 128] := by simp [short, h, h']
      have hm : mea ((n % 128 + 128) :: (n / 128) :: rest) = (2, 0) := by
        simp only [mea, List.length_cons, List.getD_cons_zero, List.getD_cons_succ]
        rw [if_neg (by omega), if_neg (by omega), if_neg (by omega), if_neg (by omega), if_pos (by omega)]
      simp [e, getS, hm]
      omega
    · have e : short n = [n % 128 + 128, n / 128 % 128 + 128, n / 16384] := by simp [short, h, h']
      have hm : mea ((n % 128 + 128) :: (n / 128 % 128 + 128) :: (n / 16384) :: rest) = (3, 0) := by
        simp only [mea, List.length_cons, List.getD_cons_zero, List.getD_cons_succ]
        rw [if_neg (by omega), if_neg (by omega), if_neg (by omega), if_neg (by omega), if_neg (by omega), if_neg (by omega), if_neg (by omega)]
      simp [e, getS, hm]
      omega

theorem getS_cut (n : Int) (h0 : 0 ≤ n) (h1 : n ≤ 65535) : getS ((short n).take ((short n).length - 1)) = (0, 0, 5) := by
  by_cases h : n < 128
  · simp [short, h, getS, mea]
  · by_cases h' : n < 16384
    · have hm : mea [n % 128 + 128] = (0, 5) := by
        simp only [mea, List.length_cons, List.length_nil, List.getD_cons_zero]
        rw [if_neg (by omega), if_neg (by omega), if_pos trivial]
      simp [short, h, h', getS, hm]
    · have hm : mea [n % 128 + 128, n / 128 % 128 + 128] = (0, 5) := by
        simp only [mea, List.length_cons, List.length_nil, List.getD_cons_zero, List.getD_cons_succ]
        rw [if_neg (by omega), if_neg (by omega), if_neg (by omega), if_neg (by omega), if_neg (by omega), if_pos trivial]
      simp [short, h, h', getS, hm]

theorem num_app (k : Nat) : ∀ (xs ys : List Int), k ≤ xs.length → num (xs ++ ys) k = num xs k := by
  induction k with
  | zero => intro xs ys _; rfl
  | succ k ih =>
    intro xs ys h
    simp only [num]
    rw [ih xs ys (by omega), getD_app, if_pos (by omega)]

theorem num_dig (x : Int) (h0 : 0 ≤ x) (k : Nat) : num (dig x k) k = x % 256 ^ k := by
  obtain ⟨X, rfl⟩ := Int.eq_ofNat_of_zero_le h0
  induction k with
  | zero => simp [num, Int.emod_one]
  | succ k ih =>
    simp only [num]
    rw [dig_succ, num_app _ _ _ (by rw [dig_len]; exact Nat.le_refl _), ih, getD_app, if_neg (by rw [dig_len]; omega), dig_len]
    simp only [Nat.sub_self, List.getD_cons_zero]
    have h1 : X % 256 ^ (k + 1) = X % 256 ^ k + 256 ^ k * (X / 256 ^ k % 256) := by rw [Nat.pow_succ, Nat.mod_mul]
    have h2 := congrArg (fun n : Nat => (n : Int)) h1
    simp only [Int.natCast_add, Int.natCast_mul, Int.natCast_emod, Int.natCast_ediv, Int.natCast_pow] at h2
    rw [Int.mul_comm ((X : Int) / 256 ^ k % 256)]
    exact h2.symm

theorem getN_dig (x : Int) (h0 : 0 ≤ x) (k : Nat) (h1 : 1 ≤ k) (h8 : k ≤ 8) (ys : List Int) : getN (dig x k ++ ys) k = (x % 256 ^ k, 0) := by
  unfold getN
  rw [if_neg (by omega), if_neg (by simp [dig_len]; omega)]
  simp only [Int.toNat_natCast]
  rw [num_app _ _ _ (by rw [dig_len]; exact Nat.le_refl _), num_dig x h0]

theorem getN_cut (x : Int) (k : Nat) (h1 : 1 ≤ k) (h8 : k ≤ 8) : getN ((dig x k).take (k - 1)) k = (0, 5) := by
  unfold getN
  rw [if_neg (by omega), if_pos (by simp [dig_len]; omega)]

/-- the mask that the law lays over a number -/
theorem mask (x : Int) (h0 : 0 ≤ x) (h1 : x < 18446744073709551616) (k : Nat) (hk : k ≤ 7) : bits .and .u64 x (256 ^ k - 1) = x % 256 ^ k := by
  obtain ⟨X, rfl⟩ := Int.eq_ofNat_of_zero_le h0
  have hp : (256 : Nat) ^ k ≤ 256 ^ 7 := Nat.pow_le_pow_right (by omega) hk
  have hp0 : 0 < (256 : Nat) ^ k := Nat.pow_pos (by omega)
  have e : ((256 : Int) ^ k - 1) = ((256 ^ k - 1 : Nat) : Int) := by
    rw [Int.natCast_sub (by omega)]; simp
  rw [e, bits_and_u64_nat X _ (by omega) (by omega)]
  have h3 : 256 ^ k = 2 ^ (8 * k) := by rw [Nat.pow_mul]
  rw [h3, Nat.and_two_pow_sub_one_eq_mod, ← h3]
  simp

theorem mask' (x : Int) (h0 : 0 ≤ x) (h1 : x < 18446744073709551616) (k : Nat) (hk : k ≤ 7) : bits .and .u64 x (IntKind.u64.wrap (IntKind.u64.wrap (2 ^ (8 * k)) - 1)) = x % 256 ^ k := by
  have e : (2 : Int) ^ (8 * k) = 256 ^ k := by rw [Int.pow_mul]; rfl
  have hp : (256 : Nat) ^ k ≤ 256 ^ 7 := Nat.pow_le_pow_right (by omega) hk
  have hp0 : 0 < (256 : Nat) ^ k := Nat.pow_pos (by omega)
  have e2 : (256 : Int) ^ k = ((256 ^ k : Nat) : Int) := by simp
  have b0 : (1 : Int) ≤ 256 ^ k := by rw [e2]; omega
  have b1 : (256 : Int) ^ k < 18446744073709551616 := by rw [e2]; omega
  rw [e, u64_in _ (by omega) b1, u64_in _ (by omega) (by omega), mask x h0 h1 k hk]

theorem bytes_short (n : Int) (h0 : 0 ≤ n) (h1 : n ≤ 65535) : ∀ z ∈ short n, 0 ≤ z ∧ z < 256 := by
  unfold short
  intro z hz
  split at hz
  · simp at hz; omega
  · split at hz <;> simp at hz <;> omega
theorem bytes_dig (x : Int) (k : Nat) : ∀ z ∈ dig x k, 0 ≤ z ∧ z < 256 := by
  intro z hz
  simp only [dig, List.mem_map] at hz
  obtain ⟨i, _, rfl⟩ := hz
  omega
theorem Bytes.all {zs : List Int} (h : Bytes zs) : ∀ z ∈ zs, 0 ≤ z ∧ z < 256 := by
  intro z hz
  obtain ⟨i, hi, rfl⟩ := List.getElem_of_mem hz
  have := h i
  rwa [List.getD_eq_getElem?_getD, List.getElem?_eq_getElem hi] at this
end Go.Proofs.Ythpjanfpmmjheaa
