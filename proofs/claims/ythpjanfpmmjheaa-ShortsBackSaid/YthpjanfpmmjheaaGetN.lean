import Derived.Test.YthpjanfpmmjheaaGet
namespace Go.Proofs.Ythpjanfpmmjheaa
open Go.RowKit
set_option linter.unusedVariables false

/-- the number that the first k bytes are, the lowest first -/
def num : List Int → Nat → Int
  | _, 0 => 0
  | zs, k + 1 => num zs k + zs.getD k 0 * 256 ^ k

theorem num_bound (zs : List Int) (hb : Bytes zs) (k : Nat) : 0 ≤ num zs k ∧ num zs k < 256 ^ k := by
  induction k with
  | zero => simp [num]
  | succ k ih =>
    have h := hb k
    have e : (256 : Int) ^ (k + 1) = 256 ^ k * 256 := Int.pow_succ ..
    have hp : (0 : Int) < 256 ^ k := Int.pow_pos (by omega)
    simp only [num]
    rw [e]
    have h1 : 0 ≤ zs.getD k 0 * 256 ^ k := Int.mul_nonneg h.1 (by omega)
    have h2 : zs.getD k 0 * 256 ^ k ≤ 255 * 256 ^ k := Int.mul_le_mul_of_nonneg_right (by omega) (by omega)
    omega

theorem num_shift (zs : List Int) (k : Nat) : num zs (k + 1) = zs.getD 0 0 + 256 * num (zs.drop 1) k := by
  induction k with
  | zero => simp [num]
  | succ k ih =>
    rw [num, ih, num]
    have : (zs.drop 1).getD k 0 = zs.getD (k + 1) 0 := by simp [List.getD_eq_getElem?_getD]
    rw [this, Int.pow_succ, Int.mul_add, Int.add_assoc]
    congr 2
    rw [Int.mul_comm (256 ^ k) 256, ← Int.mul_assoc, ← Int.mul_assoc, Int.mul_comm 256]

theorem u64_in (x : Int) (h0 : 0 ≤ x) (h1 : x < 18446744073709551616) : IntKind.u64.wrap x = x := by rw [IntKind.wrap_u64]; omega

theorem num_step (zs : List Int) (hb : Bytes zs) (k : Nat) (hk : k < 8) :
    bits .or .u64 (num zs k) (IntKind.u64.wrap (IntKind.u64.wrap (zs.getD k 0) * 2 ^ (8 * k))) = num zs (k + 1) := by
  have h := hb k
  have hn := num_bound zs hb k
  simp only [num]
  generalize zs.getD k 0 = z at *
  generalize num zs k = p at *
  rw [u64_in z h.1 (by omega)]
  have key : ∀ e : Nat, e < 64 → (256 : Int) ^ k = 2 ^ e → 8 * k = e → bits .or .u64 p (IntKind.u64.wrap (z * 2 ^ (8 * k))) = p + z * 256 ^ k := by
    rintro e he h2 rfl
    have hp : (0 : Int) < 2 ^ (8 * k) := Int.pow_pos (by omega)
    have hz0 : 0 ≤ z * 2 ^ (8 * k) := Int.mul_nonneg h.1 (by omega)
    have hz1 : z * 2 ^ (8 * k) < 18446744073709551616 := by
      have h3 : z * 2 ^ (8 * k) ≤ 255 * 2 ^ (8 * k) := Int.mul_le_mul_of_nonneg_right (by omega) (by omega)
      have h4 : (2 : Int) ^ (8 * k) ≤ 2 ^ 56 := by exact_mod_cast Nat.pow_le_pow_right (by omega) (by omega)
      omega
    have hp1 : p < 18446744073709551616 := by
      have h4 : (2 : Int) ^ (8 * k) ≤ 2 ^ 56 := by exact_mod_cast Nat.pow_le_pow_right (by omega) (by omega)
      omega
    rw [u64_in _ hz0 hz1, u64_or_lo (8 * k) p _ hn.1 (by omega) hz0 (Int.mul_emod_left ..) hp1 hz1, h2]
  refine key (8 * k) (by omega) ?_ rfl
  rw [Int.pow_mul]; rfl

/-- what Get answers -/
def getN (zs : List Int) (many : Int) : Int × Int :=
  if many < 1 ∨ 8 < many then (0, 1) else if (zs.length : Int) < many then (0, 5) else (num zs many.toNat, 0)

set_option maxHeartbeats 400000 in
theorem fits_yes (m : Int) (w : World) (h0 : 1 ≤ m) (h1 : m ≤ 8) : Calls Try.prog 27 #[.int .i64 m] w fun e w' => e = .returned (.bool true) ∧ w = w' := by
  go_enter Try.func27, Try.ntmps27
  go_wp2
  go_ret
  exact ⟨rfl, rfl⟩
set_option maxHeartbeats 400000 in
theorem fits_no (m : Int) (w : World) (h : m < 1 ∨ 8 < m) : Calls Try.prog 27 #[.int .i64 m] w fun e w' => e = .returned (.bool false) ∧ w = w' := by
  rcases h with h | h
  · go_enter Try.func27, Try.ntmps27
    go_wp2
    go_ret
    exact ⟨rfl, rfl⟩
  · have h2 : 1 ≤ m := by omega
    have h3 : decide (m ≤ 8) = false := by simp; omega
    go_enter Try.func27, Try.ntmps27
    go_wp2
    go_ret
    exact ⟨rfl, rfl⟩

set_option maxHeartbeats 400000 in
theorem getMany (A : Option Addr) (n c : Nat) (zs : List Int) (m : Int) (w : World) (S : Nat)
    (hx : Sees w S A n (bv zs)) (hn : n ≤ maxLen) (hb : Bytes zs) :
    Calls Try.prog 20 #[.slice A n c, .int .i64 m] w fun e w' => e = .returned (.tuple #[.int .u64 (getN zs m).1, .int .i64 (getN zs m).2]) ∧ w = w' := by
  unfold maxLen at hn
  have lx := Lib.hid (show zs.length = n by have := hx.len; rwa [bv_length] at this)
  by_cases hm : m < 1 ∨ 8 < m
  · have hg : getN zs m = (0, 1) := by simp [getN, hm]
    have HG := Lib.hid hg
    have HM := Lib.hid (fits_no m w hm)
    clear hg hm
    go_enter Try.func20, Try.ntmps20
    go_wp2_with fail
    refine HM.out.mono ?_
    rintro e w1 ⟨rfl, rfl⟩
    go_wp2
    go_ret2
    exact ⟨tup2_of HG.out, rfl⟩
  · have HF := Lib.hid (fits_yes m w (by omega) (by omega))
    by_cases hl : (n : Int) < m
    · have hg : getN zs m = (0, 5) := by simp [getN, hm]; rw [lx.out]; exact hl
      have HG := Lib.hid hg
      clear hg hm
      go_enter Try.func20, Try.ntmps20
      go_wp2_with fail
      refine HF.out.mono ?_
      rintro e w1 ⟨rfl, rfl⟩
      go_wp2
      go_ret2
      exact ⟨tup2_of HG.out, rfl⟩
    · obtain ⟨mm, rfl⟩ := Int.eq_ofNat_of_zero_le (show 0 ≤ m by omega)
      have hg : getN zs mm = (num zs mm, 0) := by simp [getN, hm]; rw [lx.out]; omega
      have hm8 : mm ≤ 8 := by omega
      have hm1 : 1 ≤ mm := by omega
      have hmn : mm ≤ n := by omega
      have HG := Lib.hid hg
      clear hg hm hl
      go_enter Try.func20, Try.ntmps20
      go_wp2_with fail
      refine HF.out.mono ?_
      rintro e w1 ⟨rfl, rfl⟩
      go_wp2
      go_loop [6, 7, 16] (fun v _ i => ∃ (k : Nat), k ≤ mm ∧ i = .int .i64 k ∧ v = .int .u64 (num zs k)) (fun _ _ i => mm - (intOf i).toNat)
      case atStart => exact ⟨0, Nat.zero_le _, rfl, rfl⟩
      case round =>
        obtain ⟨k, hk, rfl, rfl⟩ := hrel
        by_cases hlt : k < mm
        · obtain ⟨a, rfl, ha, hca⟩ := hx.byte (k := k) (by omega)
          have HS := Lib.hid (num_step zs hb k (by omega))
          generalize zs.getD k 0 = z at *
          go_wp2
          go_round
          case rel => exact ⟨k + 1, by omega, by go_num, by rw [HS.out]⟩
          case measure => simp [intOf]; omega
        · have HK := Lib.hid (show k = mm by omega)
          go_wp2
          go_ret2
          exact ⟨tup2_of (by rw [HG.out, HK.out]), rfl⟩
end Go.Proofs.Ythpjanfpmmjheaa
