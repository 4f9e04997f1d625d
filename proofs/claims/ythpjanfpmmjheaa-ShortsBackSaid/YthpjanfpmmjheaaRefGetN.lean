import Derived.Test.YthpjanfpmmjheaaGetN
namespace Go.Proofs.Ythpjanfpmmjheaa
open Go.RowKit
set_option linter.unusedVariables false

theorem bytes_drop {zs : List Int} (hb : Bytes zs) (j : Nat) : Bytes (zs.drop j) := by
  intro i
  have := hb (j + i)
  simpa [List.getD_eq_getElem?_getD] using this

theorem num_down (zs : List Int) (hb : Bytes zs) (k j : Nat) (hk : k + 1 + j ≤ 8) :
    IntKind.u64.wrap (IntKind.u64.wrap (256 * num (zs.drop (k + 1)) j) + IntKind.u64.wrap (zs.getD k 0)) = num (zs.drop k) (j + 1) := by
  have h := hb k
  have hn := num_bound (zs.drop (k + 1)) (bytes_drop hb _) j
  have e : num (zs.drop k) (j + 1) = zs.getD k 0 + 256 * num (zs.drop (k + 1)) j := by
    rw [num_shift, List.drop_drop]
    simp [List.getD_eq_getElem?_getD]
  rw [e]
  have hp : (256 : Int) ^ j ≤ 72057594037927936 := by
    have h1 : (256 : Nat) ^ j ≤ 256 ^ 7 := Nat.pow_le_pow_right (by omega) (by omega)
    have h2 : ((256 ^ j : Nat) : Int) = (256 : Int) ^ j := by simp
    omega
  generalize num (zs.drop (k + 1)) j = p at *
  generalize zs.getD k 0 = z at *
  rw [u64_in (256 * p) (by omega) (by omega), u64_in z (by omega) (by omega), u64_in _ (by omega) (by omega)]
  omega

set_option maxHeartbeats 400000 in
theorem refGet (A : Option Addr) (n c : Nat) (zs : List Int) (m : Int) (w : World) (S : Nat)
    (hx : Sees w S A n (bv zs)) (hn : n ≤ maxLen) (hb : Bytes zs) :
    Calls Try.prog 21 #[.slice A n c, .int .i64 m] w fun e w' => e = .returned (.tuple #[.int .u64 (getN zs m).1, .int .i64 (getN zs m).2]) ∧ w = w' := by
  unfold maxLen at hn
  have lx := Lib.hid (show zs.length = n by have := hx.len; rwa [bv_length] at this)
  by_cases hm : m < 1 ∨ 8 < m
  · have hg : getN zs m = (0, 1) := by simp [getN, hm]
    have HG := Lib.hid hg
    clear hg
    rcases hm with hm | hm
    · go_enter Try.func21, Try.ntmps21
      go_wp2
      go_ret2
      exact ⟨tup2_of HG.out, rfl⟩
    · have h2 : ¬ m < 1 := by omega
      go_enter Try.func21, Try.ntmps21
      go_wp2
      go_ret2
      exact ⟨tup2_of HG.out, rfl⟩
  · have hm1 : ¬ m < 1 := by omega
    have hm2 : ¬ 8 < m := by omega
    by_cases hl : (n : Int) < m
    · have hg : getN zs m = (0, 5) := by simp [getN, hm]; rw [lx.out]; exact hl
      have HG := Lib.hid hg
      clear hg hm
      go_enter Try.func21, Try.ntmps21
      go_wp2
      go_ret2
      exact ⟨tup2_of HG.out, rfl⟩
    · obtain ⟨mm, rfl⟩ := Int.eq_ofNat_of_zero_le (show 0 ≤ m by omega)
      have hg : getN zs mm = (num zs mm, 0) := by simp [getN, hm]; rw [lx.out]; omega
      have hm8 : mm ≤ 8 := by omega
      have hm1 : 1 ≤ mm := by omega
      have hmn : mm ≤ n := by omega
      have HG := Lib.hid hg
      clear hg hm hl hm2
      go_enter Try.func21, Try.ntmps21
      go_wp2
      go_loop [6, 7] (fun v i => ∃ (k : Nat), k ≤ mm ∧ i = .int .i64 ((k : Int) - 1) ∧ v = .int .u64 (num (zs.drop k) (mm - k))) (fun _ i => (intOf i + 1).toNat)
      case atStart => exact ⟨mm, Nat.le_refl _, rfl, by simp [num]⟩
      case round =>
        obtain ⟨k, hk, rfl, rfl⟩ := hrel
        by_cases hlt : 0 < k
        · obtain ⟨k, rfl⟩ : ∃ j, k = j + 1 := ⟨k - 1, by omega⟩
          obtain ⟨a, rfl, ha, hca⟩ := hx.byte (k := k) (by omega)
          have HS := Lib.hid (num_down zs hb k (mm - (k + 1)) (by omega))
          generalize zs.getD k 0 = z at *
          generalize num (zs.drop (k + 1)) (mm - (k + 1)) = p at *
          have hc1 : (((k + 1 : Nat) : Int) - 1) = (k : Int) := by omega
          rw [hc1]
          clear hc1
          go_wp2
          go_round
          case rel => exact ⟨k, by omega, by go_num, by rw [HS.out, show mm - (k + 1) + 1 = mm - k by omega]⟩
          case measure => simp [intOf]
        · have hk0 : k = 0 := by omega
          subst hk0
          have hc1 : (((0 : Nat) : Int) - 1) = -1 := by omega
          rw [hc1]
          clear hc1
          go_wp2
          go_ret2
          exact ⟨tup2_of HG.out, rfl⟩
end Go.Proofs.Ythpjanfpmmjheaa
