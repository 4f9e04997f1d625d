import Derived.Test.YthpjanfpmmjheaaRefPut
namespace Go.Proofs.Ythpjanfpmmjheaa
open Go.RowKit
set_option linter.unusedVariables false

theorem div_step (x : Int) (j : Nat) (h0 : 0 ≤ x) : x / 256 ^ j / 256 = x / 256 ^ (j + 1) := by
  rw [Int.ediv_ediv_of_nonneg (Int.pow_nonneg (by omega)), Int.pow_succ]

theorem div_u64 (x : Int) (j : Nat) (h0 : 0 ≤ x) (h1 : x < 18446744073709551616) : IntKind.u64.wrap ((x / 256 ^ j).tdiv 256) = x / 256 ^ (j + 1) := by
  have hp : (0 : Int) < 256 ^ j := Int.pow_pos (by omega)
  have hq : 0 ≤ x / 256 ^ j := Int.ediv_nonneg h0 (by omega)
  have hq1 : x / 256 ^ j ≤ x := Int.ediv_le_self _ h0
  rw [← div_step x j h0, Int.tdiv_eq_ediv_of_nonneg hq]
  exact u64_in _ (by omega) (by omega)

set_option maxHeartbeats 800000 in
theorem refPuts_in (A : Option Addr) (n c : Nat) (zs : List Int) (w : World) (S : Nat) (x : Int) (K : Nat) (hp : 1 ≤ K) (he : K ≤ 8)
    (hx : Sees w S A n (bv zs)) (hS : S ≤ w.heap.size) (hn : n ≤ 1099511627776) (h0 : 0 ≤ x) (h1 : x < 18446744073709551616) :
    Calls Try.prog 14 #[.slice A n c, .int .u64 x, .int .i64 K] w (OwnRet w 5 (n + K) (zs ++ dig x K)) := by
  obtain ⟨i0, hi, hz0, hz1, hz2⟩ := info_parts info_u8
  have hnil := World.ownsRow_nil w w.heap.size 5 1
  have hone := bv_one zs
  have H1 := Lib.hid h1
  clear h1
  go_enter Try.func14, Try.ntmps14
  go_wp2_with (first
   | (at_builtin; go_must (refine wpList_append_sees rfl (.const (.slice none 0 0)) (.tmp 15) 22 rfl w.heap.size 5 i0 _ 1 Try.underlying22 hi hz0 hz1 hz2 rfl _ 0 _ rfl hnil _ A n c _ rfl hx hone (by unfold maxLen; omega) (by omega) (Nat.le_refl _) ?_); intro v1 w1 hown1 hg1 hat1; have hb1 := below_append (Below.refl w.heap.size w) hnil (Nat.le_refl _) (Nat.le_refl _) hg1))
  clear hnil hg1 hat1
  go_loopw [1, 7, 8] (fun q v i wr => ∃ j : Nat, j ≤ K ∧ i = .int .i64 j ∧ q = .int .u64 (x / 256 ^ j) ∧ wr.ownsRow w.heap.size 5 1 v (n + j) (bv (zs ++ dig x j)) ∧ Below w.heap.size w wr) (fun _ _ i _ => K - (intOf i).toNat)
  case atStart => exact ⟨0, Nat.zero_le _, rfl, by simp, by simpa [dig] using hown1, hb1⟩
  case round =>
    obtain ⟨j, hj, rfl, rfl, hown, hbr⟩ := hrel
    clear hown1 hb1 hx
    have hdig := Lib.hid (dig_succ x j)
    have hdiv := Lib.hid (div_u64 x j h0 H1.out)
    have hq0 : 0 ≤ x / 256 ^ j := Int.ediv_nonneg h0 (Int.pow_nonneg (by omega))
    generalize x / 256 ^ j = q at *
    by_cases hlt : j < K
    · have hown2 := hown.alloc (.cells (bv [q % 256]).toArray 5)
      have hsees := (Row.new wr 5 (bv [q % 256])).sees0
      have hone1 := bv_one [q % 256]
      have hb2 := hbr.alloc hbr.size (.cells (bv [q % 256]).toArray 5)
      have hsz := hb2.size
      go_wp2_with (first
       | (at_builtin; go_must (refine wpList_append_sees rfl (.tmp 22) (.tmp 26) 22 rfl w.heap.size 5 i0 _ 1 Try.underlying22 hi hz0 hz1 hz2 rfl _ (n + j) _ rfl hown2 _ _ 1 _ _ rfl hsees hone1 (by unfold maxLen; omega) (by omega) hsz ?_); intro v3 w3 hown3 hg3 hat3))
      go_roundw
      case rel => exact ⟨j + 1, by omega, by go_num, by rw [hdiv.out], by rw [hdig.out]; simpa [bv, cv, Nat.add_assoc] using hown3, below_append hb2 hown2 (Nat.le_refl _) hsz hg3⟩
      case measure => simp [intOf]; omega
    · have HK := Lib.hid (show j = K by omega)
      go_wp2
      go_ret
      rw [← HK.out]
      exact OwnRet.mk hown hbr
set_option maxHeartbeats 800000 in
theorem refPuts_lo (A : Option Addr) (n c : Nat) (zs : List Int) (w : World) (S : Nat) (x m : Int) (hm : m < 1)
    (hx : Sees w S A n (bv zs)) (hS : S ≤ w.heap.size) (hn : n ≤ 1099511627776) (h0 : 0 ≤ x) (h1 : x < 18446744073709551616) :
    Calls Try.prog 14 #[.slice A n c, .int .u64 x, .int .i64 m] w (OwnRet w 5 (n + 8) (zs ++ dig x 8)) := by
  obtain ⟨i0, hi, hz0, hz1, hz2⟩ := info_parts info_u8
  have hnil := World.ownsRow_nil w w.heap.size 5 1
  have hone := bv_one zs
  have H1 := Lib.hid h1
  clear h1
  go_enter Try.func14, Try.ntmps14
  go_wp2_with (first
   | (at_builtin; go_must (refine wpList_append_sees rfl (.const (.slice none 0 0)) (.tmp 15) 22 rfl w.heap.size 5 i0 _ 1 Try.underlying22 hi hz0 hz1 hz2 rfl _ 0 _ rfl hnil _ A n c _ rfl hx hone (by unfold maxLen; omega) (by omega) (Nat.le_refl _) ?_); intro v1 w1 hown1 hg1 hat1; have hb1 := below_append (Below.refl w.heap.size w) hnil (Nat.le_refl _) (Nat.le_refl _) hg1))
  clear hnil hg1 hat1
  go_loopw [1, 7, 8] (fun q v i wr => ∃ j : Nat, j ≤ 8 ∧ i = .int .i64 j ∧ q = .int .u64 (x / 256 ^ j) ∧ wr.ownsRow w.heap.size 5 1 v (n + j) (bv (zs ++ dig x j)) ∧ Below w.heap.size w wr) (fun _ _ i _ => 8 - (intOf i).toNat)
  case atStart => exact ⟨0, Nat.zero_le _, rfl, by simp, by simpa [dig] using hown1, hb1⟩
  case round =>
    obtain ⟨j, hj, rfl, rfl, hown, hbr⟩ := hrel
    clear hown1 hb1 hx
    have hdig := Lib.hid (dig_succ x j)
    have hdiv := Lib.hid (div_u64 x j h0 H1.out)
    have hq0 : 0 ≤ x / 256 ^ j := Int.ediv_nonneg h0 (Int.pow_nonneg (by omega))
    generalize x / 256 ^ j = q at *
    by_cases hlt : j < 8
    · have hown2 := hown.alloc (.cells (bv [q % 256]).toArray 5)
      have hsees := (Row.new wr 5 (bv [q % 256])).sees0
      have hone1 := bv_one [q % 256]
      have hb2 := hbr.alloc hbr.size (.cells (bv [q % 256]).toArray 5)
      have hsz := hb2.size
      go_wp2_with (first
       | (at_builtin; go_must (refine wpList_append_sees rfl (.tmp 22) (.tmp 26) 22 rfl w.heap.size 5 i0 _ 1 Try.underlying22 hi hz0 hz1 hz2 rfl _ (n + j) _ rfl hown2 _ _ 1 _ _ rfl hsees hone1 (by unfold maxLen; omega) (by omega) hsz ?_); intro v3 w3 hown3 hg3 hat3))
      go_roundw
      case rel => exact ⟨j + 1, by omega, by go_num, by rw [hdiv.out], by rw [hdig.out]; simpa [bv, cv, Nat.add_assoc] using hown3, below_append hb2 hown2 (Nat.le_refl _) hsz hg3⟩
      case measure => simp [intOf]; omega
    · have HK := Lib.hid (show j = 8 by omega)
      go_wp2
      go_ret
      rw [← HK.out]
      exact OwnRet.mk hown hbr
set_option maxHeartbeats 800000 in
theorem refPuts_hi (A : Option Addr) (n c : Nat) (zs : List Int) (w : World) (S : Nat) (x m : Int) (hm : 8 < m)
    (hx : Sees w S A n (bv zs)) (hS : S ≤ w.heap.size) (hn : n ≤ 1099511627776) (h0 : 0 ≤ x) (h1 : x < 18446744073709551616) :
    Calls Try.prog 14 #[.slice A n c, .int .u64 x, .int .i64 m] w (OwnRet w 5 (n + 8) (zs ++ dig x 8)) := by
  obtain ⟨i0, hi, hz0, hz1, hz2⟩ := info_parts info_u8
  have hnil := World.ownsRow_nil w w.heap.size 5 1
  have hone := bv_one zs
  have hm2 : ¬ m < 1 := by omega
  have H1 := Lib.hid h1
  clear h1
  go_enter Try.func14, Try.ntmps14
  go_wp2_with (first
   | (at_builtin; go_must (refine wpList_append_sees rfl (.const (.slice none 0 0)) (.tmp 15) 22 rfl w.heap.size 5 i0 _ 1 Try.underlying22 hi hz0 hz1 hz2 rfl _ 0 _ rfl hnil _ A n c _ rfl hx hone (by unfold maxLen; omega) (by omega) (Nat.le_refl _) ?_); intro v1 w1 hown1 hg1 hat1; have hb1 := below_append (Below.refl w.heap.size w) hnil (Nat.le_refl _) (Nat.le_refl _) hg1))
  clear hnil hg1 hat1
  go_loopw [1, 7, 8] (fun q v i wr => ∃ j : Nat, j ≤ 8 ∧ i = .int .i64 j ∧ q = .int .u64 (x / 256 ^ j) ∧ wr.ownsRow w.heap.size 5 1 v (n + j) (bv (zs ++ dig x j)) ∧ Below w.heap.size w wr) (fun _ _ i _ => 8 - (intOf i).toNat)
  case atStart => exact ⟨0, Nat.zero_le _, rfl, by simp, by simpa [dig] using hown1, hb1⟩
  case round =>
    obtain ⟨j, hj, rfl, rfl, hown, hbr⟩ := hrel
    clear hown1 hb1 hx
    have hdig := Lib.hid (dig_succ x j)
    have hdiv := Lib.hid (div_u64 x j h0 H1.out)
    have hq0 : 0 ≤ x / 256 ^ j := Int.ediv_nonneg h0 (Int.pow_nonneg (by omega))
    generalize x / 256 ^ j = q at *
    by_cases hlt : j < 8
    · have hown2 := hown.alloc (.cells (bv [q % 256]).toArray 5)
      have hsees := (Row.new wr 5 (bv [q % 256])).sees0
      have hone1 := bv_one [q % 256]
      have hb2 := hbr.alloc hbr.size (.cells (bv [q % 256]).toArray 5)
      have hsz := hb2.size
      go_wp2_with (first
       | (at_builtin; go_must (refine wpList_append_sees rfl (.tmp 22) (.tmp 26) 22 rfl w.heap.size 5 i0 _ 1 Try.underlying22 hi hz0 hz1 hz2 rfl _ (n + j) _ rfl hown2 _ _ 1 _ _ rfl hsees hone1 (by unfold maxLen; omega) (by omega) hsz ?_); intro v3 w3 hown3 hg3 hat3))
      go_roundw
      case rel => exact ⟨j + 1, by omega, by go_num, by rw [hdiv.out], by rw [hdig.out]; simpa [bv, cv, Nat.add_assoc] using hown3, below_append hb2 hown2 (Nat.le_refl _) hsz hg3⟩
      case measure => simp [intOf]; omega
    · have HK := Lib.hid (show j = 8 by omega)
      go_wp2
      go_ret
      rw [← HK.out]
      exact OwnRet.mk hown hbr

theorem refPuts (A : Option Addr) (n c : Nat) (zs : List Int) (w : World) (S : Nat) (x m : Int)
    (hx : Sees w S A n (bv zs)) (hS : S ≤ w.heap.size) (hn : n ≤ 1099511627776) (h0 : 0 ≤ x) (h1 : x < 18446744073709551616) :
    Calls Try.prog 14 #[.slice A n c, .int .u64 x, .int .i64 m] w (OwnRet w 5 (n + eff m) (zs ++ dig x (eff m))) := by
  by_cases h : 1 ≤ m ∧ m ≤ 8
  · obtain ⟨k, rfl⟩ := Int.eq_ofNat_of_zero_le (show 0 ≤ m by omega)
    have e : eff k = k := by unfold eff; rw [if_pos h]; simp
    rw [e]
    exact refPuts_in A n c zs w S x k (by omega) (by omega) hx hS hn h0 h1
  · have e : eff m = 8 := by unfold eff; rw [if_neg h]
    rw [e]
    by_cases h' : m < 1
    · exact refPuts_lo A n c zs w S x m h' hx hS hn h0 h1
    · exact refPuts_hi A n c zs w S x m (by omega) hx hS hn h0 h1
end Go.Proofs.Ythpjanfpmmjheaa
