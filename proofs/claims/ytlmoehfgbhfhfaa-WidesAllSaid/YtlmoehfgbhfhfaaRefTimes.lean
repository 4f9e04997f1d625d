/-
  The reference's Times: bit by bit, as one divides by hand.
-/
import Derived.Test.YtlmoehfgbhfhfaaRefMul
import Derived.Test.YtlmoehfgbhfhfaaTimes
namespace Go.Proofs.Ytlmoehfgbhfhfaa
open Go.RowKit
set_option linter.unusedVariables false

theorem u64_and1 (x : Int) (h : Word x) : bits .and .u64 x 1 = x % 2 := by
  obtain ⟨n, rfl, hn⟩ := h.nat
  have e := bits_and_u64_nat n 1 hn (by omega)
  rw [show n &&& 1 = n % 2 from Nat.and_one_is_mod n] at e
  rw [show ((1 : Nat) : Int) = 1 from rfl] at e
  rw [e]; omega

theorem word_shift {x : Int} (h : Word x) (k : Nat) : Word (x / 2 ^ k) := by
  have p : (0 : Int) < 2 ^ k := Int.pow_pos (by omega)
  have : x / 2 ^ k ≤ x := Int.ediv_le_self _ h.1
  exact ⟨Int.ediv_nonneg h.1 (Int.le_of_lt p), by have := h.2; omega⟩

theorem bit_hi {N : Int} (hN : 0 ≤ N) (hh : Word (N / 18446744073709551616)) (k : Nat) (hk : 63 < k) : bits .and .u64 (N / 18446744073709551616 / 2 ^ (k - 64)) 1 = N / 2 ^ k % 2 := by
  have e : (2 : Int) ^ k = 18446744073709551616 * 2 ^ (k - 64) := by
    rw [show (18446744073709551616 : Int) = 2 ^ 64 from rfl, ← Int.pow_add]; congr 1; omega
  rw [u64_and1 _ (word_shift hh _), e, ← Int.ediv_ediv_of_nonneg (by omega)]
theorem bit_lo {N : Int} (k : Nat) (hk : k ≤ 63) : bits .and .u64 (N % 18446744073709551616 / 2 ^ k) 1 = N / 2 ^ k % 2 := by
  rw [u64_and1 _ (word_shift (word_mod N) _)]
  have p : (0 : Int) < 2 ^ k := Int.pow_pos (by omega)
  have e : (18446744073709551616 : Int) = 2 ^ k * (2 * 2 ^ (63 - k)) := by
    rw [show (18446744073709551616 : Int) = 2 ^ 64 from rfl, ← Int.pow_succ', ← Int.pow_add]; congr 1; omega
  have d := Int.mul_ediv_add_emod N 18446744073709551616
  have f : N = N % 18446744073709551616 + 2 ^ k * (2 * 2 ^ (63 - k) * (N / 18446744073709551616)) := by
    rw [← Int.mul_assoc, ← e]; omega
  have g : N / 2 ^ k = N % 18446744073709551616 / 2 ^ k + 2 * (2 ^ (63 - k) * (N / 18446744073709551616)) := by
    conv => lhs; rw [f]
    rw [Int.add_mul_ediv_left _ _ (by omega), Int.mul_assoc]
  rw [g]
  omega

/-- one bit more -/
theorem bit_step {N d : Int} (hN : 0 ≤ N) (hd : 0 < d) (hd' : d < 18446744073709551616) (k : Nat) :
    ∃ x y t X Y z : Int, N / 2 ^ (k + 1) % d = x ∧ N / 2 ^ (k + 1) / d = y ∧ N / 2 ^ k % 2 = t ∧ N / 2 ^ k % d = X ∧ N / 2 ^ k / d = Y ∧ IntKind.u64.wrap (IntKind.u64.wrap (2 * x) + t) = z ∧ 0 ≤ y ∧
      ((9223372036854775808 ≤ x ∧ IntKind.u64.wrap (z - d) = X ∧ Y = 2 * y + 1) ∨ (¬ 9223372036854775808 ≤ x ∧ d ≤ z ∧ IntKind.u64.wrap (z - d) = X ∧ Y = 2 * y + 1) ∨ (¬ 9223372036854775808 ≤ x ∧ ¬ d ≤ z ∧ z = X ∧ Y = 2 * y)) := by
  have p : (0 : Int) < 2 ^ k := Int.pow_pos (by omega)
  have e : N / 2 ^ (k + 1) = N / 2 ^ k / 2 := by rw [Int.pow_succ, ← Int.ediv_ediv_of_nonneg (Int.le_of_lt p)]
  rw [e]
  have hP : 0 ≤ N / 2 ^ k := Int.ediv_nonneg hN (Int.le_of_lt p)
  generalize N / 2 ^ k = P at *
  have q0 : 0 ≤ P / 2 := by omega
  have q1 : P = 2 * (P / 2) + P % 2 := by omega
  have r0 := Int.emod_nonneg (P / 2) (show d ≠ 0 by omega)
  have r1 := Int.emod_lt_of_pos (P / 2) hd
  have r2 := Int.mul_ediv_add_emod (P / 2) d
  have y0 : 0 ≤ P / 2 / d := Int.ediv_nonneg q0 (by omega)
  have t0 : 0 ≤ P % 2 ∧ P % 2 < 2 := by omega
  have key : ∀ c Z : Int, 0 ≤ Z → Z < d → P = d * c + Z → P % d = Z ∧ P / d = c := by
    intro c Z z0 z1 h
    subst h
    constructor
    · rw [Int.add_comm, Int.add_mul_emod_self_left]; exact Int.emod_eq_of_lt z0 z1
    · rw [Int.add_comm, Int.add_mul_ediv_left _ _ (by omega), Int.ediv_eq_zero_of_lt z0 z1]; omega
  refine ⟨_, _, _, _, _, _, rfl, rfl, rfl, rfl, rfl, rfl, y0, ?_⟩
  generalize P / 2 % d = x at *
  generalize P / 2 / d = y at *
  generalize P % 2 = t at *
  simp only [IntKind.wrap_u64]
  have m : d * (2 * y) = 2 * (d * y) := by rw [Int.mul_left_comm]
  have m' : d * (2 * y + 1) = 2 * (d * y) + d := by rw [Int.mul_add, m, Int.mul_one]
  generalize hdy : d * y = D at *
  by_cases c : d ≤ 2 * x + t
  · obtain ⟨k1, k2⟩ := key (2 * y + 1) (2 * x + t - d) (by omega) (by omega) (by rw [m']; omega)
    rw [k1, k2]
    by_cases c2 : 9223372036854775808 ≤ x
    · left; exact ⟨c2, by omega, rfl⟩
    · right; left; exact ⟨c2, by omega, by omega, rfl⟩
  · obtain ⟨k1, k2⟩ := key (2 * y) (2 * x + t) (by omega) (by omega) (by rw [m]; omega)
    rw [k1, k2]
    right; right
    exact ⟨by omega, by omega, by omega, rfl⟩

/-- too big long before the end -/
theorem bit_big {a b d : Int} (ha : Word a) (hb : Word b) (hd : 0 < d) (up : Bool) (k : Nat) (h : 9223372036854775808 ≤ a * b / 2 ^ (k + 1) / d) : times a b d up = 18446744073709551615 := by
  have p := word_prod ha hb
  unfold times
  rw [if_pos]
  have e : (0 : Int) < 2 ^ k := Int.pow_pos (by omega)
  have h1 : 9223372036854775808 * d ≤ a * b / 2 ^ (k + 1) := by
    have := Int.mul_le_of_le_ediv hd h
    exact this
  have h2 : 9223372036854775808 * d * 2 ^ (k + 1) ≤ a * b := Int.mul_le_of_le_ediv (Int.pow_pos (by omega)) h1
  have h3 : 18446744073709551616 * d ≤ 9223372036854775808 * d * 2 ^ (k + 1) := by
    rw [Int.pow_succ, Int.mul_comm ((2 : Int) ^ k) 2, ← Int.mul_assoc]
    have : 9223372036854775808 * d * 2 * 1 ≤ 9223372036854775808 * d * 2 * 2 ^ k := Int.mul_le_mul_of_nonneg_left (by omega) (by omega)
    omega
  exact Int.le_ediv_of_mul_le (by omega) (by omega)

theorem bit_start {a b d : Int} (ha : Word a) (hb : Word b) (hd : 0 < d) : a * b / 2 ^ 128 = 0 := by
  have p := word_prod ha hb
  exact Int.ediv_eq_zero_of_lt p.1 (by omega)

theorem bit_end {a b d : Int} (ha : Word a) (hb : Word b) (hd : 0 < d) (up : Bool) (h : a * b / d ≤ 18446744073709551615) :
    times a b d up = if up = true ∧ 0 < a * b % d then cap (a * b / d + 1) else a * b / d := by
  have p := word_prod ha hb
  unfold times
  rw [if_neg]
  intro c
  have h1 : 18446744073709551616 * d ≤ a * b := by
    have := Int.mul_le_of_le_ediv (show (0 : Int) < 18446744073709551616 by omega) c
    omega
  have := Int.le_ediv_of_mul_le hd h1
  omega

set_option maxHeartbeats 8000000 in
set_option maxRecDepth 100000 in
theorem refTimes_ (a b d : Int) (up : Bool) (w : World) (ha : Word a) (hb : Word b) (hd : Word d) (hd0 : 0 < d) :
    Calls Try.prog 11 #[.int .u64 a, .int .u64 b, .int .u64 d, .bool up] w fun e w' => e = .returned (.int .u64 (times a b d up)) ∧ Below w.heap.size w w' := by
  have M := refMul_ a b ha hb w
  have z0 : (d == 0) = false := by simp; omega
  have hh := word_hi ha hb
  have pp := word_prod ha hb
  have BIG := Lib.hid (bit_big ha hb hd0 up)
  have START := Lib.hid (bit_start ha hb hd0)
  have END := Lib.hid (bit_end ha hb hd0 up)
  obtain ⟨T, eT⟩ : ∃ T, times a b d up = T := ⟨_, rfl⟩
  rw [eT] at BIG END ⊢
  clear eT
  obtain ⟨N, eN⟩ : ∃ N, a * b = N := ⟨_, rfl⟩
  rw [eN] at M hh pp BIG START END
  clear eN
  obtain ⟨hi, eh⟩ : ∃ h, N / 18446744073709551616 = h := ⟨_, rfl⟩
  obtain ⟨lo, el⟩ : ∃ l, N % 18446744073709551616 = l := ⟨_, rfl⟩
  rw [eh, el] at M
  have EH := Lib.hid eh
  have EL := Lib.hid el
  clear eh el
  go_enter Try.func11, Try.ntmps11
  go_wp2_with fail
  refine M.mono ?_
  rintro e w1 ⟨rfl, hbel⟩
  go_wp2
  go_loop [11, 12, 13] (fun r n i => ∃ (k : Nat), k ≤ 128 ∧ i = .int .i64 ((k : Int) - 1) ∧ r = .int .u64 (N / 2 ^ k % d) ∧ n = .int .u64 (N / 2 ^ k / d) ∧ N / 2 ^ k / d ≤ 18446744073709551615) (fun _ _ i => (intOf i + 1).toNat)
  case atStart => exact ⟨128, Nat.le_refl _, rfl, by rw [START.out]; simp, by rw [START.out]; simp, by rw [START.out]; simp⟩
  case round =>
    obtain ⟨k, hk, rfl, rfl, rfl, hq⟩ := hrel
    by_cases hlt : 0 < k
    · obtain ⟨k, rfl⟩ : ∃ j, k = j + 1 := ⟨k - 1, by omega⟩
      have hc1 : (((k + 1 : Nat) : Int) - 1) = (k : Int) := by omega
      rw [hc1]
      clear hc1
      obtain ⟨x, y, t, X, Y, z, hx, hy, ht, hX, hY, hz, y0, hw⟩ := bit_step pp.1 hd0 hd.2 k
      have HB := Lib.hid (BIG.out k)
      have B1 : 63 < k → bits .and .u64 (hi / 2 ^ (k - 64)) 1 = t := fun h => by rw [← EH.out, ← ht]; exact bit_hi pp.1 hh k h
      have B2 : k ≤ 63 → bits .and .u64 (lo / 2 ^ k) 1 = t := fun h => by rw [← EL.out, ← ht]; exact bit_lo k h
      rw [hx, hy]
      rw [hy] at hq HB
      have HX := Lib.hid hX
      have HY := Lib.hid hY
      clear hx hy ht hX hY
      by_cases hbig : 9223372036854775808 ≤ y
      · have HT := Lib.hid (HB.out hbig)
        clear HB
        by_cases hk6 : 63 < k
        · replace B1 := B1 hk6
          clear B2
          have hk7 : 63 < (k : Int) := by omega
          rcases hw with ⟨c1, c2, _⟩ | ⟨c1, c2, c3, _⟩ | ⟨c1, c2, rfl, _⟩
          · go_wp2
            go_ret
            rw [HT.out]
            exact ⟨rfl, hbel⟩
          · go_wp2
            go_ret
            rw [HT.out]
            exact ⟨rfl, hbel⟩
          · go_wp2
            go_ret
            rw [HT.out]
            exact ⟨rfl, hbel⟩
        · replace B2 := B2 (by omega)
          clear B1
          have hk7 : ¬ 63 < (k : Int) := by omega
          have hk8 : min k 64 = k := by omega
          rcases hw with ⟨c1, c2, _⟩ | ⟨c1, c2, c3, _⟩ | ⟨c1, c2, rfl, _⟩
          · go_wp2
            go_ret
            rw [HT.out]
            exact ⟨rfl, hbel⟩
          · go_wp2
            go_ret
            rw [HT.out]
            exact ⟨rfl, hbel⟩
          · go_wp2
            go_ret
            rw [HT.out]
            exact ⟨rfl, hbel⟩
      · clear HB
        have E1 : IntKind.u64.wrap (2 * y) = 2 * y := by rw [IntKind.wrap_u64]; omega
        have E2 : IntKind.u64.wrap (2 * y + 1) = 2 * y + 1 := by rw [IntKind.wrap_u64]; omega
        have y9 : Y ≤ 18446744073709551615 := by omega
        by_cases hk6 : 63 < k
        · replace B1 := B1 hk6
          clear B2
          have hk7 : 63 < (k : Int) := by omega
          rcases hw with ⟨c1, c2, rfl⟩ | ⟨c1, c2, c3, rfl⟩ | ⟨c1, c2, rfl, rfl⟩
          · go_wp2
            go_round
            case rel => exact ⟨k, by omega, by go_num, by rw [HX.out], by rw [HY.out], by rw [HY.out]; exact y9⟩
            case measure => simp [intOf]
          · go_wp2
            go_round
            case rel => exact ⟨k, by omega, by go_num, by rw [HX.out], by rw [HY.out], by rw [HY.out]; exact y9⟩
            case measure => simp [intOf]
          · go_wp2
            go_round
            case rel => exact ⟨k, by omega, by go_num, by rw [HX.out], by rw [HY.out], by rw [HY.out]; exact y9⟩
            case measure => simp [intOf]
        · replace B2 := B2 (by omega)
          clear B1
          have hk7 : ¬ 63 < (k : Int) := by omega
          have hk8 : min k 64 = k := by omega
          rcases hw with ⟨c1, c2, rfl⟩ | ⟨c1, c2, c3, rfl⟩ | ⟨c1, c2, rfl, rfl⟩
          · go_wp2
            go_round
            case rel => exact ⟨k, by omega, by go_num, by rw [HX.out], by rw [HY.out], by rw [HY.out]; exact y9⟩
            case measure => simp [intOf]
          · go_wp2
            go_round
            case rel => exact ⟨k, by omega, by go_num, by rw [HX.out], by rw [HY.out], by rw [HY.out]; exact y9⟩
            case measure => simp [intOf]
          · go_wp2
            go_round
            case rel => exact ⟨k, by omega, by go_num, by rw [HX.out], by rw [HY.out], by rw [HY.out]; exact y9⟩
            case measure => simp [intOf]
    · have hk0 : k = 0 := by omega
      subst hk0
      have hc1 : (((0 : Nat) : Int) - 1) = -1 := by omega
      rw [hc1]
      clear hc1
      have e1 : N / 2 ^ 0 = N := by simp
      rw [e1] at hq ⊢
      have END2 := Lib.hid (END.out hq)
      have r0 := Int.emod_nonneg N (show d ≠ 0 by omega)
      have q0 : 0 ≤ N / d := Int.ediv_nonneg pp.1 (by omega)
      clear BIG START END e1
      generalize N / d = q at *
      generalize N % d = r at *
      cases up
      · go_wp2
        go_ret
        rw [END2.out]
        exact ⟨by simp, hbel⟩
      · by_cases h1 : 0 < r
        · by_cases h2 : q < 18446744073709551615
          · have E1 : IntKind.u64.wrap (q + 1) = cap (q + 1) := by rw [IntKind.wrap_u64]; unfold cap; rw [if_neg (by omega)]; omega
            go_wp2
            go_ret
            rw [END2.out, if_pos (by simp [h1])]
            exact ⟨rfl, hbel⟩
          · have E3 := Lib.hid (show cap (q + 1) = q by unfold cap; rw [if_pos (by omega)]; omega)
            go_wp2
            go_ret
            rw [END2.out, if_pos (by simp [h1]), E3.out]
            exact ⟨rfl, hbel⟩
        · go_wp2
          go_ret
          rw [END2.out, if_neg (by omega)]
          exact ⟨rfl, hbel⟩
end Go.Proofs.Ytlmoehfgbhfhfaa
