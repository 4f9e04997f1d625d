import Derived.Test.YtolijdbdpnbchaaGet
namespace Go.Proofs.Ytolijdbdpnbchaa
open Go.RowKit
set_option linter.unusedVariables false

theorem tup3_of {k l m : IntKind} {a b c : Int} {p : Int × Int × Int} (h : p = (a, b, c)) : Ending.returned (.tuple #[.int k a, .int l b, .int m c]) = .returned (.tuple #[.int k p.1, .int l p.2.1, .int m p.2.2]) := by rw [h]

theorem getS_bad {zs : List Int} {e : Int} (he : e ≠ 0) (h : mea zs = (0, e)) : getS zs = (0, 0, e) := by simp [getS, h, he]

/-- what has been read when k bytes are through -/
def Pre (zs : List Int) (k : Nat) (p q : Int) : Prop :=
  (k = 0 ∧ p = 0 ∧ q = 1) ∨ (k = 1 ∧ p = zs.getD 0 0 - 128 ∧ q = 128) ∨ (k = 2 ∧ p = zs.getD 0 0 - 128 + 128 * (zs.getD 1 0 - 128) ∧ q = 16384)

theorem Pre.ok {zs : List Int} {k : Nat} {p q z v : Int} (h : Pre zs k p q) (hz : zs.getD k 0 = z) (h0 : 0 ≤ z) (h1 : z < 128) (hm : mea zs = ((k : Int) + 1, 0)) (hv : v = p + z % 128 * q) : getS zs = (v, (k : Int) + 1, 0) := by
  rcases h with ⟨rfl, rfl, rfl⟩ | ⟨rfl, rfl, rfl⟩ | ⟨rfl, rfl, rfl⟩ <;> simp [getS, hm] at * <;> omega

theorem Pre.on {zs : List Int} {k : Nat} {p q z v u : Int} (h : Pre zs k p q) (hz : zs.getD k 0 = z) (h0 : 128 ≤ z) (h1 : z < 256) (hk : k < 2) (hv : v = p + z % 128 * q) (hu : u = q * 128) : Pre zs (k + 1) v u := by
  rcases h with ⟨rfl, rfl, rfl⟩ | ⟨rfl, rfl, rfl⟩ | ⟨rfl, rfl, rfl⟩
  · right; left; refine ⟨rfl, by omega, by omega⟩
  · right; right; refine ⟨rfl, by omega, by omega⟩
  · omega

theorem Pre.bound {zs : List Int} {k : Nat} {p q : Int} (h : Pre zs k p q) (hb : Bytes zs) (h0 : 0 < k → 128 ≤ zs.getD 0 0) (h1 : 1 < k → 128 ≤ zs.getD 1 0) : 0 ≤ p ∧ p < 16384 := by
  have := hb 0
  have := hb 1
  rcases h with ⟨rfl, rfl, rfl⟩ | ⟨rfl, rfl, rfl⟩ | ⟨rfl, rfl, rfl⟩ <;> simp at * <;> omega

set_option maxHeartbeats 1000000 in
theorem refGetShort (A : Option Addr) (n c : Nat) (zs : List Int) (w : World) (S : Nat)
    (hx : Sees w S A n (bv zs)) (hn : n ≤ maxLen) (hb : Bytes zs) :
    Calls Try.prog 43 #[.slice A n c] w fun e w' => e = .returned (.tuple #[.int .i64 (getS zs).1, .int .i64 (getS zs).2.1, .int .i64 (getS zs).2.2]) ∧ w = w' := by
  unfold maxLen at hn
  have lx := Lib.hid (show zs.length = n by have := hx.len; rwa [bv_length] at this)
  have HB := Lib.hid hb
  go_enter Try.func43, Try.ntmps43
  go_wp2
  go_loop [5, 6, 7, 8] (fun p q i _ => ∃ (k : Nat) (P Q : Int), k ≤ n ∧ k ≤ 2 ∧ i = .int .i64 k ∧ p = .int .i64 P ∧ q = .int .i64 Q ∧ (0 < k → 128 ≤ zs.getD 0 0) ∧ (1 < k → 128 ≤ zs.getD 1 0) ∧ Pre zs k P Q) (fun _ _ i _ => n - (intOf i).toNat)
  case atStart => exact ⟨0, 0, 1, Nat.zero_le _, Nat.zero_le _, rfl, rfl, rfl, by omega, by omega, .inl ⟨rfl, rfl, rfl⟩⟩
  case round =>
    obtain ⟨k, p, q, hk, hk2, rfl, rfl, rfl, h0, h1, hp⟩ := hrel
    have hpb := hp.bound hb h0 h1
    have H0 := Lib.hid h0
    have H1 := Lib.hid h1
    have HP := Lib.hid hp
    by_cases hlt : k < n
    · obtain ⟨a, rfl, ha, hca⟩ := hx.byte hlt
      have hbk := hb k
      clear hx hb h0 h1
      generalize hz : zs.getD k 0 = z at hca hbk
      have HZ := Lib.hid hz
      clear hz
      rcases hp with ⟨hkk, -, rfl⟩ | ⟨hkk, -, rfl⟩ | ⟨hkk, -, rfl⟩ <;> (have hle := Nat.le_of_eq hkk; have hge := Nat.le_of_eq hkk.symm; have KK := Lib.hid hkk; clear hkk)
      · by_cases hs : z < 128
        · go_wp2
          go_ret3
          exact ⟨tup3_of (HP.out.ok HZ.out hbk.1 hs (mea_ok lx.out H0.out H1.out hk2 HZ.out hlt (by omega) hs) (by omega)), rfl⟩
        · go_wp2
          go_round
          case rel => exact ⟨k + 1, _, _, by omega, by omega, by go_num, rfl, rfl, (mea_on H0.out H1.out hk2 HZ.out (by omega)).1, (mea_on H0.out H1.out hk2 HZ.out (by omega)).2, HP.out.on HZ.out (by omega) (by omega) (by omega) (by omega) (by omega)⟩
          case measure => simp [intOf]; omega
      · by_cases hz0 : z ≤ 0
        · have hb1 : (z == 0) = true := by simp; omega
          go_wp2
          go_ret3
          exact ⟨tup3_of (getS_bad (by omega) (mea_bad lx.out H0.out H1.out hk2 HZ.out hlt (.inl ⟨by omega, by omega⟩))), rfl⟩
        · have hb1 : (z == 0) = false := by simp; omega
          by_cases hs : z < 128
          · go_wp2
            go_ret3
            exact ⟨tup3_of (HP.out.ok HZ.out hbk.1 hs (mea_ok lx.out H0.out H1.out hk2 HZ.out hlt (by omega) hs) (by omega)), rfl⟩
          · go_wp2
            go_round
            case rel => exact ⟨k + 1, _, _, by omega, by omega, by go_num, rfl, rfl, (mea_on H0.out H1.out hk2 HZ.out (by omega)).1, (mea_on H0.out H1.out hk2 HZ.out (by omega)).2, HP.out.on HZ.out (by omega) (by omega) (by omega) (by omega) (by omega)⟩
            case measure => simp [intOf]; omega
      · by_cases hz0 : z ≤ 0
        · have hb1 : (z == 0) = true := by simp; omega
          go_wp2
          go_ret3
          exact ⟨tup3_of (getS_bad (by omega) (mea_bad lx.out H0.out H1.out hk2 HZ.out hlt (.inl ⟨by omega, by omega⟩))), rfl⟩
        · have hb1 : (z == 0) = false := by simp; omega
          by_cases hs : z ≤ 3
          · go_wp2
            go_ret3
            have e := HP.out.ok (v := p + z % 128 * 16384) HZ.out hbk.1 (by omega) (mea_ok lx.out H0.out H1.out hk2 HZ.out hlt (by omega) (by omega)) (by omega)
            exact ⟨tup3_of (by rw [e, show (k : Int) + 1 = 3 by omega]), rfl⟩
          · go_wp2
            go_ret3
            exact ⟨tup3_of (getS_bad (by omega) (mea_bad lx.out H0.out H1.out hk2 HZ.out hlt (.inr ⟨by omega, by omega⟩))), rfl⟩
    · have HK := Lib.hid (show k = n by omega)
      go_wp2
      go_ret3
      exact ⟨tup3_of (getS_bad (by omega) (mea_end lx.out H0.out H1.out hk2 HK.out)), rfl⟩
end Go.Proofs.Ytolijdbdpnbchaa
