import Derived.Test.YtolijdbdpnbchaaRows
import Derived.Test.YtolijdbdpnbchaaMem
import Derived.Test.YtolijdbdpnbchaaBits
import Derived.WalkKit
import Derived.WalkSpells
import Derived.WalkLawsBesides
import Derived.IntWalk
namespace Go.Proofs.Ytolijdbdpnbchaa
open Go.RowKit
set_option linter.unusedVariables false

/-- how many bytes the short number has that bytes begin with, and what is wrong -/
def mea (zs : List Int) : Int × Int :=
  if zs.length = 0 then (0, 5)
  else if zs.getD 0 0 < 128 then (1, 0)
  else if zs.length = 1 then (0, 5)
  else if zs.getD 1 0 = 0 then (0, 4)
  else if zs.getD 1 0 < 128 then (2, 0)
  else if zs.length = 2 then (0, 5)
  else if zs.getD 2 0 = 0 ∨ 3 < zs.getD 2 0 then (0, 4) else (3, 0)

/-- all are bytes -/
def Bytes (zs : List Int) : Prop := ∀ i, 0 ≤ zs.getD i 0 ∧ zs.getD i 0 < 256

theorem tup2 {k l : IntKind} {a b c d : Int} (h : a = c) (h' : b = d) : Ending.returned (.tuple #[.int k a, .int l b]) = .returned (.tuple #[.int k c, .int l d]) := by rw [h, h']
theorem tup3 {k l m : IntKind} {a b c d e f : Int} (h : a = c) (h' : b = d) (h'' : e = f) : Ending.returned (.tuple #[.int k a, .int l b, .int m e]) = .returned (.tuple #[.int k c, .int l d, .int m f]) := by rw [h, h', h'']

theorem tup2_of {k l : IntKind} {a b : Int} {p : Int × Int} (h : p = (a, b)) : Ending.returned (.tuple #[.int k a, .int l b]) = .returned (.tuple #[.int k p.1, .int l p.2]) := by rw [h]

section
variable {zs : List Int} {n k : Nat} (lx : zs.length = n) (h0 : 0 < k → 128 ≤ zs.getD 0 0) (h1 : 1 < k → 128 ≤ zs.getD 1 0) (h2 : k ≤ 2) {z : Int} (hz : zs.getD k 0 = z)
include lx h0 h1 h2
theorem mea_end (hk : k = n) : mea zs = (0, 5) := by
  subst hk
  obtain rfl | rfl | rfl : k = 0 ∨ k = 1 ∨ k = 2 := by omega
  · simp [mea, lx]
  · have := h0 (by omega); simp only [mea, lx]; rw [if_neg (by omega), if_neg (by omega), if_pos trivial]
  · have := h0 (by omega); have := h1 (by omega); simp only [mea, lx]
    rw [if_neg (by omega), if_neg (by omega), if_neg (by omega), if_neg (by omega), if_neg (by omega), if_pos trivial]
include hz
theorem mea_bad (hk : k < n) (h : (0 < k ∧ z = 0) ∨ (k = 2 ∧ 3 < z)) : mea zs = (0, 4) := by
  obtain rfl | rfl | rfl : k = 0 ∨ k = 1 ∨ k = 2 := by omega
  · omega
  · have := h0 (by omega); simp only [mea, lx]; rw [if_neg (by omega), if_neg (by omega), if_neg (by omega), if_pos (by omega)]
  · have := h0 (by omega); have := h1 (by omega); simp only [mea, lx]
    rw [if_neg (by omega), if_neg (by omega), if_neg (by omega), if_neg (by omega), if_neg (by omega), if_neg (by omega), if_pos (by omega)]
theorem mea_ok (hk : k < n) (h : ¬ ((0 < k ∧ z = 0) ∨ (k = 2 ∧ 3 < z))) (hs : z < 128) : mea zs = ((k : Int) + 1, 0) := by
  obtain rfl | rfl | rfl : k = 0 ∨ k = 1 ∨ k = 2 := by omega
  · simp only [mea, lx]; rw [if_neg (by omega), if_pos (by omega)]; rfl
  · have := h0 (by omega); simp only [mea, lx]; rw [if_neg (by omega), if_neg (by omega), if_neg (by omega), if_neg (by omega), if_pos (by omega)]; rfl
  · have := h0 (by omega); have := h1 (by omega); simp only [mea, lx]
    rw [if_neg (by omega), if_neg (by omega), if_neg (by omega), if_neg (by omega), if_neg (by omega), if_neg (by omega), if_neg (by omega)]; rfl
omit lx in
theorem mea_on (hs : 128 ≤ z) : (0 < k + 1 → 128 ≤ zs.getD 0 0) ∧ (1 < k + 1 → 128 ≤ zs.getD 1 0) := by
  refine ⟨fun _ => ?_, fun _ => ?_⟩
  · by_cases h : k = 0
    · subst h; omega
    · exact h0 (by omega)
  · by_cases h : k = 1
    · subst h; omega
    · exact h1 (by omega)
end

set_option maxHeartbeats 400000 in
theorem measure_ (A : Option Addr) (n c : Nat) (zs : List Int) (w : World) (S : Nat)
    (hx : Sees w S A n (bv zs)) (hn : n ≤ maxLen) (hb : Bytes zs) :
    Calls Try.prog 70 #[.slice A n c] w fun e w' => e = .returned (.tuple #[.int .i64 (mea zs).1, .int .i64 (mea zs).2]) ∧ w = w' := by
  unfold maxLen at hn
  have lx := Lib.hid (show zs.length = n by have := hx.len; rwa [bv_length] at this)
  go_enter Try.func70, Try.ntmps70
  go_wp2
  go_loop [4, 5, 8, 13] (fun _ _ i _ => ∃ k : Nat, k ≤ n ∧ k ≤ 2 ∧ i = .int .i64 k ∧ (0 < k → 128 ≤ zs.getD 0 0) ∧ (1 < k → 128 ≤ zs.getD 1 0)) (fun _ _ i _ => n - (intOf i).toNat)
  case atStart => exact ⟨0, Nat.zero_le _, Nat.zero_le _, rfl, by omega, by omega⟩
  case round =>
    obtain ⟨k, hk, hk2, rfl, h0, h1⟩ := hrel
    have H0 := Lib.hid h0
    have H1 := Lib.hid h1
    clear h0 h1
    by_cases hlt : k < n
    · obtain ⟨a, rfl, ha, hca⟩ := hx.byte hlt
      have hbk := hb k
      generalize hz : zs.getD k 0 = z at hca hbk
      have HZ := Lib.hid hz
      clear hz
      go_wp2
      all_goals first
        | (go_ret2
           first
            | exact ⟨tup2_of (mea_bad lx.out H0.out H1.out hk2 HZ.out hlt (.inl ⟨by assumption, beq_iff_eq.1 (by assumption)⟩)), rfl⟩
            | exact ⟨tup2_of (mea_bad lx.out H0.out H1.out hk2 HZ.out hlt (.inr ⟨by omega, by assumption⟩)), rfl⟩
            | exact ⟨tup2_of (mea_ok lx.out H0.out H1.out hk2 HZ.out hlt (by omega) (by assumption)), rfl⟩
            | (have hz0 := beq_eq_false_iff_ne.1 (show (z == 0) = false by assumption)
               first
                | exact ⟨tup2_of (mea_ok lx.out H0.out H1.out hk2 HZ.out hlt (by omega) (by assumption)), rfl⟩
                | (obtain rfl : k = 2 := by omega
                   exact ⟨tup2_of (mea_ok lx.out H0.out H1.out hk2 HZ.out hlt (by omega) (by assumption)), rfl⟩)))
        | (go_round
           case rel => exact ⟨k + 1, by omega, by omega, by go_num, mea_on H0.out H1.out hk2 HZ.out (by assumption)⟩
           case measure => simp [intOf]; omega)
    · have HK := Lib.hid (show k = n by omega)
      go_wp2
      go_ret2
      exact ⟨tup2_of (mea_end lx.out H0.out H1.out hk2 HK.out), rfl⟩

theorem mea_cases (zs : List Int) (hb : Bytes zs) :
    (mea zs = (0, 4) ∨ mea zs = (0, 5)) ∨ (mea zs = (1, 0) ∧ 1 ≤ zs.length ∧ zs.getD 0 0 < 128) ∨
    (mea zs = (2, 0) ∧ 2 ≤ zs.length ∧ 128 ≤ zs.getD 0 0 ∧ zs.getD 1 0 < 128 ∧ 0 < zs.getD 1 0) ∨
    (mea zs = (3, 0) ∧ 3 ≤ zs.length ∧ 128 ≤ zs.getD 0 0 ∧ 128 ≤ zs.getD 1 0 ∧ zs.getD 2 0 ≤ 3 ∧ 0 < zs.getD 2 0) := by
  have h0 := hb 0
  have h1 := hb 1
  have h2 := hb 2
  unfold mea
  repeat' split
  all_goals first
    | (left; simp; done)
    | (right; left; refine ⟨rfl, by omega, by omega⟩)
    | (right; right; left; refine ⟨rfl, by omega, by omega, by omega, by omega⟩)
    | (right; right; right; refine ⟨rfl, by omega, by omega, by omega, by omega, by omega⟩)

/-- the short number that bytes begin with, how many bytes it took, what is wrong -/
def getS (zs : List Int) : Int × Int × Int :=
  let m := mea zs
  if m.2 = 0 then
    (if m.1 = 1 then zs.getD 0 0 else if m.1 = 2 then zs.getD 0 0 - 128 + 128 * zs.getD 1 0 else zs.getD 0 0 - 128 + 128 * (zs.getD 1 0 - 128) + 16384 * zs.getD 2 0, m.1, 0)
  else (0, 0, m.2)

theorem sum3 (x y z : Int) (h0 : 128 ≤ x ∧ x < 256) (h1 : 128 ≤ y ∧ y < 256) (h2 : 0 ≤ z ∧ z ≤ 3) :
    bits .or .i64 (bits .or .i64 (bits .or .i64 0 (z * 16384)) (wrap64 (wrap64 (bits .and .u8 y 127) * 128))) (wrap64 (bits .and .u8 x 127)) = x - 128 + 128 * (y - 128) + 16384 * z := by
  rw [u8_and127 y (by omega) (by omega), u8_and127 x (by omega) (by omega), i64_or_zero _ (by omega) (by omega), IntWalk.wrap64_in (y % 128) ⟨by omega, by omega⟩, IntWalk.wrap64_in _ ⟨by omega, by omega⟩, IntWalk.wrap64_in (x % 128) ⟨by omega, by omega⟩,
    i64_or_hi 14 (y % 128 * 128) (z * 16384) (by omega) (by omega) (by omega) (by omega) (by omega) (by omega), i64_or_hi 7 (x % 128) _ (by omega) (by omega) (by omega) (by omega) (by omega) (by omega)]
  omega
theorem sum2 (x y : Int) (h0 : 128 ≤ x ∧ x < 256) (h1 : 0 ≤ y ∧ y < 128) :
    bits .or .i64 (bits .or .i64 0 (wrap64 (wrap64 (bits .and .u8 y 127) * 128))) (wrap64 (bits .and .u8 x 127)) = x - 128 + 128 * y := by
  rw [u8_and127 y (by omega) (by omega), u8_and127 x (by omega) (by omega), IntWalk.wrap64_in (y % 128) ⟨by omega, by omega⟩, IntWalk.wrap64_in _ ⟨by omega, by omega⟩, IntWalk.wrap64_in (x % 128) ⟨by omega, by omega⟩, i64_or_zero _ (by omega) (by omega),
    i64_or_hi 7 (x % 128) _ (by omega) (by omega) (by omega) (by omega) (by omega) (by omega)]
  omega
theorem sum1 (x : Int) (h0 : 0 ≤ x ∧ x < 128) : bits .or .i64 0 (wrap64 (bits .and .u8 x 127)) = x := by
  rw [u8_and127 x (by omega) (by omega), IntWalk.wrap64_in (x % 128) ⟨by omega, by omega⟩, i64_or_zero _ (by omega) (by omega)]
  omega

section
variable (A : Option Addr) (n c : Nat) (w : World)
set_option maxHeartbeats 400000 in
theorem getShort_bad (e5 : Int) (h5 : (e5 != 0) = true) (M : Hid (Calls Try.prog 70 #[.slice A n c] w fun e w' => e = .returned (.tuple #[.int .i64 0, .int .i64 e5]) ∧ w = w')) :
    Calls Try.prog 60 #[.slice A n c] w fun e w' => e = .returned (.tuple #[.int .i64 0, .int .i64 0, .int .i64 e5]) ∧ w = w' := by
  go_enter Try.func60, Try.ntmps60
  go_wp2_with fail
  refine M.out.mono ?_
  rintro e w1 ⟨rfl, rfl⟩
  go_wp2_with fail
  go_ret3
  exact ⟨rfl, rfl⟩
variable (a : Addr) (x y z : Int)
set_option maxHeartbeats 400000 in
theorem getShort_3 (M : Hid (Calls Try.prog 70 #[.slice (some a) n c] w fun e w' => e = .returned (.tuple #[.int .i64 3, .int .i64 0]) ∧ w = w'))
    (ca : w.cell? a = some (.int .u8 x)) (cb : w.cell? ⟨a.block, a.off + 1, none⟩ = some (.int .u8 y)) (cc : w.cell? ⟨a.block, a.off + 2, none⟩ = some (.int .u8 z)) (hn3 : 2 < n) (hn : n ≤ 2 ^ 63 - 1)
    (h0 : 128 ≤ x ∧ x < 256) (h1 : 128 ≤ y ∧ y < 256) (h2 : 0 ≤ z ∧ z ≤ 3) :
    Calls Try.prog 60 #[.slice (some a) n c] w fun e w' => e = .returned (.tuple #[.int .i64 (x - 128 + 128 * (y - 128) + 16384 * z), .int .i64 3, .int .i64 0]) ∧ w = w' := by
  go_enter Try.func60, Try.ntmps60
  go_wp2_with fail
  refine M.out.mono ?_
  rintro e w1 ⟨rfl, rfl⟩
  go_wp2_with fail
  go_ret3
  exact ⟨tup3 (sum3 x y z h0 h1 h2) rfl rfl, rfl⟩
set_option maxHeartbeats 400000 in
theorem getShort_2 (M : Hid (Calls Try.prog 70 #[.slice (some a) n c] w fun e w' => e = .returned (.tuple #[.int .i64 2, .int .i64 0]) ∧ w = w'))
    (ca : w.cell? a = some (.int .u8 x)) (cb : w.cell? ⟨a.block, a.off + 1, none⟩ = some (.int .u8 y)) (hn3 : 1 < n) (hn : n ≤ 2 ^ 63 - 1)
    (h0 : 128 ≤ x ∧ x < 256) (h1 : 0 ≤ y ∧ y < 128) :
    Calls Try.prog 60 #[.slice (some a) n c] w fun e w' => e = .returned (.tuple #[.int .i64 (x - 128 + 128 * y), .int .i64 2, .int .i64 0]) ∧ w = w' := by
  go_enter Try.func60, Try.ntmps60
  go_wp2_with fail
  refine M.out.mono ?_
  rintro e w1 ⟨rfl, rfl⟩
  go_wp2_with fail
  go_ret3
  exact ⟨tup3 (sum2 x y h0 h1) rfl rfl, rfl⟩
set_option maxHeartbeats 400000 in
theorem getShort_1 (M : Hid (Calls Try.prog 70 #[.slice (some a) n c] w fun e w' => e = .returned (.tuple #[.int .i64 1, .int .i64 0]) ∧ w = w'))
    (ca : w.cell? a = some (.int .u8 x)) (hn3 : 0 < n) (hn : n ≤ 2 ^ 63 - 1)
    (h0 : 0 ≤ x ∧ x < 128) :
    Calls Try.prog 60 #[.slice (some a) n c] w fun e w' => e = .returned (.tuple #[.int .i64 x, .int .i64 1, .int .i64 0]) ∧ w = w' := by
  go_enter Try.func60, Try.ntmps60
  go_wp2_with fail
  refine M.out.mono ?_
  rintro e w1 ⟨rfl, rfl⟩
  go_wp2_with fail
  go_ret3
  exact ⟨tup3 (sum1 x h0) rfl rfl, rfl⟩
end

theorem getShort (A : Option Addr) (n c : Nat) (zs : List Int) (w : World) (S : Nat)
    (hx : Sees w S A n (bv zs)) (hn : n ≤ maxLen) (hb : Bytes zs) :
    Calls Try.prog 60 #[.slice A n c] w fun e w' => e = .returned (.tuple #[.int .i64 (getS zs).1, .int .i64 (getS zs).2.1, .int .i64 (getS zs).2.2]) ∧ w = w' := by
  have M := measure_ A n c zs w S hx hn hb
  unfold maxLen at hn
  have lx := (show zs.length = n by have := hx.len; rwa [bv_length] at this)
  have h0 := hb 0
  have h1 := hb 1
  have h2 := hb 2
  rcases mea_cases zs hb with (h | h) | ⟨h, hl, ha⟩ | ⟨h, hl, ha, hbb, hb2⟩ | ⟨h, hl, ha, hbb, hcc, hc2⟩
  · have hg : getS zs = (0, 0, 4) := by simp [getS, h]
    rw [h] at M
    rw [hg]
    exact getShort_bad A n c w 4 rfl (Lib.hid M)
  · have hg : getS zs = (0, 0, 5) := by simp [getS, h]
    rw [h] at M
    rw [hg]
    exact getShort_bad A n c w 5 rfl (Lib.hid M)
  · have hg : getS zs = (zs.getD 0 0, 1, 0) := by simp [getS, h]
    rw [h] at M
    rw [hg]
    obtain ⟨a, rfl, _, ca⟩ := hx.byte (k := 0) (by omega)
    exact getShort_1 n c w a _ (Lib.hid M) ca (by omega) hn ⟨h0.1, ha⟩
  · have hg : getS zs = (zs.getD 0 0 - 128 + 128 * zs.getD 1 0, 2, 0) := by simp [getS, h]
    rw [h] at M
    rw [hg]
    obtain ⟨a, rfl, _, ca⟩ := hx.byte (k := 0) (by omega)
    obtain ⟨_, e1, _, cb⟩ := hx.byte (k := 1) (by omega)
    cases e1
    exact getShort_2 n c w a _ _ (Lib.hid M) ca cb (by omega) hn ⟨ha, h0.2⟩ ⟨h1.1, hbb⟩
  · have hg : getS zs = (zs.getD 0 0 - 128 + 128 * (zs.getD 1 0 - 128) + 16384 * zs.getD 2 0, 3, 0) := by simp [getS, h]
    rw [h] at M
    rw [hg]
    obtain ⟨a, rfl, _, ca⟩ := hx.byte (k := 0) (by omega)
    obtain ⟨_, e1, _, cb⟩ := hx.byte (k := 1) (by omega)
    cases e1
    obtain ⟨_, e1, _, cc⟩ := hx.byte (k := 2) (by omega)
    cases e1
    exact getShort_3 n c w a _ _ _ (Lib.hid M) ca cb cc (by omega) hn ⟨ha, h0.2⟩ ⟨hbb, h1.2⟩ ⟨h2.1, hcc⟩
end Go.Proofs.Ytolijdbdpnbchaa
