import Derived.Test.YthpjanfpmmjheaaLives
namespace Go.Proofs.Ythpjanfpmmjheaa
open Go.RowKit
set_option linter.unusedVariables false

theorem short_len (x : Int) : (short x).length = if x < 128 then 1 else if x < 16384 then 2 else 3 := by
  unfold short; split <;> (try split) <;> simp

theorem put_len (x : Int) (n : Nat) (w : World) (hn : (short x).length = n) (h0 : 0 ≤ x) (h1 : x ≤ 65535) :
    Calls Try.prog 22 #[.int .i64 x] w fun e w' => ∃ g, e = .returned (.slice (some ⟨g, 0, none⟩) n n) ∧ Below w.heap.size w w' := by
  refine (put_ x w h0 h1).mono ?_
  rintro e w' ⟨g, rfl, _, _, hb⟩
  rw [hn]
  exact ⟨g, rfl, hb⟩

set_option maxHeartbeats 1000000 in
theorem rise_ab1 (a b : Int) (w : World) (a0 : 0 ≤ a) (a1 : a ≤ 65535) (b0 : 0 ≤ b) (b1 : b ≤ 65535) (hc : a < b) (r : a < 128) :
    Calls Try.prog 7 #[.int .u16 a, .int .u16 b] w fun e w' => e = .returned (.bool true) ∧ Below w.heap.size w w' := by
  obtain ⟨l1, h1⟩ : ∃ n, (short a).length = n := ⟨_, rfl⟩
  obtain ⟨l2, h2⟩ : ∃ n, (short b).length = n := ⟨_, rfl⟩
  have hl : l1 ≤ l2 := by rw [← h1, ← h2, short_len, short_len]; (repeat' split) <;> omega
  have hm : (short a).length = 1 := by rw [short_len]; (repeat' split) <;> omega
  have H1 := Lib.hid h1
  have H2 := Lib.hid h2
  have HM := Lib.hid hm
  clear h1 h2 hm
  go_enter Try.func7, Try.ntmps7
  go_wp2_with fail
  refine (put_len _ l1 _ H1.out (by omega) (by omega)).mono ?_
  rintro e w1 ⟨g1, rfl, hb1⟩
  go_wp2_with fail
  refine (put_len _ l2 _ H2.out (by omega) (by omega)).mono ?_
  rintro e w2 ⟨g2, rfl, hb2⟩
  go_wp2_with fail
  refine (putShort_bad _ _ _ _ _ (by omega)).mono ?_
  rintro e w3 ⟨rfl, rfl⟩
  go_wp2_with fail
  refine (putShort_bad _ _ _ _ _ (by omega)).mono ?_
  rintro e w3 ⟨rfl, rfl⟩
  go_wp2_with fail
  refine (put_len _ 1 _ HM.out (by omega) (by omega)).mono ?_
  rintro e w4 ⟨g4, rfl, hb4⟩
  go_wp2_with fail
  refine (lives _).mono ?_
  rintro e w5 ⟨rfl, hb5⟩
  go_wp2_with fail
  go_ret
  refine ⟨rfl, ?_⟩
  have s1 := hb1.size
  have s2 := hb2.size
  have s4 := hb4.size
  exact ((hb1.trans (hb2.mono (by omega))).trans (hb4.mono (by omega))).trans (hb5.mono (by omega))

set_option maxHeartbeats 1000000 in
theorem rise_ab2 (a b : Int) (w : World) (a0 : 0 ≤ a) (a1 : a ≤ 65535) (b0 : 0 ≤ b) (b1 : b ≤ 65535) (hc : a < b) (r : 128 ≤ a) (r' : a < 16384) :
    Calls Try.prog 7 #[.int .u16 a, .int .u16 b] w fun e w' => e = .returned (.bool true) ∧ Below w.heap.size w w' := by
  obtain ⟨l1, h1⟩ : ∃ n, (short a).length = n := ⟨_, rfl⟩
  obtain ⟨l2, h2⟩ : ∃ n, (short b).length = n := ⟨_, rfl⟩
  have hl : l1 ≤ l2 := by rw [← h1, ← h2, short_len, short_len]; (repeat' split) <;> omega
  have hm : (short a).length = 2 := by rw [short_len]; (repeat' split) <;> omega
  have H1 := Lib.hid h1
  have H2 := Lib.hid h2
  have HM := Lib.hid hm
  clear h1 h2 hm
  go_enter Try.func7, Try.ntmps7
  go_wp2_with fail
  refine (put_len _ l1 _ H1.out (by omega) (by omega)).mono ?_
  rintro e w1 ⟨g1, rfl, hb1⟩
  go_wp2_with fail
  refine (put_len _ l2 _ H2.out (by omega) (by omega)).mono ?_
  rintro e w2 ⟨g2, rfl, hb2⟩
  go_wp2_with fail
  refine (putShort_bad _ _ _ _ _ (by omega)).mono ?_
  rintro e w3 ⟨rfl, rfl⟩
  go_wp2_with fail
  refine (putShort_bad _ _ _ _ _ (by omega)).mono ?_
  rintro e w3 ⟨rfl, rfl⟩
  go_wp2_with fail
  refine (put_len _ 2 _ HM.out (by omega) (by omega)).mono ?_
  rintro e w4 ⟨g4, rfl, hb4⟩
  go_wp2_with fail
  refine (lives _).mono ?_
  rintro e w5 ⟨rfl, hb5⟩
  go_wp2_with fail
  go_ret
  refine ⟨rfl, ?_⟩
  have s1 := hb1.size
  have s2 := hb2.size
  have s4 := hb4.size
  exact ((hb1.trans (hb2.mono (by omega))).trans (hb4.mono (by omega))).trans (hb5.mono (by omega))

set_option maxHeartbeats 1000000 in
theorem rise_ab3 (a b : Int) (w : World) (a0 : 0 ≤ a) (a1 : a ≤ 65535) (b0 : 0 ≤ b) (b1 : b ≤ 65535) (hc : a < b) (r : 16384 ≤ a) :
    Calls Try.prog 7 #[.int .u16 a, .int .u16 b] w fun e w' => e = .returned (.bool true) ∧ Below w.heap.size w w' := by
  obtain ⟨l1, h1⟩ : ∃ n, (short a).length = n := ⟨_, rfl⟩
  obtain ⟨l2, h2⟩ : ∃ n, (short b).length = n := ⟨_, rfl⟩
  have hl : l1 ≤ l2 := by rw [← h1, ← h2, short_len, short_len]; (repeat' split) <;> omega
  have hm : (short a).length = 3 := by rw [short_len]; (repeat' split) <;> omega
  have H1 := Lib.hid h1
  have H2 := Lib.hid h2
  have HM := Lib.hid hm
  clear h1 h2 hm
  go_enter Try.func7, Try.ntmps7
  go_wp2_with fail
  refine (put_len _ l1 _ H1.out (by omega) (by omega)).mono ?_
  rintro e w1 ⟨g1, rfl, hb1⟩
  go_wp2_with fail
  refine (put_len _ l2 _ H2.out (by omega) (by omega)).mono ?_
  rintro e w2 ⟨g2, rfl, hb2⟩
  go_wp2_with fail
  refine (putShort_bad _ _ _ _ _ (by omega)).mono ?_
  rintro e w3 ⟨rfl, rfl⟩
  go_wp2_with fail
  refine (putShort_bad _ _ _ _ _ (by omega)).mono ?_
  rintro e w3 ⟨rfl, rfl⟩
  go_wp2_with fail
  refine (put_len _ 3 _ HM.out (by omega) (by omega)).mono ?_
  rintro e w4 ⟨g4, rfl, hb4⟩
  go_wp2_with fail
  refine (lives _).mono ?_
  rintro e w5 ⟨rfl, hb5⟩
  go_wp2_with fail
  go_ret
  refine ⟨rfl, ?_⟩
  have s1 := hb1.size
  have s2 := hb2.size
  have s4 := hb4.size
  exact ((hb1.trans (hb2.mono (by omega))).trans (hb4.mono (by omega))).trans (hb5.mono (by omega))

set_option maxHeartbeats 1000000 in
theorem rise_eq1 (a : Int) (w : World) (a0 : 0 ≤ a) (a1 : a ≤ 65535) (r : a < 128) :
    Calls Try.prog 7 #[.int .u16 a, .int .u16 a] w fun e w' => e = .returned (.bool true) ∧ Below w.heap.size w w' := by
  obtain ⟨l1, h1⟩ : ∃ n, (short a).length = n := ⟨_, rfl⟩
  obtain ⟨l2, h2⟩ : ∃ n, (short a).length = n := ⟨_, rfl⟩
  have hl : l1 ≤ l2 := by omega
  have hm : (short a).length = 1 := by rw [short_len]; (repeat' split) <;> omega
  have H1 := Lib.hid h1
  have H2 := Lib.hid h2
  have HM := Lib.hid hm
  clear h1 h2 hm
  go_enter Try.func7, Try.ntmps7
  go_wp2_with fail
  refine (put_len _ l1 _ H1.out (by omega) (by omega)).mono ?_
  rintro e w1 ⟨g1, rfl, hb1⟩
  go_wp2_with fail
  refine (put_len _ l2 _ H2.out (by omega) (by omega)).mono ?_
  rintro e w2 ⟨g2, rfl, hb2⟩
  go_wp2_with fail
  refine (putShort_bad _ _ _ _ _ (by omega)).mono ?_
  rintro e w3 ⟨rfl, rfl⟩
  go_wp2_with fail
  refine (putShort_bad _ _ _ _ _ (by omega)).mono ?_
  rintro e w3 ⟨rfl, rfl⟩
  go_wp2_with fail
  refine (put_len _ 1 _ HM.out (by omega) (by omega)).mono ?_
  rintro e w4 ⟨g4, rfl, hb4⟩
  go_wp2_with fail
  refine (lives _).mono ?_
  rintro e w5 ⟨rfl, hb5⟩
  go_wp2_with fail
  go_ret
  refine ⟨rfl, ?_⟩
  have s1 := hb1.size
  have s2 := hb2.size
  have s4 := hb4.size
  exact ((hb1.trans (hb2.mono (by omega))).trans (hb4.mono (by omega))).trans (hb5.mono (by omega))

set_option maxHeartbeats 1000000 in
theorem rise_eq2 (a : Int) (w : World) (a0 : 0 ≤ a) (a1 : a ≤ 65535) (r : 128 ≤ a) (r' : a < 16384) :
    Calls Try.prog 7 #[.int .u16 a, .int .u16 a] w fun e w' => e = .returned (.bool true) ∧ Below w.heap.size w w' := by
  obtain ⟨l1, h1⟩ : ∃ n, (short a).length = n := ⟨_, rfl⟩
  obtain ⟨l2, h2⟩ : ∃ n, (short a).length = n := ⟨_, rfl⟩
  have hl : l1 ≤ l2 := by omega
  have hm : (short a).length = 2 := by rw [short_len]; (repeat' split) <;> omega
  have H1 := Lib.hid h1
  have H2 := Lib.hid h2
  have HM := Lib.hid hm
  clear h1 h2 hm
  go_enter Try.func7, Try.ntmps7
  go_wp2_with fail
  refine (put_len _ l1 _ H1.out (by omega) (by omega)).mono ?_
  rintro e w1 ⟨g1, rfl, hb1⟩
  go_wp2_with fail
  refine (put_len _ l2 _ H2.out (by omega) (by omega)).mono ?_
  rintro e w2 ⟨g2, rfl, hb2⟩
  go_wp2_with fail
  refine (putShort_bad _ _ _ _ _ (by omega)).mono ?_
  rintro e w3 ⟨rfl, rfl⟩
  go_wp2_with fail
  refine (putShort_bad _ _ _ _ _ (by omega)).mono ?_
  rintro e w3 ⟨rfl, rfl⟩
  go_wp2_with fail
  refine (put_len _ 2 _ HM.out (by omega) (by omega)).mono ?_
  rintro e w4 ⟨g4, rfl, hb4⟩
  go_wp2_with fail
  refine (lives _).mono ?_
  rintro e w5 ⟨rfl, hb5⟩
  go_wp2_with fail
  go_ret
  refine ⟨rfl, ?_⟩
  have s1 := hb1.size
  have s2 := hb2.size
  have s4 := hb4.size
  exact ((hb1.trans (hb2.mono (by omega))).trans (hb4.mono (by omega))).trans (hb5.mono (by omega))

set_option maxHeartbeats 1000000 in
theorem rise_eq3 (a : Int) (w : World) (a0 : 0 ≤ a) (a1 : a ≤ 65535) (r : 16384 ≤ a) :
    Calls Try.prog 7 #[.int .u16 a, .int .u16 a] w fun e w' => e = .returned (.bool true) ∧ Below w.heap.size w w' := by
  obtain ⟨l1, h1⟩ : ∃ n, (short a).length = n := ⟨_, rfl⟩
  obtain ⟨l2, h2⟩ : ∃ n, (short a).length = n := ⟨_, rfl⟩
  have hl : l1 ≤ l2 := by omega
  have hm : (short a).length = 3 := by rw [short_len]; (repeat' split) <;> omega
  have H1 := Lib.hid h1
  have H2 := Lib.hid h2
  have HM := Lib.hid hm
  clear h1 h2 hm
  go_enter Try.func7, Try.ntmps7
  go_wp2_with fail
  refine (put_len _ l1 _ H1.out (by omega) (by omega)).mono ?_
  rintro e w1 ⟨g1, rfl, hb1⟩
  go_wp2_with fail
  refine (put_len _ l2 _ H2.out (by omega) (by omega)).mono ?_
  rintro e w2 ⟨g2, rfl, hb2⟩
  go_wp2_with fail
  refine (putShort_bad _ _ _ _ _ (by omega)).mono ?_
  rintro e w3 ⟨rfl, rfl⟩
  go_wp2_with fail
  refine (putShort_bad _ _ _ _ _ (by omega)).mono ?_
  rintro e w3 ⟨rfl, rfl⟩
  go_wp2_with fail
  refine (put_len _ 3 _ HM.out (by omega) (by omega)).mono ?_
  rintro e w4 ⟨g4, rfl, hb4⟩
  go_wp2_with fail
  refine (lives _).mono ?_
  rintro e w5 ⟨rfl, hb5⟩
  go_wp2_with fail
  go_ret
  refine ⟨rfl, ?_⟩
  have s1 := hb1.size
  have s2 := hb2.size
  have s4 := hb4.size
  exact ((hb1.trans (hb2.mono (by omega))).trans (hb4.mono (by omega))).trans (hb5.mono (by omega))

set_option maxHeartbeats 1000000 in
theorem rise_ba1 (a b : Int) (w : World) (a0 : 0 ≤ a) (a1 : a ≤ 65535) (b0 : 0 ≤ b) (b1 : b ≤ 65535) (hc : b < a) (r : a < 128) :
    Calls Try.prog 7 #[.int .u16 a, .int .u16 b] w fun e w' => e = .returned (.bool true) ∧ Below w.heap.size w w' := by
  obtain ⟨l1, h1⟩ : ∃ n, (short b).length = n := ⟨_, rfl⟩
  obtain ⟨l2, h2⟩ : ∃ n, (short a).length = n := ⟨_, rfl⟩
  have hl : l1 ≤ l2 := by rw [← h1, ← h2, short_len, short_len]; (repeat' split) <;> omega
  have hm : (short a).length = 1 := by rw [short_len]; (repeat' split) <;> omega
  have H1 := Lib.hid h1
  have H2 := Lib.hid h2
  have HM := Lib.hid hm
  clear h1 h2 hm
  go_enter Try.func7, Try.ntmps7
  go_wp2_with fail
  refine (put_len _ l1 _ H1.out (by omega) (by omega)).mono ?_
  rintro e w1 ⟨g1, rfl, hb1⟩
  go_wp2_with fail
  refine (put_len _ l2 _ H2.out (by omega) (by omega)).mono ?_
  rintro e w2 ⟨g2, rfl, hb2⟩
  go_wp2_with fail
  refine (putShort_bad _ _ _ _ _ (by omega)).mono ?_
  rintro e w3 ⟨rfl, rfl⟩
  go_wp2_with fail
  refine (putShort_bad _ _ _ _ _ (by omega)).mono ?_
  rintro e w3 ⟨rfl, rfl⟩
  go_wp2_with fail
  refine (put_len _ 1 _ HM.out (by omega) (by omega)).mono ?_
  rintro e w4 ⟨g4, rfl, hb4⟩
  go_wp2_with fail
  refine (lives _).mono ?_
  rintro e w5 ⟨rfl, hb5⟩
  go_wp2_with fail
  go_ret
  refine ⟨rfl, ?_⟩
  have s1 := hb1.size
  have s2 := hb2.size
  have s4 := hb4.size
  exact ((hb1.trans (hb2.mono (by omega))).trans (hb4.mono (by omega))).trans (hb5.mono (by omega))

set_option maxHeartbeats 1000000 in
theorem rise_ba2 (a b : Int) (w : World) (a0 : 0 ≤ a) (a1 : a ≤ 65535) (b0 : 0 ≤ b) (b1 : b ≤ 65535) (hc : b < a) (r : 128 ≤ a) (r' : a < 16384) :
    Calls Try.prog 7 #[.int .u16 a, .int .u16 b] w fun e w' => e = .returned (.bool true) ∧ Below w.heap.size w w' := by
  obtain ⟨l1, h1⟩ : ∃ n, (short b).length = n := ⟨_, rfl⟩
  obtain ⟨l2, h2⟩ : ∃ n, (short a).length = n := ⟨_, rfl⟩
  have hl : l1 ≤ l2 := by rw [← h1, ← h2, short_len, short_len]; (repeat' split) <;> omega
  have hm : (short a).length = 2 := by rw [short_len]; (repeat' split) <;> omega
  have H1 := Lib.hid h1
  have H2 := Lib.hid h2
  have HM := Lib.hid hm
  clear h1 h2 hm
  go_enter Try.func7, Try.ntmps7
  go_wp2_with fail
  refine (put_len _ l1 _ H1.out (by omega) (by omega)).mono ?_
  rintro e w1 ⟨g1, rfl, hb1⟩
  go_wp2_with fail
  refine (put_len _ l2 _ H2.out (by omega) (by omega)).mono ?_
  rintro e w2 ⟨g2, rfl, hb2⟩
  go_wp2_with fail
  refine (putShort_bad _ _ _ _ _ (by omega)).mono ?_
  rintro e w3 ⟨rfl, rfl⟩
  go_wp2_with fail
  refine (putShort_bad _ _ _ _ _ (by omega)).mono ?_
  rintro e w3 ⟨rfl, rfl⟩
  go_wp2_with fail
  refine (put_len _ 2 _ HM.out (by omega) (by omega)).mono ?_
  rintro e w4 ⟨g4, rfl, hb4⟩
  go_wp2_with fail
  refine (lives _).mono ?_
  rintro e w5 ⟨rfl, hb5⟩
  go_wp2_with fail
  go_ret
  refine ⟨rfl, ?_⟩
  have s1 := hb1.size
  have s2 := hb2.size
  have s4 := hb4.size
  exact ((hb1.trans (hb2.mono (by omega))).trans (hb4.mono (by omega))).trans (hb5.mono (by omega))

set_option maxHeartbeats 1000000 in
theorem rise_ba3 (a b : Int) (w : World) (a0 : 0 ≤ a) (a1 : a ≤ 65535) (b0 : 0 ≤ b) (b1 : b ≤ 65535) (hc : b < a) (r : 16384 ≤ a) :
    Calls Try.prog 7 #[.int .u16 a, .int .u16 b] w fun e w' => e = .returned (.bool true) ∧ Below w.heap.size w w' := by
  obtain ⟨l1, h1⟩ : ∃ n, (short b).length = n := ⟨_, rfl⟩
  obtain ⟨l2, h2⟩ : ∃ n, (short a).length = n := ⟨_, rfl⟩
  have hl : l1 ≤ l2 := by rw [← h1, ← h2, short_len, short_len]; (repeat' split) <;> omega
  have hm : (short a).length = 3 := by rw [short_len]; (repeat' split) <;> omega
  have H1 := Lib.hid h1
  have H2 := Lib.hid h2
  have HM := Lib.hid hm
  clear h1 h2 hm
  go_enter Try.func7, Try.ntmps7
  go_wp2_with fail
  refine (put_len _ l1 _ H1.out (by omega) (by omega)).mono ?_
  rintro e w1 ⟨g1, rfl, hb1⟩
  go_wp2_with fail
  refine (put_len _ l2 _ H2.out (by omega) (by omega)).mono ?_
  rintro e w2 ⟨g2, rfl, hb2⟩
  go_wp2_with fail
  refine (putShort_bad _ _ _ _ _ (by omega)).mono ?_
  rintro e w3 ⟨rfl, rfl⟩
  go_wp2_with fail
  refine (putShort_bad _ _ _ _ _ (by omega)).mono ?_
  rintro e w3 ⟨rfl, rfl⟩
  go_wp2_with fail
  refine (put_len _ 3 _ HM.out (by omega) (by omega)).mono ?_
  rintro e w4 ⟨g4, rfl, hb4⟩
  go_wp2_with fail
  refine (lives _).mono ?_
  rintro e w5 ⟨rfl, hb5⟩
  go_wp2_with fail
  go_ret
  refine ⟨rfl, ?_⟩
  have s1 := hb1.size
  have s2 := hb2.size
  have s4 := hb4.size
  exact ((hb1.trans (hb2.mono (by omega))).trans (hb4.mono (by omega))).trans (hb5.mono (by omega))

theorem rise_walk (a b : Int) (w : World) (a0 : 0 ≤ a) (a1 : a ≤ 65535) (b0 : 0 ≤ b) (b1 : b ≤ 65535) :
    Calls Try.prog 7 #[.int .u16 a, .int .u16 b] w fun e w' => e = .returned (.bool true) ∧ Below w.heap.size w w' := by
  rcases Int.lt_trichotomy a b with hc | rfl | hc
  · by_cases r : a < 128
    · exact rise_ab1 a b w a0 a1 b0 b1 hc r
    · by_cases r' : a < 16384
      · exact rise_ab2 a b w a0 a1 b0 b1 hc (by omega) r'
      · exact rise_ab3 a b w a0 a1 b0 b1 hc (by omega)
  · by_cases r : a < 128
    · exact rise_eq1 a w a0 a1 r
    · by_cases r' : a < 16384
      · exact rise_eq2 a w a0 a1 (by omega) r'
      · exact rise_eq3 a w a0 a1 (by omega)
  · by_cases r : a < 128
    · exact rise_ba1 a b w a0 a1 b0 b1 hc r
    · by_cases r' : a < 16384
      · exact rise_ba2 a b w a0 a1 b0 b1 hc (by omega) r'
      · exact rise_ba3 a b w a0 a1 b0 b1 hc (by omega)
end Go.Proofs.Ythpjanfpmmjheaa
