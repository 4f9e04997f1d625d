/-
  The law on divided products, walked: each way by itself.
-/
import Derived.Test.YtlmoehfgbhfhfaaTimesLaw
namespace Go.Proofs.Ytlmoehfgbhfhfaa
open Go.RowKit
set_option linter.unusedVariables false

def TimesIs (a b d : Int) (up : Bool) (x : Int) : Prop := ∀ w, Calls Try.prog 10 #[.int .u64 a, .int .u64 b, .int .u64 d, .bool up] w fun e w' => e = .returned (.int .u64 x) ∧ Below w.heap.size w w'
def MulIs (a b h l : Int) : Prop := ∀ w, Calls Try.prog 8 #[.int .u64 a, .int .u64 b] w fun e w' => e = .returned (.tuple #[.int .u64 h, .int .u64 l]) ∧ w = w'

set_option maxHeartbeats 4000000 in
set_option maxRecDepth 100000 in
theorem wayA1 (a b d h l x y r : Int)  (w : World) (d0 : 0 < d)
    (T1 : TimesIs a b d false 18446744073709551615) (T2 : TimesIs a b d true 18446744073709551615) (T3 : TimesIs a d d false a) (T4 : TimesIs a d d true a) (M1 : MulIs a b h l) (M2 : MulIs 18446744073709551615 d x y) (wr : IntKind.u64.wrap (l - y) = r) (e1 : x = h) (e2 : ¬ l < y) (e3 : d ≤ r) :
    Calls Try.prog 4 #[.int .u64 a, .int .u64 b, .int .u64 d] w fun e w' => e = .returned (.bool true) ∧ Below w.heap.size w w' := by
  unfold TimesIs at T1 T2 T3 T4
  unfold MulIs at M1 M2
  have z0 : (d == 0) = false := by simp; omega
  have e4 : (r == 0) = false := by simp; omega
  have e5 : ¬ r < d := by omega
  subst e1
  go_enter Try.func4, Try.ntmps4
  go_wp2_with fail
  refine (T1 _).mono ?_
  rintro e w1 ⟨rfl, h1⟩
  go_wp2_with fail
  refine (T2 _).mono ?_
  rintro e w2 ⟨rfl, h2⟩
  have b2 := h1.trans (h2.mono h1.size)
  clear h1 h2
  go_wp2_with fail
  refine (T3 _).mono ?_
  rintro e w3 ⟨rfl, h3⟩
  have b3 := b2.trans (h3.mono b2.size)
  clear b2 h3
  go_wp2_with fail
  refine (T4 _).mono ?_
  rintro e w4 ⟨rfl, h4⟩
  have b4 := b3.trans (h4.mono b3.size)
  clear b3 h4
  go_wp2_with fail
  refine (M1 _).mono ?_
  rintro e w5 ⟨rfl, rfl⟩
  go_wp2_with fail
  refine (M2 _).mono ?_
  rintro e w6 ⟨rfl, rfl⟩
  go_wp2_with fail
  refine (lives2 _).mono ?_
  rintro e w7 ⟨rfl, h7⟩
  have b7 := b4.trans (h7.mono b4.size)
  clear b4 h7
  go_wp2
  go_ret
  exact ⟨rfl, b7⟩

set_option maxHeartbeats 4000000 in
set_option maxRecDepth 100000 in
theorem wayA2 (a b d h l x y r : Int)  (w : World) (d0 : 0 < d)
    (T1 : TimesIs a b d false 18446744073709551615) (T2 : TimesIs a b d true 18446744073709551615) (T3 : TimesIs a d d false a) (T4 : TimesIs a d d true a) (M1 : MulIs a b h l) (M2 : MulIs 18446744073709551615 d x y) (wr : IntKind.u64.wrap (l - y) = r) (e1 : x < h) (e2 : ¬ l < y) :
    Calls Try.prog 4 #[.int .u64 a, .int .u64 b, .int .u64 d] w fun e w' => e = .returned (.bool true) ∧ Below w.heap.size w w' := by
  unfold TimesIs at T1 T2 T3 T4
  unfold MulIs at M1 M2
  have z0 : (d == 0) = false := by simp; omega
  have e3 : (x == h) = false := by simp; omega
  have e4 : (h == x) = false := by simp; omega
  have e5 : (h != x) = true := by simp; omega
  have e6 : ¬ h < x := by omega
  go_enter Try.func4, Try.ntmps4
  go_wp2_with fail
  refine (T1 _).mono ?_
  rintro e w1 ⟨rfl, h1⟩
  go_wp2_with fail
  refine (T2 _).mono ?_
  rintro e w2 ⟨rfl, h2⟩
  have b2 := h1.trans (h2.mono h1.size)
  clear h1 h2
  go_wp2_with fail
  refine (T3 _).mono ?_
  rintro e w3 ⟨rfl, h3⟩
  have b3 := b2.trans (h3.mono b2.size)
  clear b2 h3
  go_wp2_with fail
  refine (T4 _).mono ?_
  rintro e w4 ⟨rfl, h4⟩
  have b4 := b3.trans (h4.mono b3.size)
  clear b3 h4
  go_wp2_with fail
  refine (M1 _).mono ?_
  rintro e w5 ⟨rfl, rfl⟩
  go_wp2_with fail
  refine (M2 _).mono ?_
  rintro e w6 ⟨rfl, rfl⟩
  go_wp2_with fail
  refine (lives2 _).mono ?_
  rintro e w7 ⟨rfl, h7⟩
  have b7 := b4.trans (h7.mono b4.size)
  clear b4 h7
  go_wp2
  go_ret
  exact ⟨rfl, b7⟩

set_option maxHeartbeats 4000000 in
set_option maxRecDepth 100000 in
theorem wayA3 (a b d h l x y r : Int)  (w : World) (d0 : 0 < d)
    (T1 : TimesIs a b d false 18446744073709551615) (T2 : TimesIs a b d true 18446744073709551615) (T3 : TimesIs a d d false a) (T4 : TimesIs a d d true a) (M1 : MulIs a b h l) (M2 : MulIs 18446744073709551615 d x y) (wr : IntKind.u64.wrap (l - y) = r) (e1 : x < h) (e2 : l < y) (e7 : IntKind.u64.wrap (h - 1) = h - 1) (e8 : x < h - 1) :
    Calls Try.prog 4 #[.int .u64 a, .int .u64 b, .int .u64 d] w fun e w' => e = .returned (.bool true) ∧ Below w.heap.size w w' := by
  unfold TimesIs at T1 T2 T3 T4
  unfold MulIs at M1 M2
  have z0 : (d == 0) = false := by simp; omega
  have e3 : (x == h) = false := by simp; omega
  have e4 : (h - 1 == x) = false := by simp; omega
  have e5 : (h - 1 != x) = true := by simp; omega
  have e6 : ¬ h < x := by omega
  go_enter Try.func4, Try.ntmps4
  go_wp2_with fail
  refine (T1 _).mono ?_
  rintro e w1 ⟨rfl, h1⟩
  go_wp2_with fail
  refine (T2 _).mono ?_
  rintro e w2 ⟨rfl, h2⟩
  have b2 := h1.trans (h2.mono h1.size)
  clear h1 h2
  go_wp2_with fail
  refine (T3 _).mono ?_
  rintro e w3 ⟨rfl, h3⟩
  have b3 := b2.trans (h3.mono b2.size)
  clear b2 h3
  go_wp2_with fail
  refine (T4 _).mono ?_
  rintro e w4 ⟨rfl, h4⟩
  have b4 := b3.trans (h4.mono b3.size)
  clear b3 h4
  go_wp2_with fail
  refine (M1 _).mono ?_
  rintro e w5 ⟨rfl, rfl⟩
  go_wp2_with fail
  refine (M2 _).mono ?_
  rintro e w6 ⟨rfl, rfl⟩
  go_wp2_with fail
  refine (lives2 _).mono ?_
  rintro e w7 ⟨rfl, h7⟩
  have b7 := b4.trans (h7.mono b4.size)
  clear b4 h7
  go_wp2
  go_ret
  exact ⟨rfl, b7⟩

set_option maxHeartbeats 4000000 in
set_option maxRecDepth 100000 in
theorem wayA4 (a b d h l x y r : Int)  (w : World) (d0 : 0 < d)
    (T1 : TimesIs a b d false 18446744073709551615) (T2 : TimesIs a b d true 18446744073709551615) (T3 : TimesIs a d d false a) (T4 : TimesIs a d d true a) (M1 : MulIs a b h l) (M2 : MulIs 18446744073709551615 d x y) (wr : IntKind.u64.wrap (l - y) = r) (e1 : x < h) (e2 : l < y) (e7 : IntKind.u64.wrap (h - 1) = x) (e8 : d ≤ r) :
    Calls Try.prog 4 #[.int .u64 a, .int .u64 b, .int .u64 d] w fun e w' => e = .returned (.bool true) ∧ Below w.heap.size w w' := by
  unfold TimesIs at T1 T2 T3 T4
  unfold MulIs at M1 M2
  have z0 : (d == 0) = false := by simp; omega
  have e3 : (x == h) = false := by simp; omega
  have e4 : (r == 0) = false := by simp; omega
  have e5 : ¬ r < d := by omega
  have e6 : ¬ h < x := by omega
  go_enter Try.func4, Try.ntmps4
  go_wp2_with fail
  refine (T1 _).mono ?_
  rintro e w1 ⟨rfl, h1⟩
  go_wp2_with fail
  refine (T2 _).mono ?_
  rintro e w2 ⟨rfl, h2⟩
  have b2 := h1.trans (h2.mono h1.size)
  clear h1 h2
  go_wp2_with fail
  refine (T3 _).mono ?_
  rintro e w3 ⟨rfl, h3⟩
  have b3 := b2.trans (h3.mono b2.size)
  clear b2 h3
  go_wp2_with fail
  refine (T4 _).mono ?_
  rintro e w4 ⟨rfl, h4⟩
  have b4 := b3.trans (h4.mono b3.size)
  clear b3 h4
  go_wp2_with fail
  refine (M1 _).mono ?_
  rintro e w5 ⟨rfl, rfl⟩
  go_wp2_with fail
  refine (M2 _).mono ?_
  rintro e w6 ⟨rfl, rfl⟩
  go_wp2_with fail
  refine (lives2 _).mono ?_
  rintro e w7 ⟨rfl, h7⟩
  have b7 := b4.trans (h7.mono b4.size)
  clear b4 h7
  go_wp2
  go_ret
  exact ⟨rfl, b7⟩

set_option maxHeartbeats 4000000 in
set_option maxRecDepth 100000 in
theorem wayB1a (a b d h l x y r : Int)  (w : World) (d0 : 0 < d)
    (T1 : TimesIs a b d false 18446744073709551615) (T2 : TimesIs a b d true 18446744073709551615) (T3 : TimesIs a d d false a) (T4 : TimesIs a d d true a) (M1 : MulIs a b h l) (M2 : MulIs 18446744073709551615 d x y) (wr : IntKind.u64.wrap (l - y) = r) (e1 : x = h) (e2 : ¬ l < y) (e3 : r < d) (e9 : r = 0) :
    Calls Try.prog 4 #[.int .u64 a, .int .u64 b, .int .u64 d] w fun e w' => e = .returned (.bool true) ∧ Below w.heap.size w w' := by
  unfold TimesIs at T1 T2 T3 T4
  unfold MulIs at M1 M2
  have z0 : (d == 0) = false := by simp; omega
  have e5 : ¬ d ≤ r := by omega
  subst e1
  subst e9
  go_enter Try.func4, Try.ntmps4
  go_wp2_with fail
  refine (T1 _).mono ?_
  rintro e w1 ⟨rfl, h1⟩
  go_wp2_with fail
  refine (T2 _).mono ?_
  rintro e w2 ⟨rfl, h2⟩
  have b2 := h1.trans (h2.mono h1.size)
  clear h1 h2
  go_wp2_with fail
  refine (T3 _).mono ?_
  rintro e w3 ⟨rfl, h3⟩
  have b3 := b2.trans (h3.mono b2.size)
  clear b2 h3
  go_wp2_with fail
  refine (T4 _).mono ?_
  rintro e w4 ⟨rfl, h4⟩
  have b4 := b3.trans (h4.mono b3.size)
  clear b3 h4
  go_wp2_with fail
  refine (M1 _).mono ?_
  rintro e w5 ⟨rfl, rfl⟩
  go_wp2_with fail
  refine (M2 _).mono ?_
  rintro e w6 ⟨rfl, rfl⟩
  go_wp2_with fail
  refine (lives2 _).mono ?_
  rintro e w7 ⟨rfl, h7⟩
  have b7 := b4.trans (h7.mono b4.size)
  clear b4 h7
  go_wp2
  go_ret
  exact ⟨rfl, b7⟩

set_option maxHeartbeats 4000000 in
set_option maxRecDepth 100000 in
theorem wayB1b (a b d h l x y r : Int) (n : Int) (w : World) (d0 : 0 < d)
    (T1 : TimesIs a b d false n) (T2 : TimesIs a b d true n) (T3 : TimesIs a d d false a) (T4 : TimesIs a d d true a) (M1 : MulIs a b h l) (M2 : MulIs n d x y) (wr : IntKind.u64.wrap (l - y) = r) (e1 : x = h) (e2 : ¬ l < y) (e3 : r < d) (e9 : r = 0) (e10 : (n == 18446744073709551615) = false) :
    Calls Try.prog 4 #[.int .u64 a, .int .u64 b, .int .u64 d] w fun e w' => e = .returned (.bool true) ∧ Below w.heap.size w w' := by
  unfold TimesIs at T1 T2 T3 T4
  unfold MulIs at M1 M2
  have z0 : (d == 0) = false := by simp; omega
  have e5 : ¬ d ≤ r := by omega
  subst e1
  subst e9
  go_enter Try.func4, Try.ntmps4
  go_wp2_with fail
  refine (T1 _).mono ?_
  rintro e w1 ⟨rfl, h1⟩
  go_wp2_with fail
  refine (T2 _).mono ?_
  rintro e w2 ⟨rfl, h2⟩
  have b2 := h1.trans (h2.mono h1.size)
  clear h1 h2
  go_wp2_with fail
  refine (T3 _).mono ?_
  rintro e w3 ⟨rfl, h3⟩
  have b3 := b2.trans (h3.mono b2.size)
  clear b2 h3
  go_wp2_with fail
  refine (T4 _).mono ?_
  rintro e w4 ⟨rfl, h4⟩
  have b4 := b3.trans (h4.mono b3.size)
  clear b3 h4
  go_wp2_with fail
  refine (M1 _).mono ?_
  rintro e w5 ⟨rfl, rfl⟩
  go_wp2_with fail
  refine (M2 _).mono ?_
  rintro e w6 ⟨rfl, rfl⟩
  go_wp2_with fail
  refine (lives2 _).mono ?_
  rintro e w7 ⟨rfl, h7⟩
  have b7 := b4.trans (h7.mono b4.size)
  clear b4 h7
  go_wp2
  go_ret
  exact ⟨rfl, b7⟩

set_option maxHeartbeats 4000000 in
set_option maxRecDepth 100000 in
theorem wayB1c (a b d h l x y r : Int)  (w : World) (d0 : 0 < d)
    (T1 : TimesIs a b d false 18446744073709551615) (T2 : TimesIs a b d true 18446744073709551615) (T3 : TimesIs a d d false a) (T4 : TimesIs a d d true a) (M1 : MulIs a b h l) (M2 : MulIs 18446744073709551615 d x y) (wr : IntKind.u64.wrap (l - y) = r) (e1 : x = h) (e2 : ¬ l < y) (e3 : r < d) (e9 : 0 < r) :
    Calls Try.prog 4 #[.int .u64 a, .int .u64 b, .int .u64 d] w fun e w' => e = .returned (.bool true) ∧ Below w.heap.size w w' := by
  unfold TimesIs at T1 T2 T3 T4
  unfold MulIs at M1 M2
  have z0 : (d == 0) = false := by simp; omega
  have e5 : ¬ d ≤ r := by omega
  subst e1
  have e10 : (r == 0) = false := by simp; omega
  go_enter Try.func4, Try.ntmps4
  go_wp2_with fail
  refine (T1 _).mono ?_
  rintro e w1 ⟨rfl, h1⟩
  go_wp2_with fail
  refine (T2 _).mono ?_
  rintro e w2 ⟨rfl, h2⟩
  have b2 := h1.trans (h2.mono h1.size)
  clear h1 h2
  go_wp2_with fail
  refine (T3 _).mono ?_
  rintro e w3 ⟨rfl, h3⟩
  have b3 := b2.trans (h3.mono b2.size)
  clear b2 h3
  go_wp2_with fail
  refine (T4 _).mono ?_
  rintro e w4 ⟨rfl, h4⟩
  have b4 := b3.trans (h4.mono b3.size)
  clear b3 h4
  go_wp2_with fail
  refine (M1 _).mono ?_
  rintro e w5 ⟨rfl, rfl⟩
  go_wp2_with fail
  refine (M2 _).mono ?_
  rintro e w6 ⟨rfl, rfl⟩
  go_wp2_with fail
  refine (lives2 _).mono ?_
  rintro e w7 ⟨rfl, h7⟩
  have b7 := b4.trans (h7.mono b4.size)
  clear b4 h7
  go_wp2
  go_ret
  exact ⟨rfl, b7⟩

set_option maxHeartbeats 4000000 in
set_option maxRecDepth 100000 in
theorem wayB1d (a b d h l x y r : Int) (n u : Int) (w : World) (d0 : 0 < d)
    (T1 : TimesIs a b d false n) (T2 : TimesIs a b d true u) (T3 : TimesIs a d d false a) (T4 : TimesIs a d d true a) (M1 : MulIs a b h l) (M2 : MulIs n d x y) (wr : IntKind.u64.wrap (l - y) = r) (e1 : x = h) (e2 : ¬ l < y) (e3 : r < d) (e9 : 0 < r) (e10 : (n == 18446744073709551615) = false) (e11 : IntKind.u64.wrap (u - n) = 1) (e12 : n < u) :
    Calls Try.prog 4 #[.int .u64 a, .int .u64 b, .int .u64 d] w fun e w' => e = .returned (.bool true) ∧ Below w.heap.size w w' := by
  unfold TimesIs at T1 T2 T3 T4
  unfold MulIs at M1 M2
  have z0 : (d == 0) = false := by simp; omega
  have e5 : ¬ d ≤ r := by omega
  subst e1
  have e13 : (r == 0) = false := by simp; omega
  have e14 : (u == n) = false := by simp; omega
  have e15 : ¬ u < n := by omega
  go_enter Try.func4, Try.ntmps4
  go_wp2_with fail
  refine (T1 _).mono ?_
  rintro e w1 ⟨rfl, h1⟩
  go_wp2_with fail
  refine (T2 _).mono ?_
  rintro e w2 ⟨rfl, h2⟩
  have b2 := h1.trans (h2.mono h1.size)
  clear h1 h2
  go_wp2_with fail
  refine (T3 _).mono ?_
  rintro e w3 ⟨rfl, h3⟩
  have b3 := b2.trans (h3.mono b2.size)
  clear b2 h3
  go_wp2_with fail
  refine (T4 _).mono ?_
  rintro e w4 ⟨rfl, h4⟩
  have b4 := b3.trans (h4.mono b3.size)
  clear b3 h4
  go_wp2_with fail
  refine (M1 _).mono ?_
  rintro e w5 ⟨rfl, rfl⟩
  go_wp2_with fail
  refine (M2 _).mono ?_
  rintro e w6 ⟨rfl, rfl⟩
  go_wp2_with fail
  refine (lives2 _).mono ?_
  rintro e w7 ⟨rfl, h7⟩
  have b7 := b4.trans (h7.mono b4.size)
  clear b4 h7
  go_wp2
  go_ret
  exact ⟨rfl, b7⟩

set_option maxHeartbeats 4000000 in
set_option maxRecDepth 100000 in
theorem wayB2a (a b d h l x y r : Int)  (w : World) (d0 : 0 < d)
    (T1 : TimesIs a b d false 18446744073709551615) (T2 : TimesIs a b d true 18446744073709551615) (T3 : TimesIs a d d false a) (T4 : TimesIs a d d true a) (M1 : MulIs a b h l) (M2 : MulIs 18446744073709551615 d x y) (wr : IntKind.u64.wrap (l - y) = r) (e1 : x < h) (e2 : l < y) (e7 : IntKind.u64.wrap (h - 1) = x) (e3 : r < d) (e9 : r = 0) :
    Calls Try.prog 4 #[.int .u64 a, .int .u64 b, .int .u64 d] w fun e w' => e = .returned (.bool true) ∧ Below w.heap.size w w' := by
  unfold TimesIs at T1 T2 T3 T4
  unfold MulIs at M1 M2
  have z0 : (d == 0) = false := by simp; omega
  have e8 : (x == h) = false := by simp; omega
  have e5 : ¬ d ≤ r := by omega
  have e6 : ¬ h < x := by omega
  subst e9
  go_enter Try.func4, Try.ntmps4
  go_wp2_with fail
  refine (T1 _).mono ?_
  rintro e w1 ⟨rfl, h1⟩
  go_wp2_with fail
  refine (T2 _).mono ?_
  rintro e w2 ⟨rfl, h2⟩
  have b2 := h1.trans (h2.mono h1.size)
  clear h1 h2
  go_wp2_with fail
  refine (T3 _).mono ?_
  rintro e w3 ⟨rfl, h3⟩
  have b3 := b2.trans (h3.mono b2.size)
  clear b2 h3
  go_wp2_with fail
  refine (T4 _).mono ?_
  rintro e w4 ⟨rfl, h4⟩
  have b4 := b3.trans (h4.mono b3.size)
  clear b3 h4
  go_wp2_with fail
  refine (M1 _).mono ?_
  rintro e w5 ⟨rfl, rfl⟩
  go_wp2_with fail
  refine (M2 _).mono ?_
  rintro e w6 ⟨rfl, rfl⟩
  go_wp2_with fail
  refine (lives2 _).mono ?_
  rintro e w7 ⟨rfl, h7⟩
  have b7 := b4.trans (h7.mono b4.size)
  clear b4 h7
  go_wp2
  go_ret
  exact ⟨rfl, b7⟩

set_option maxHeartbeats 4000000 in
set_option maxRecDepth 100000 in
theorem wayB2b (a b d h l x y r : Int) (n : Int) (w : World) (d0 : 0 < d)
    (T1 : TimesIs a b d false n) (T2 : TimesIs a b d true n) (T3 : TimesIs a d d false a) (T4 : TimesIs a d d true a) (M1 : MulIs a b h l) (M2 : MulIs n d x y) (wr : IntKind.u64.wrap (l - y) = r) (e1 : x < h) (e2 : l < y) (e7 : IntKind.u64.wrap (h - 1) = x) (e3 : r < d) (e9 : r = 0) (e10 : (n == 18446744073709551615) = false) :
    Calls Try.prog 4 #[.int .u64 a, .int .u64 b, .int .u64 d] w fun e w' => e = .returned (.bool true) ∧ Below w.heap.size w w' := by
  unfold TimesIs at T1 T2 T3 T4
  unfold MulIs at M1 M2
  have z0 : (d == 0) = false := by simp; omega
  have e8 : (x == h) = false := by simp; omega
  have e5 : ¬ d ≤ r := by omega
  have e6 : ¬ h < x := by omega
  subst e9
  go_enter Try.func4, Try.ntmps4
  go_wp2_with fail
  refine (T1 _).mono ?_
  rintro e w1 ⟨rfl, h1⟩
  go_wp2_with fail
  refine (T2 _).mono ?_
  rintro e w2 ⟨rfl, h2⟩
  have b2 := h1.trans (h2.mono h1.size)
  clear h1 h2
  go_wp2_with fail
  refine (T3 _).mono ?_
  rintro e w3 ⟨rfl, h3⟩
  have b3 := b2.trans (h3.mono b2.size)
  clear b2 h3
  go_wp2_with fail
  refine (T4 _).mono ?_
  rintro e w4 ⟨rfl, h4⟩
  have b4 := b3.trans (h4.mono b3.size)
  clear b3 h4
  go_wp2_with fail
  refine (M1 _).mono ?_
  rintro e w5 ⟨rfl, rfl⟩
  go_wp2_with fail
  refine (M2 _).mono ?_
  rintro e w6 ⟨rfl, rfl⟩
  go_wp2_with fail
  refine (lives2 _).mono ?_
  rintro e w7 ⟨rfl, h7⟩
  have b7 := b4.trans (h7.mono b4.size)
  clear b4 h7
  go_wp2
  go_ret
  exact ⟨rfl, b7⟩

set_option maxHeartbeats 4000000 in
set_option maxRecDepth 100000 in
theorem wayB2c (a b d h l x y r : Int)  (w : World) (d0 : 0 < d)
    (T1 : TimesIs a b d false 18446744073709551615) (T2 : TimesIs a b d true 18446744073709551615) (T3 : TimesIs a d d false a) (T4 : TimesIs a d d true a) (M1 : MulIs a b h l) (M2 : MulIs 18446744073709551615 d x y) (wr : IntKind.u64.wrap (l - y) = r) (e1 : x < h) (e2 : l < y) (e7 : IntKind.u64.wrap (h - 1) = x) (e3 : r < d) (e9 : 0 < r) :
    Calls Try.prog 4 #[.int .u64 a, .int .u64 b, .int .u64 d] w fun e w' => e = .returned (.bool true) ∧ Below w.heap.size w w' := by
  unfold TimesIs at T1 T2 T3 T4
  unfold MulIs at M1 M2
  have z0 : (d == 0) = false := by simp; omega
  have e8 : (x == h) = false := by simp; omega
  have e5 : ¬ d ≤ r := by omega
  have e6 : ¬ h < x := by omega
  have e10 : (r == 0) = false := by simp; omega
  go_enter Try.func4, Try.ntmps4
  go_wp2_with fail
  refine (T1 _).mono ?_
  rintro e w1 ⟨rfl, h1⟩
  go_wp2_with fail
  refine (T2 _).mono ?_
  rintro e w2 ⟨rfl, h2⟩
  have b2 := h1.trans (h2.mono h1.size)
  clear h1 h2
  go_wp2_with fail
  refine (T3 _).mono ?_
  rintro e w3 ⟨rfl, h3⟩
  have b3 := b2.trans (h3.mono b2.size)
  clear b2 h3
  go_wp2_with fail
  refine (T4 _).mono ?_
  rintro e w4 ⟨rfl, h4⟩
  have b4 := b3.trans (h4.mono b3.size)
  clear b3 h4
  go_wp2_with fail
  refine (M1 _).mono ?_
  rintro e w5 ⟨rfl, rfl⟩
  go_wp2_with fail
  refine (M2 _).mono ?_
  rintro e w6 ⟨rfl, rfl⟩
  go_wp2_with fail
  refine (lives2 _).mono ?_
  rintro e w7 ⟨rfl, h7⟩
  have b7 := b4.trans (h7.mono b4.size)
  clear b4 h7
  go_wp2
  go_ret
  exact ⟨rfl, b7⟩

set_option maxHeartbeats 4000000 in
set_option maxRecDepth 100000 in
theorem wayB2d (a b d h l x y r : Int) (n u : Int) (w : World) (d0 : 0 < d)
    (T1 : TimesIs a b d false n) (T2 : TimesIs a b d true u) (T3 : TimesIs a d d false a) (T4 : TimesIs a d d true a) (M1 : MulIs a b h l) (M2 : MulIs n d x y) (wr : IntKind.u64.wrap (l - y) = r) (e1 : x < h) (e2 : l < y) (e7 : IntKind.u64.wrap (h - 1) = x) (e3 : r < d) (e9 : 0 < r) (e10 : (n == 18446744073709551615) = false) (e11 : IntKind.u64.wrap (u - n) = 1) (e12 : n < u) :
    Calls Try.prog 4 #[.int .u64 a, .int .u64 b, .int .u64 d] w fun e w' => e = .returned (.bool true) ∧ Below w.heap.size w w' := by
  unfold TimesIs at T1 T2 T3 T4
  unfold MulIs at M1 M2
  have z0 : (d == 0) = false := by simp; omega
  have e8 : (x == h) = false := by simp; omega
  have e5 : ¬ d ≤ r := by omega
  have e6 : ¬ h < x := by omega
  have e13 : (r == 0) = false := by simp; omega
  have e14 : (u == n) = false := by simp; omega
  have e15 : ¬ u < n := by omega
  go_enter Try.func4, Try.ntmps4
  go_wp2_with fail
  refine (T1 _).mono ?_
  rintro e w1 ⟨rfl, h1⟩
  go_wp2_with fail
  refine (T2 _).mono ?_
  rintro e w2 ⟨rfl, h2⟩
  have b2 := h1.trans (h2.mono h1.size)
  clear h1 h2
  go_wp2_with fail
  refine (T3 _).mono ?_
  rintro e w3 ⟨rfl, h3⟩
  have b3 := b2.trans (h3.mono b2.size)
  clear b2 h3
  go_wp2_with fail
  refine (T4 _).mono ?_
  rintro e w4 ⟨rfl, h4⟩
  have b4 := b3.trans (h4.mono b3.size)
  clear b3 h4
  go_wp2_with fail
  refine (M1 _).mono ?_
  rintro e w5 ⟨rfl, rfl⟩
  go_wp2_with fail
  refine (M2 _).mono ?_
  rintro e w6 ⟨rfl, rfl⟩
  go_wp2_with fail
  refine (lives2 _).mono ?_
  rintro e w7 ⟨rfl, h7⟩
  have b7 := b4.trans (h7.mono b4.size)
  clear b4 h7
  go_wp2
  go_ret
  exact ⟨rfl, b7⟩

set_option maxHeartbeats 1000000 in
theorem way0 (a b : Int) (w : World) (T1 : TimesIs a b 0 false 18446744073709551615) (T2 : TimesIs a b 0 true 18446744073709551615) :
    Calls Try.prog 4 #[.int .u64 a, .int .u64 b, .int .u64 0] w fun e w' => e = .returned (.bool true) ∧ Below w.heap.size w w' := by
  unfold TimesIs at T1 T2
  go_enter Try.func4, Try.ntmps4
  go_wp2_with fail
  refine (T1 _).mono ?_
  rintro e w1 ⟨rfl, h1⟩
  go_wp2_with fail
  refine (T2 _).mono ?_
  rintro e w2 ⟨rfl, h2⟩
  have b2 := h1.trans (h2.mono h1.size)
  clear h1 h2
  go_wp2_with fail
  refine (lives2 _).mono ?_
  rintro e w7 ⟨rfl, h7⟩
  have b7 := b2.trans (h7.mono b2.size)
  clear b2 h7
  go_wp2
  go_ret
  exact ⟨rfl, b7⟩

theorem widesTimes_walk (a b d : Int) (ha : Word a) (hb : Word b) (hd : Word d) (w : World) :
    Calls Try.prog 4 #[.int .u64 a, .int .u64 b, .int .u64 d] w fun e w' => e = .returned (.bool true) ∧ Below w.heap.size w w' := by
  have T := fun up w => times_ a b d up w ha hb hd
  by_cases h : d = 0
  · subst h
    have t1 := T false
    have t2 := T true
    rw [times_zero a b _ ha hb] at t1 t2
    exact way0 a b w t1 t2
  · have d0 : 0 < d := by have := hd.1; omega
    have T3 := fun w => times_ a d d false w ha hd hd
    have T4 := fun w => times_ a d d true w ha hd hd
    rw [times_part a d _ ha hd h] at T3 T4
    have M1 := fun w => mul_ a b ha hb w
    have T1 := T false
    have T2 := T true
    obtain ⟨h', l, n, u, x, y, r, q1, q2, q3, q4, q5, q6, q7, wn, wu, c⟩ := law_ways a b d ha hb hd h
    have M2 := fun w => mul_ n d wn hd w
    rw [q1, q2] at M1
    rw [q3] at T1
    rw [q4] at T2
    rw [q5, q6] at M2
    clear q1 q2 q3 q4 q5 q6
    have wn1 := wn.2
    rcases c with ⟨rfl, rfl, _, ⟨c1, c2, c3, c4⟩ | ⟨c1, c2⟩ | ⟨c1, c2, c3, c4⟩ | ⟨c1, c2, c3, c4, _⟩⟩ | ⟨c0, c1, c2⟩
    · exact wayA1 a b d h' l x y r w d0 T1 T2 T3 T4 M1 M2 q7 c1 c2 c3
    · exact wayA2 a b d h' l x y r w d0 T1 T2 T3 T4 M1 M2 q7 c1 c2
    · exact wayA3 a b d h' l x y r w d0 T1 T2 T3 T4 M1 M2 q7 c1 c2 c3 c4
    · exact wayA4 a b d h' l x y r w d0 T1 T2 T3 T4 M1 M2 q7 c1 c2 c3 c4
    · rcases c1 with ⟨k1, k2⟩ | ⟨k1, k2, k3⟩
      · rcases c2 with ⟨m1, rfl⟩ | ⟨m1, rfl, rfl⟩ | ⟨m1, m2, m3, m4, _⟩
        · by_cases g : u = 18446744073709551615
          · subst g
            exact wayB1a a b d h' l x y r w d0 T1 T2 T3 T4 M1 M2 q7 k1 k2 c0 m1
          · exact wayB1b a b d h' l x y r u w d0 T1 T2 T3 T4 M1 M2 q7 k1 k2 c0 m1 (by simp [g])
        · exact wayB1c a b d h' l x y r w d0 T1 T2 T3 T4 M1 M2 q7 k1 k2 c0 m1
        · exact wayB1d a b d h' l x y r n u w d0 T1 T2 T3 T4 M1 M2 q7 k1 k2 c0 m1 (by simp; omega) m4 (by omega)
      · rcases c2 with ⟨m1, rfl⟩ | ⟨m1, rfl, rfl⟩ | ⟨m1, m2, m3, m4, _⟩
        · by_cases g : u = 18446744073709551615
          · subst g
            exact wayB2a a b d h' l x y r w d0 T1 T2 T3 T4 M1 M2 q7 k1 k2 k3 c0 m1
          · exact wayB2b a b d h' l x y r u w d0 T1 T2 T3 T4 M1 M2 q7 k1 k2 k3 c0 m1 (by simp [g])
        · exact wayB2c a b d h' l x y r w d0 T1 T2 T3 T4 M1 M2 q7 k1 k2 k3 c0 m1
        · exact wayB2d a b d h' l x y r n u w d0 T1 T2 T3 T4 M1 M2 q7 k1 k2 k3 c0 m1 (by simp; omega) m4 (by omega)
end Go.Proofs.Ytlmoehfgbhfhfaa
