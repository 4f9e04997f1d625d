/-
  The law on products, walked.
-/
import Derived.Test.YtlmoehfgbhfhfaaLives2
namespace Go.Proofs.Ytlmoehfgbhfhfaa
open Go.RowKit
set_option linter.unusedVariables false

theorem mul_more (a b : Int) (ha : Word a) (hb : Word b) (h : a ≠ 18446744073709551615) :
    ∃ N c, N = a * b ∧ (a + 1) * b = N + b ∧ (c = 0 ∨ c = 1) ∧ (N + b) / 18446744073709551616 = IntKind.u64.wrap (N / 18446744073709551616 + c) ∧ (N + b) % 18446744073709551616 = IntKind.u64.wrap (N % 18446744073709551616 + b) ∧
      (c = 1 ↔ 18446744073709551615 - b < N % 18446744073709551616) := by
  have p := word_prod ha hb
  have q := word_prod (a := a + 1) (b := b) ⟨by have := ha.1; omega, by have := ha.2; omega⟩ hb
  have e : (a + 1) * b = a * b + b := by rw [Int.add_mul, Int.one_mul]
  have := hb.1; have := hb.2
  rw [e] at q
  generalize a * b = N at *
  by_cases c : 18446744073709551615 - b < N % 18446744073709551616
  · exact ⟨N, 1, rfl, e, .inr rfl, by rw [IntKind.wrap_u64]; omega, by rw [IntKind.wrap_u64]; omega, by simp [c]⟩
  · exact ⟨N, 0, rfl, e, .inl rfl, by rw [IntKind.wrap_u64]; omega, by rw [IntKind.wrap_u64]; omega, by simp [c]⟩

set_option maxHeartbeats 2000000 in
theorem widesMul_walk (a b : Int) (ha : Word a) (hb : Word b) (w : World) :
    Calls Try.prog 5 #[.int .u64 a, .int .u64 b] w fun e w' => e = .returned (.bool true) ∧ Below w.heap.size w w' := by
  have M1 := fun w => mul_ a b ha hb w
  have M2 := fun w => mul_ b a hb ha w
  rw [Int.mul_comm b a] at M2
  have e1 : IntKind.u64.wrap (a * b) = a * b % 18446744073709551616 := by rw [IntKind.wrap_u64]
  by_cases h : a = 18446744073709551615
  · have hn := Lib.hid h
    have h1 : (a == 18446744073709551615) = true := by simp [h]
    clear h
    generalize a * b % 18446744073709551616 = l at *
    generalize a * b / 18446744073709551616 = k at *
    go_enter Try.func5, Try.ntmps5
    go_wp2_with fail
    refine (M1 _).mono ?_
    rintro e w1 ⟨rfl, rfl⟩
    go_wp2_with fail
    refine (M2 _).mono ?_
    rintro e w1 ⟨rfl, rfl⟩
    go_wp2_with fail
    refine (lives2 _).mono ?_
    rintro e w1 ⟨rfl, hb⟩
    go_wp2
    go_ret
    exact ⟨rfl, hb⟩
  · obtain ⟨N, c, hN, eN, hc, q1, q2, hcc⟩ := mul_more a b ha hb h
    have a1 : Word (a + 1) := ⟨by have := ha.1; omega, by have := ha.2; omega⟩
    have M3 := fun w => mul_ (a + 1) b a1 hb w
    rw [eN] at M3
    rw [q1, q2] at M3
    replace e1 : IntKind.u64.wrap (a * b) = N % 18446744073709551616 := by rw [hN, e1]
    rw [← hN] at M1 M2
    clear q1 q2 eN hN
    have e2 : IntKind.u64.wrap (a + 1) = a + 1 := w64 a1.1 a1.2
    have e3 : IntKind.u64.wrap (18446744073709551615 - b) = 18446744073709551615 - b := w64 (by have := hb.2; omega) (by have := hb.1; omega)
    have h1 : (a == 18446744073709551615) = false := by simp [h]
    have NN := Lib.hid hb
    clear h hb ha a1
    have hl : 0 ≤ N % 18446744073709551616 := by omega
    generalize N % 18446744073709551616 = l at *
    generalize N / 18446744073709551616 = k at *
    rcases hc with rfl | rfl
    · have h2 : ¬ 18446744073709551615 - b < l := by simpa using hcc
      clear hcc
      go_enter Try.func5, Try.ntmps5
      go_wp2_with fail
      refine (M1 _).mono ?_
      rintro e w1 ⟨rfl, rfl⟩
      go_wp2_with fail
      refine (M2 _).mono ?_
      rintro e w1 ⟨rfl, rfl⟩
      go_wp2_with fail
      refine (M3 _).mono ?_
      rintro e w1 ⟨rfl, rfl⟩
      go_wp2_with fail
      refine (lives2 _).mono ?_
      rintro e w1 ⟨rfl, hb⟩
      go_wp2
      go_ret
      exact ⟨rfl, hb⟩
    · have h2 : 18446744073709551615 - b < l := by simpa using hcc
      clear hcc
      go_enter Try.func5, Try.ntmps5
      go_wp2_with fail
      refine (M1 _).mono ?_
      rintro e w1 ⟨rfl, rfl⟩
      go_wp2_with fail
      refine (M2 _).mono ?_
      rintro e w1 ⟨rfl, rfl⟩
      go_wp2_with fail
      refine (M3 _).mono ?_
      rintro e w1 ⟨rfl, rfl⟩
      go_wp2_with fail
      refine (lives2 _).mono ?_
      rintro e w1 ⟨rfl, hb⟩
      go_wp2
      go_ret
      exact ⟨rfl, hb⟩
end Go.Proofs.Ytlmoehfgbhfhfaa
