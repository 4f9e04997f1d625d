/-
  wides.Times: a product, divided, held.
-/
import Derived.Test.YtlmoehfgbhfhfaaDiv
import Derived.Test.YtlmoehfgbhfhfaaSum
import Derived.Below
namespace Go.Proofs.Ytlmoehfgbhfhfaa
open Go.RowKit
set_option linter.unusedVariables false

/-- a times b divided by d, floored or (up) rounded up, held -/
def times (a b d : Int) (up : Bool) : Int :=
  if d ≤ a * b / 18446744073709551616 then 18446744073709551615 else if up = true ∧ 0 < a * b % d then cap (a * b / d + 1) else a * b / d

theorem quot_word {N d : Int} (hN : 0 ≤ N) (h : ¬ d ≤ N / 18446744073709551616) : Word (N / d) ∧ 0 ≤ N % d ∧ N % d < d := by
  have h0 : 0 < d := by omega
  refine ⟨⟨Int.ediv_nonneg hN (by omega), Int.ediv_lt_of_lt_mul h0 (by omega)⟩, Int.emod_nonneg _ (by omega), Int.emod_lt_of_pos _ h0⟩

/-- two numbers, built in place, summed -/
theorem sum_two (x y : Int) (g : Nat) (w : World) (hx : Word x) (hy : Word y) (hr : Row w g 22 [.int .u64 x, .int .u64 y]) :
    Calls Try.prog 12 #[.slice (some ⟨g, 0, none⟩) 2 2] w fun e w' => e = .returned (.int .u64 (cap (x + y))) ∧ Below w.heap.size w w' := by
  have hs := hr.sees0
  refine (sum_ _ 2 2 [x, y] w _ hs (Nat.le_refl _) (by simp [maxLen]) ?_).mono ?_
  · intro z hz
    simp at hz
    rcases hz with rfl | rfl
    · exact hx
    · exact hy
  · rintro e w' ⟨rfl, hb⟩
    exact ⟨by simp [held], hb⟩

set_option maxHeartbeats 1000000 in
theorem times_ (a b d : Int) (up : Bool) (w : World) (ha : Word a) (hb : Word b) (hd : Word d) :
    Calls Try.prog 10 #[.int .u64 a, .int .u64 b, .int .u64 d, .bool up] w fun e w' => e = .returned (.int .u64 (times a b d up)) ∧ Below w.heap.size w w' := by
  have M := fun w => mul_ a b ha hb w
  have p := word_prod ha hb
  have hh := word_hi ha hb
  have hl := word_mod (a * b)
  by_cases h : d ≤ a * b / 18446744073709551616
  · have E := Lib.hid (show times a b d up = 18446744073709551615 by unfold times; rw [if_pos h])
    generalize a * b / 18446744073709551616 = hi at *
    generalize a * b % 18446744073709551616 = lo at *
    go_enter Try.func10, Try.ntmps10
    go_wp2_with fail
    refine (M _).mono ?_
    rintro e w1 ⟨rfl, rfl⟩
    go_wp2
    go_ret
    rw [E.out]
    exact ⟨rfl, Below.refl _ _⟩
  · obtain ⟨q0, r0, r1⟩ := quot_word p.1 h
    have D := fun w => div64 _ _ d hh hl hd (by omega) w
    have EN : a * b / 18446744073709551616 * 18446744073709551616 + a * b % 18446744073709551616 = a * b := by omega
    rw [EN] at D
    clear EN
    have E := Lib.hid (show times a b d up = if up = true ∧ 0 < a * b % d then cap (a * b / d + 1) else a * b / d by unfold times; rw [if_neg h])
    have h2 : ¬ d ≤ a * b / 18446744073709551616 := h
    clear h hh hl
    generalize a * b / 18446744073709551616 = hi at *
    generalize a * b % 18446744073709551616 = lo at *
    generalize a * b / d = q at *
    generalize a * b % d = r at *
    have hs : ∀ k, Below w.heap.size w (w.drewN k) := fun k => below_drewN (Below.refl _ _) k
    cases up
    · go_enter Try.func10, Try.ntmps10
      go_wp2_with fail
      refine (M _).mono ?_
      rintro e w1 ⟨rfl, rfl⟩
      go_wp2_with fail
      refine (D _).mono ?_
      rintro e w1 ⟨rfl, k, rfl⟩
      go_wp2
      go_ret
      rw [E.out]
      exact ⟨by simp, hs k⟩
    · by_cases h0 : 0 < r
      · go_enter Try.func10, Try.ntmps10
        go_wp2_with fail
        refine (M _).mono ?_
        rintro e w1 ⟨rfl, rfl⟩
        go_wp2_with fail
        refine (D _).mono ?_
        rintro e w1 ⟨rfl, k, rfl⟩
        go_wp2_with fail
        refine (sum_two q 1 _ _ q0 (word_lit (by omega) (by omega)) (Row.new' _ _ _ (by simp))).mono ?_
        rintro e w1 ⟨rfl, hb⟩
        have hbb := ((hs k).alloc (Nat.le_refl _) (.cells #[.int .u64 q, .int .u64 1] 22))
        have hb2 := hbb.trans (hb.mono hbb.size)
        clear hb hbb
        go_wp2
        go_ret
        rw [E.out, if_pos (by simp [h0])]
        exact ⟨rfl, hb2⟩
      · go_enter Try.func10, Try.ntmps10
        go_wp2_with fail
        refine (M _).mono ?_
        rintro e w1 ⟨rfl, rfl⟩
        go_wp2_with fail
        refine (D _).mono ?_
        rintro e w1 ⟨rfl, k, rfl⟩
        go_wp2
        go_ret
        rw [E.out, if_neg (by omega)]
        exact ⟨rfl, hs k⟩
end Go.Proofs.Ytlmoehfgbhfhfaa
