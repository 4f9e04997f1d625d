/-
  The chapter's examples (package wides).
-/
import Derived.Test.YtlmoehfgbhfhfaaTimes
import Derived.Test.YtlmoehfgbhfhfaaCameIn
namespace Go.Proofs.Ytlmoehfgbhfhfaa
open Go.RowKit
set_option linter.unusedVariables false

theorem word_wf {n : Int} (h : (Lit.int .u64 n).wf = true) : Word n := by
  have h1 := (bounds_u64 h).1
  have h2 := (bounds_u64 h).2
  exact ⟨by omega, by omega⟩
theorem words_wf {zs : List Int} (h : ∀ z ∈ zs, (Lit.int .u64 z).wf = true) : ∀ z ∈ zs, Word z := fun z hz => word_wf (h z hz)

theorem times_lit (a b d : Int) (up : Bool) (x : Int) (w : World) (h : times a b d up = x) (ha : Word a) (hb : Word b) (hd : Word d) :
    Calls Try.prog 10 #[.int .u64 a, .int .u64 b, .int .u64 d, .bool up] w fun e w' => e = .returned (.int .u64 x) ∧ Below w.heap.size w w' := by
  have := times_ a b d up w ha hb hd
  rwa [h] at this
theorem mul_lit (a b h l : Int) (w : World) (e : a * b / 18446744073709551616 = h) (e' : a * b % 18446744073709551616 = l) (ha : Word a) (hb : Word b) :
    Calls Try.prog 8 #[.int .u64 a, .int .u64 b] w fun e w' => e = .returned (.tuple #[.int .u64 h, .int .u64 l]) ∧ w = w' := by
  have := mul_ a b ha hb w
  rwa [e, e'] at this
theorem sum_none (w : World) : Calls Try.prog 12 #[.slice none 0 0] w fun e w' => e = .returned (.int .u64 0) ∧ Below w.heap.size w w' :=
  sum_ none 0 0 [] w 0 (Sees.nil _ _ _) (by omega) (by simp [maxLen]) (by simp)

set_option maxHeartbeats 1000000 in
theorem lives2 (w : World) : Calls Try.prog 7 #[] w fun e w' => e = .returned (.bool true) ∧ Below w.heap.size w w' := by
  have M := mul_lit 18446744073709551615 18446744073709551615 18446744073709551614 1 w (by decide) (by decide) (word_lit (by omega) (by omega)) (word_lit (by omega) (by omega))
  have T1 := fun w => times_lit 7 3 2 false 10 w (by decide) (word_lit (by omega) (by omega)) (word_lit (by omega) (by omega)) (word_lit (by omega) (by omega))
  have T2 := fun w => times_lit 7 3 2 true 11 w (by decide) (word_lit (by omega) (by omega)) (word_lit (by omega) (by omega)) (word_lit (by omega) (by omega))
  go_enter Try.func7, Try.ntmps7
  go_wp2_with fail
  refine M.mono ?_
  rintro e w1 ⟨rfl, rfl⟩
  go_wp2_with fail
  refine (T1 _).mono ?_
  rintro e w1 ⟨rfl, h1⟩
  go_wp2_with fail
  refine (T2 _).mono ?_
  rintro e w2 ⟨rfl, h2⟩
  have h12 := h1.trans (h2.mono h1.size)
  clear h1 h2
  go_wp2_with fail
  refine (sum_two 18446744073709551615 5 _ _ (word_lit (by omega) (by omega)) (word_lit (by omega) (by omega)) (Row.new' _ _ _ (by simp))).mono ?_
  rintro e w3 ⟨rfl, h3⟩
  have h4 := h12.alloc h12.size (.cells #[.int .u64 18446744073709551615, .int .u64 5] 22)
  have h5 := h4.trans (h3.mono h4.size)
  clear h12 h3 h4
  have E : cap (18446744073709551615 + 5) = 18446744073709551615 := by decide
  go_wp2_with fail
  refine (sum_none _).mono ?_
  rintro e w4 ⟨rfl, h6⟩
  have h7 := h5.trans (h6.mono h5.size)
  clear h5 h6
  go_wp2
  go_ret
  exact ⟨rfl, h7⟩
end Go.Proofs.Ytlmoehfgbhfhfaa
