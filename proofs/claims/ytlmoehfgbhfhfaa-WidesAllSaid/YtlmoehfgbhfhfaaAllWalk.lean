/-
  The law on all of wides, walked.
-/
import Derived.Test.YtlmoehfgbhfhfaaRefTimes
import Derived.Test.YtlmoehfgbhfhfaaLives2
namespace Go.Proofs.Ytlmoehfgbhfhfaa
open Go.RowKit
set_option linter.unusedVariables false

set_option maxHeartbeats 1000000 in
theorem refTimes_zero (a b : Int) (up : Bool) (w : World) :
    Calls Try.prog 11 #[.int .u64 a, .int .u64 b, .int .u64 0, .bool up] w fun e w' => e = .returned (.int .u64 18446744073709551615) ∧ Below w.heap.size w w' := by
  go_enter Try.func11, Try.ntmps11
  go_wp2
  go_ret
  exact ⟨rfl, Below.refl _ _⟩

theorem refTimesAll (a b d : Int) (up : Bool) (w : World) (ha : Word a) (hb : Word b) (hd : Word d) :
    Calls Try.prog 11 #[.int .u64 a, .int .u64 b, .int .u64 d, .bool up] w fun e w' => e = .returned (.int .u64 (times a b d up)) ∧ Below w.heap.size w w' := by
  by_cases h : d = 0
  · subst h
    have e : times a b 0 up = 18446744073709551615 := by
      have := (word_hi ha hb).1
      unfold times
      rw [if_pos this]
    rw [e]
    exact refTimes_zero a b up w
  · exact refTimes_ a b d up w ha hb hd (by have := hd.1; omega)

set_option maxHeartbeats 2000000 in
theorem widesAll_walk (zs : List Int) (A : Option Addr) (n c : Nat) (ls : List Int) (w : World) (hl : zs.length = 3) (hz : ∀ z ∈ zs, Word z)
    (hn : n ≤ maxLen) (hs : Sees w w.heap.size A n (cv .u64 ls)) (hw : ∀ z ∈ ls, Word z) :
    Calls Try.prog 3 #[.agg (cv .u64 zs).toArray, .slice A n c] w fun e w' => e = .returned (.bool true) ∧ Below w.heap.size w w' := by
  obtain ⟨a, b, d, rfl⟩ : ∃ a b d, zs = [a, b, d] := by
    match zs, hl with
    | [a, b, d], _ => exact ⟨a, b, d, rfl⟩
  have ha := hz a (by simp)
  have hb := hz b (by simp)
  have hd := hz d (by simp)
  have hm := hn
  unfold maxLen at hm
  have b1 := (Below.refl w.heap.size w).alloc (Nat.le_refl _) (.cells #[.int .u64 a, .int .u64 b, .int .u64 d] 23)
  have M1 := fun w => mul_ a b ha hb w
  have M2 := fun w => refMul_ a b ha hb w
  have T1 := fun w => times_ a b d false w ha hb hd
  have T2 := fun w => refTimesAll a b d false w ha hb hd
  have T3 := fun w => times_ a b d true w ha hb hd
  have T4 := fun w => refTimesAll a b d true w ha hb hd
  generalize a * b / 18446744073709551616 = h at *
  generalize a * b % 18446744073709551616 = l at *
  generalize times a b d false = x at *
  generalize times a b d true = y at *
  have HS := Lib.hid hs
  clear hs ha hb hd hz hl
  simp only [cv, List.map_cons, List.map_nil]
  by_cases hlong : 2000 < n
  · go_enter Try.func3, Try.ntmps3
    go_wp2_with fail
    refine (lives2 _).mono ?_
    rintro e w2 ⟨rfl, hb⟩
    go_wp2
    go_ret
    exact ⟨rfl, b1.trans (hb.mono b1.size)⟩
  · go_enter Try.func3, Try.ntmps3
    go_wp2_with fail
    refine (M1 _).mono ?_
    rintro e w2 ⟨rfl, rfl⟩
    go_wp2_with fail
    refine (M2 _).mono ?_
    rintro e w3 ⟨rfl, h3⟩
    have b3 := b1.trans (h3.mono b1.size)
    clear h3 b1
    go_wp2_with fail
    refine (T1 _).mono ?_
    rintro e w4 ⟨rfl, h4⟩
    have b4 := b3.trans (h4.mono b3.size)
    clear h4 b3
    go_wp2_with fail
    refine (T2 _).mono ?_
    rintro e w5 ⟨rfl, h5⟩
    have b5 := b4.trans (h5.mono b4.size)
    clear h5 b4
    go_wp2_with fail
    refine (T3 _).mono ?_
    rintro e w6 ⟨rfl, h6⟩
    have b6 := b5.trans (h6.mono b5.size)
    clear h6 b5
    go_wp2_with fail
    refine (T4 _).mono ?_
    rintro e w7 ⟨rfl, h7⟩
    have b7 := b6.trans (h7.mono b6.size)
    clear h7 b6
    go_wp2_with fail
    refine (sum_ A n c ls w7 _ (HS.out.below b7) b7.size hn hw).mono ?_
    rintro e w8 ⟨rfl, h8⟩
    have b8 := b7.trans (h8.mono b7.size)
    clear h8 b7
    go_wp2_with fail
    refine (refSum_ A n c ls w8 _ (HS.out.below b8) hn hw).mono ?_
    rintro e w9 ⟨rfl, rfl⟩
    go_wp2_with fail
    refine (lives2 _).mono ?_
    rintro e w10 ⟨rfl, h10⟩
    have b10 := b8.trans (h10.mono b8.size)
    clear h10 b8
    go_wp2
    go_ret
    exact ⟨rfl, b10⟩
end Go.Proofs.Ytlmoehfgbhfhfaa
