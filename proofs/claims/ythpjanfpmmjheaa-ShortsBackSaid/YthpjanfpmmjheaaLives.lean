import Derived.Test.YthpjanfpmmjheaaSame
import Derived.Test.YthpjanfpmmjheaaGetN
import Derived.Test.YthpjanfpmmjheaaPutN
import Derived.WalkSmall
namespace Go.Proofs.Ythpjanfpmmjheaa
open Go.RowKit
set_option linter.unusedVariables false

theorem bytes_of {zs : List Int} (h : ∀ z ∈ zs, 0 ≤ z ∧ z < 256) : Bytes zs := by
  intro i
  rw [List.getD_eq_getElem?_getD]
  by_cases hi : i < zs.length
  · rw [List.getElem?_eq_getElem hi]
    exact h _ (List.getElem_mem hi)
  · rw [List.getElem?_eq_none (by omega)]; simp

theorem getShort_lit (g n : Nat) (zs : List Int) (a b c : Int) (w : World) (hr : Row w g 5 (bv zs)) (hl : zs.length = n) (hz : ∀ z ∈ zs, 0 ≤ z ∧ z < 256) (hn : n ≤ maxLen) (h : getS zs = (a, b, c)) :
    Calls Try.prog 18 #[.slice (some ⟨g, 0, none⟩) n n] w fun e w' => e = .returned (.tuple #[.int .i64 a, .int .i64 b, .int .i64 c]) ∧ w = w' := by
  have hs := hr.sees0
  rw [bv_length, hl] at hs
  refine (getShort _ n n zs w _ hs hn (bytes_of hz)).mono ?_
  rintro e w' ⟨rfl, rfl⟩
  rw [h]
  exact ⟨rfl, rfl⟩

theorem put_lit (x : Int) (ys : List Int) (n : Nat) (w : World) (h : short x = ys) (hn : ys.length = n) (h0 : 0 ≤ x) (h1 : x ≤ 65535) :
    Calls Try.prog 22 #[.int .i64 x] w fun e w' => ∃ g, e = .returned (.slice (some ⟨g, 0, none⟩) n n) ∧ w.heap.size ≤ g ∧ Row w' g 5 (bv ys) ∧ Below w.heap.size w w' := by
  have := put_ x w h0 h1
  rwa [h, hn] at this

theorem puts_lit (x : Int) (m : Nat) (ys : List Int) (w : World) (h : dig x m = ys) (he : eff m = m) (h0 : 0 ≤ x) (h1 : x < 18446744073709551616) :
    Calls Try.prog 12 #[.slice none 0 0, .int .u64 x, .int .i64 m] w fun e w' => ∃ g, e = .returned (.slice (some ⟨g, 0, none⟩) m m) ∧ w.heap.size ≤ g ∧ Row w' g 5 (bv ys) ∧ Below w.heap.size w w' := by
  have := puts none 0 0 [] w 0 x m (Sees.nil _ _ _) (by omega) (by omega) h0 h1
  rw [he, h] at this
  simp only [Nat.zero_add, List.nil_append] at this
  exact this

/-- two blocks of one content -/
theorem same_rows (g g' n : Nat) (zs : List Int) (w : World) (hr : Row w g 5 (bv zs)) (hr' : Row w g' 5 (bv zs)) (hl : zs.length = n) (hn : n ≤ maxLen) :
    Calls Try.prog 13 #[.slice (some ⟨g, 0, none⟩) n n, .slice (some ⟨g', 0, none⟩) n n] w fun e w' => e = .returned (.bool true) ∧ ∃ k, w' = w.drewN k := by
  have hs := hr.sees0
  have hs' := hr'.sees0
  rw [bv_length, hl] at hs hs'
  refine (sameBytes _ _ n n n n zs zs w _ _ hs hs' hn hn).mono ?_
  rintro e w' ⟨rfl, k, rfl⟩
  exact ⟨by simp, k, rfl⟩

set_option maxHeartbeats 1000000 in
theorem lives (w : World) : Calls Try.prog 8 #[] w fun e w' => e = .returned (.bool true) ∧ Below w.heap.size w w' := by
  go_enter Try.func8, Try.ntmps8
  go_wp2_with fail
  refine (getShort_lit _ 2 [128, 0] 0 0 4 _ (Row.new' _ _ _ (by simp)) rfl (by simp) (by simp [maxLen]) (by simp [getS, mea])).mono ?_
  rintro e w1 ⟨rfl, rfl⟩
  go_wp2_with fail
  refine (getShort_lit _ 3 [255, 255, 4] 0 0 4 _ (Row.new' _ _ _ (by simp)) rfl (by simp) (by simp [maxLen]) (by simp [getS, mea])).mono ?_
  rintro e w1 ⟨rfl, rfl⟩
  go_wp2_with fail
  refine (getShort_lit _ 1 [255] 0 0 5 _ (Row.new' _ _ _ (by simp)) rfl (by simp) (by simp [maxLen]) (by simp [getS, mea])).mono ?_
  rintro e w1 ⟨rfl, rfl⟩
  go_wp2_with fail
  have hb0 : Below w.heap.size w (((w.alloc (.cells #[.int .u8 128, .int .u8 0] 5)).alloc (.cells #[.int .u8 255, .int .u8 255, .int .u8 4] 5)).alloc (.cells #[.int .u8 255] 5)) :=
    (((Below.refl _ _).alloc (Nat.le_refl _) _).alloc (by simp) _).alloc (by simp; omega) _
  refine (put_lit 0 [0] 1 _ (by simp [short]) rfl (by omega) (by omega)).mono ?_
  rintro e w1 ⟨g, rfl, hg, hrow, hb⟩
  have hbb := hb0.trans (hb.mono hb0.size)
  clear hb0 hb
  go_wp2_with fail
  refine (same_rows _ _ 1 [0] _ (hrow.alloc _) (Row.new' _ _ _ (by simp)) rfl (by simp [maxLen])).mono ?_
  rintro e w2 ⟨rfl, k, rfl⟩
  have hb0 := below_drewN (hbb.alloc hbb.size (.cells #[.int .u8 0] 5)) k
  clear hbb hrow hg
  go_wp2_with fail
  refine (put_lit 128 [128, 1] 2 _ (by simp [short]) rfl (by omega) (by omega)).mono ?_
  rintro e w1 ⟨g, rfl, hg, hrow, hb⟩
  have hbb := hb0.trans (hb.mono hb0.size)
  clear hb0 hb
  go_wp2_with fail
  refine (same_rows _ _ 2 [128, 1] _ (hrow.alloc _) (Row.new' _ _ _ (by simp)) rfl (by simp [maxLen])).mono ?_
  rintro e w2 ⟨rfl, k, rfl⟩
  have hb0 := below_drewN (hbb.alloc hbb.size (.cells #[.int .u8 128, .int .u8 1] 5)) k
  clear hbb hrow hg
  go_wp2_with fail
  refine (put_lit 16384 [128, 128, 1] 3 _ (by simp [short]) rfl (by omega) (by omega)).mono ?_
  rintro e w1 ⟨g, rfl, hg, hrow, hb⟩
  have hbb := hb0.trans (hb.mono hb0.size)
  clear hb0 hb
  go_wp2_with fail
  refine (same_rows _ _ 3 [128, 128, 1] _ (hrow.alloc _) (Row.new' _ _ _ (by simp)) rfl (by simp [maxLen])).mono ?_
  rintro e w2 ⟨rfl, k, rfl⟩
  have hb0 := below_drewN (hbb.alloc hbb.size (.cells #[.int .u8 128, .int .u8 128, .int .u8 1] 5)) k
  clear hbb hrow hg
  go_wp2_with fail
  refine (put_lit 65535 [255, 255, 3] 3 _ (by simp [short]) rfl (by omega) (by omega)).mono ?_
  rintro e w1 ⟨g, rfl, hg, hrow, hb⟩
  have hbb := hb0.trans (hb.mono hb0.size)
  clear hb0 hb
  go_wp2_with fail
  refine (same_rows _ _ 3 [255, 255, 3] _ (hrow.alloc _) (Row.new' _ _ _ (by simp)) rfl (by simp [maxLen])).mono ?_
  rintro e w2 ⟨rfl, k, rfl⟩
  have hb0 := below_drewN (hbb.alloc hbb.size (.cells #[.int .u8 255, .int .u8 255, .int .u8 3] 5)) k
  clear hbb hrow hg
  go_wp2_with fail
  refine (puts_lit 258 4 [2, 1, 0, 0] _ (by simp [dig]; decide) (by simp [eff]) (by omega) (by omega)).mono ?_
  rintro e w1 ⟨g, rfl, hg, hrow, hb⟩
  have hbb := hb0.trans (hb.mono hb0.size)
  clear hb0 hb
  go_wp2_with fail
  refine (same_rows _ _ 4 [2, 1, 0, 0] _ (hrow.alloc _) (Row.new' _ _ _ (by simp)) rfl (by simp [maxLen])).mono ?_
  rintro e w2 ⟨rfl, k, rfl⟩
  have hb0 := below_drewN (hbb.alloc hbb.size (.cells #[.int .u8 2, .int .u8 1, .int .u8 0, .int .u8 0] 5)) k
  clear hbb hrow hg
  go_wp2_with fail
  go_ret
  exact ⟨rfl, hb0⟩
end Go.Proofs.Ythpjanfpmmjheaa
