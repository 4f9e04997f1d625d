import Derived.Test.YthpjanfpmmjheaaApart
import Derived.Test.YthpjanfpmmjheaaTwin
import Derived.Test.YthpjanfpmmjheaaLives
import Derived.Test.YthpjanfpmmjheaaRefPutN
namespace Go.Proofs.Ythpjanfpmmjheaa
open Go.RowKit
set_option linter.unusedVariables false

theorem same_yes (A B : Option Addr) (n m c d : Nat) (xs : List Int) (w : World) (S T : Nat)
    (hx : Sees w S A n (bv xs)) (hy : Sees w T B m (bv xs)) (hn : n ≤ maxLen) (hm : m ≤ maxLen) :
    Calls Try.prog 13 #[.slice A n c, .slice B m d] w fun e w' => e = .returned (.bool true) ∧ ∃ k, w' = w.drewN k := by
  refine (sameBytes A B n m c d xs xs w S T hx hy hn hm).mono ?_
  rintro e w' ⟨rfl, k, rfl⟩
  exact ⟨by simp, k, rfl⟩

theorem Row.sees_n {w : World} {g t : Nat} {xs : List Int} {n : Nat} (h : Row w g t (bv xs)) (hn : xs.length = n) : Sees w w.heap.size (some ⟨g, 0, none⟩) n (bv xs) := by
  have := h.sees0
  rwa [bv_length, hn] at this

theorem Row.sees_part {w : World} {g t : Nat} {xs ys : List Int} {n : Nat} (h : Row w g t (bv (xs ++ ys))) (hn : xs.length = n) : Sees w w.heap.size (some ⟨g, 0, none⟩) n (bv xs) :=
  ⟨by rw [bv_length, hn], fun i u hu => ⟨_, rfl, h.lt, by
    rw [addr_row, h.cell, bv_append, Nat.zero_add, List.getElem?_append_left (List.getElem?_eq_some_iff.1 hu).1]; exact hu⟩⟩

theorem dig_eff_len (x m : Int) : (dig x (eff m)).length = eff m := dig_len _ _

set_option maxHeartbeats 1000000 in
theorem put_walk_in (A : Option Addr) (n c : Nat) (zs : List Int) (x y m : Int) (w : World) (hx : Sees w w.heap.size A n (bv zs)) (hn : n ≤ 5000) (y0 : 0 ≤ y) (y1 : y < 18446744073709551616) (h0 : 0 ≤ x) (h1 : x ≤ 65535) :
    Calls Try.prog 3 #[.slice A n c, .agg #[.int .i64 x, .int .u64 y, .int .i64 m]] w fun e w' => e = .returned (.bool true) ∧ Below w.heap.size w w' := by
  have l0 := Lib.hid (show zs.length = n by have := hx.len; rwa [bv_length] at this)
  have hsl : (short x).length ≤ 3 := by rw [short_len]; (repeat' split) <;> omega
  have hel := eff_le m
  have Y1 := Lib.hid y1
  clear y1
  go_enter Try.func3, Try.ntmps3
  go_wp2_with fail
  have hx0 := hx.alloc (Nat.le_refl _) (.cells #[.int .i64 x, .int .u64 y, .int .i64 m] 25)
  have b0 := (Below.refl w.heap.size w).alloc (Nat.le_refl _) (.cells #[.int .i64 x, .int .u64 y, .int .i64 m] 25)
  refine (twinBytes A n c zs _ _ hx0 b0.size (by omega)).mono ?_
  rintro e w1 ⟨g1, rfl, hg1, hr1, hb1⟩
  have b1 := below_old b0 hb1 b0.size
  have hx1 := hx.below b1
  have R1 := Lib.hid hr1
  have s1 := hr1.sees_part l0.out
  have lt1 := hr1.lt
  clear b0 hb1 hx0 hr1
  go_wp2_with fail
  refine (putShort _ n _ zs _ _ x s1 (Nat.le_refl _) (by omega) h0 h1).mono ?_
  rintro e w2 ⟨g2, rfl, hg2, hr2, hb2⟩
  have b2 := below_old b1 hb2 b1.size
  have hx2 := hx.below b2
  have R1' := Lib.hid (R1.out.below hb2 lt1)
  have R2 := Lib.hid hr2
  have lt2 := hr2.lt
  have lt1' : g1 < w2.heap.size := by have := hb2.size; omega
  clear b1 hb2 hr2 s1 hx1
  go_wp2_with fail
  refine (refPutShort A n c zs _ _ x hx2 b2.size (by omega) h0 h1).mono ?_
  rintro e w3 ⟨A3, c3, rfl, hown3, hb3⟩
  have b3 := below_old b2 hb3 b2.size
  have hx3 := hx.below b3
  have R1 := Lib.hid (R1'.out.below hb3 lt1')
  have R2 := Lib.hid (R2.out.below hb3 lt2)
  have lt1 : g1 < w3.heap.size := by have := hb3.size; omega
  have lt2 : g2 < w3.heap.size := by have := hb3.size; omega
  have s1 := R1.out.sees_part l0.out
  have s3 := Sees.of_own hown3
  clear b2 hb3 hx2 hown3
  go_wp2_with fail
  refine (puts _ n _ zs _ _ y m s1 (Nat.le_refl _) (by omega) y0 Y1.out).mono ?_
  rintro e w4 ⟨g4, rfl, hg4, hr4, hb4⟩
  have b4 := below_old b3 hb4 b3.size
  have hx4 := hx.below b4
  have R1 := Lib.hid (R1.out.below hb4 lt1)
  have R2 := Lib.hid (R2.out.below hb4 lt2)
  have lt1 : g1 < w4.heap.size := by have := hb4.size; omega
  have lt2 : g2 < w4.heap.size := by have := hb4.size; omega
  have s3 := s3.below hb4
  have R4 := Lib.hid hr4
  have lt4 := hr4.lt
  have s2 := R2.out.sees_n (n := n + (short x).length) (by have := l0.out; simp; omega)
  clear b3 hb4 hx3 hr4 s1
  go_wp2_with fail
  refine (same_yes _ _ _ _ _ _ _ _ _ _ s2 s3 (by unfold maxLen; omega) (by unfold maxLen; omega)).mono ?_
  rintro e w5 ⟨rfl, k5, rfl⟩
  go_wp2_with fail
  refine (refPuts A n c zs _ _ y m (hx4.drewN k5) b4.size (by omega) y0 Y1.out).mono ?_
  rintro e w5 ⟨A5, c5, rfl, hown5, hb5⟩
  have b5 := below_old (below_drewN b4 k5) hb5 b4.size
  have hx5 := hx.below b5
  have R1 := Lib.hid ((R1.out.drewN k5).below hb5 lt1)
  have R2 := Lib.hid ((R2.out.drewN k5).below hb5 lt2)
  have R4 := Lib.hid ((R4.out.drewN k5).below hb5 lt4)
  have lt1 : g1 < w5.heap.size := by have := hb5.size; simp at this; omega
  have lt2 : g2 < w5.heap.size := by have := hb5.size; simp at this; omega
  have lt4 : g4 < w5.heap.size := by have := hb5.size; simp at this; omega
  have s4 := R4.out.sees_n (n := n + eff m) (by have := l0.out; simp [dig_len]; omega)
  have s5 := Sees.of_own hown5
  clear b4 hb5 hx4 hown5 s2 s3
  go_wp2_with fail
  refine (same_yes _ _ _ _ _ _ _ _ _ _ s4 s5 (by unfold maxLen; omega) (by unfold maxLen; omega)).mono ?_
  rintro e w6 ⟨rfl, k6, rfl⟩
  go_wp2_with fail
  refine (leftBytes g1 A n c zs _ _ (R1.out.drewN k6) (hx5.drewN k6) (by omega)).mono ?_
  rintro e w6 ⟨rfl, k7, rfl⟩
  have b6 := below_drewN (below_drewN b5 k6) k7
  have R1 := Lib.hid ((R1.out.drewN k6).drewN k7)
  have R2 := Lib.hid ((R2.out.drewN k6).drewN k7)
  have R4 := Lib.hid ((R4.out.drewN k6).drewN k7)
  clear b5 s4 s5 hx5 hx
  obtain ⟨W, hW⟩ : ∃ W, W = (w5.drewN k6).drewN k7 := ⟨_, rfl⟩
  rw [← hW] at b6 R1 R2 R4 ⊢
  clear hW
  have ne12 : g1 ≠ g2 := by omega
  have ne14 : g1 ≠ g4 := by omega
  have ne24 : g2 ≠ g4 := by omega
  have rb := Row.new W 35 [.slice none 0 0]
  have cb : (W.alloc (.cells #[.slice none 0 0] 35)).cell? ⟨W.heap.size, 0, none⟩ = some (.slice none 0 0) := rb.cell 0
  have fb := rb.frozen 0
  have RB := Lib.hid rb
  clear rb
  have F0 : Filled _ W.heap.size W.heap.size none 0 0 [] := ⟨rfl, RB.out, World.ownsRow_nil _ _ _ _⟩
  have k0 : ButOne W.heap.size W.heap.size W (W.alloc (.cells #[.slice none 0 0] 35)) := ⟨rfl, rfl, rfl, by simp, fun k hk _ => Below.heap_alloc _ _ _ hk⟩
  have F0' := Lib.hid F0
  have K0 := Lib.hid k0
  have sz0 : W.heap.size ≤ (W.alloc (.cells #[.slice none 0 0] 35)).heap.size := by simp
  clear F0 k0
  go_wp2_with fail
  refine (bookPage _ _ _ _ 0 [] ⟨some g1, n, n + 3, 1, 254⟩ _ (some ⟨g1, 0, none⟩) n (n + 3) F0'.out (by omega) sz0 rfl rfl rfl).mono ?_
  rintro e w7 ⟨A7, c7, rfl, F1, k1⟩
  have sz1 := Nat.le_trans sz0 k1.size
  have F1' := Lib.hid F1
  have K1 := Lib.hid (K0.out.trans k1)
  clear F1 k1 F0' K0 cb fb
  go_wp2_with fail
  refine (bookPage _ _ _ _ 1 _ ⟨some g2, n + (short x).length, n + (short x).length, 2, 253⟩ _ (some ⟨g2, 0, none⟩) _ _ F1'.out (by omega) sz1 rfl rfl rfl).mono ?_
  rintro e w8 ⟨A8, c8, rfl, F2, k2⟩
  have sz2 := Nat.le_trans sz1 k2.size
  have F2' := Lib.hid F2
  have K2 := Lib.hid (K1.out.trans k2)
  clear F2 k2 F1' K1
  go_wp2_with fail
  refine (bookPage _ _ _ _ 2 _ ⟨some g4, n + eff m, n + eff m, 3, 252⟩ _ (some ⟨g4, 0, none⟩) _ _ F2'.out (by omega) sz2 rfl rfl rfl).mono ?_
  rintro e w9 ⟨A9, c9, rfl, F3, k3⟩
  have F3' := Lib.hid F3
  have K3 := Lib.hid (K2.out.trans k3)
  clear F3 k3 F2' K2
  go_wp2_with fail
  refine (apart W.heap.size W.heap.size _ _ _ _ ⟨F3'.out.row, F3'.out.own, ?_⟩ ?_ (by simp)).mono ?_
  · have e1 := (R1.out.butOne K3.out R1.out.lt (Nat.ne_of_lt R1.out.lt))
    have e2 := (R2.out.butOne K3.out R2.out.lt (Nat.ne_of_lt R2.out.lt))
    have e4 := (R4.out.butOne K3.out R4.out.lt (Nat.ne_of_lt R4.out.lt))
    have hz := l0.out
    intro i hi
    have hi3 : i < 3 := hi
    obtain rfl | rfl | rfl : i = 0 ∨ i = 1 ∨ i = 2 := by omega
    · exact fit_start e1 (by rw [bv_length]; simp; omega) (by omega) (by omega) (by omega) (by omega)
    · exact fit_start e2 (by rw [bv_length]; simp; omega) (Nat.le_refl _) (by omega) (by omega) (by omega)
    · exact fit_start e4 (by rw [bv_length]; simp [dig_len]; omega) (Nat.le_refl _) (by omega) (by omega) (by omega)
  · exact parted_of (by simp; omega)
  rintro e w10 ⟨rfl, ht⟩
  have bt := ht.below (B := w.heap.size) (Nat.le_trans b6.size K3.out.size) (fun q hq g e => by
    simp at hq
    simp at hg1
    rcases hq with rfl | rfl | rfl <;> cases e <;> omega)
  have b10 := (b6.trans (K3.out.below b6.size b6.size)).trans bt
  clear ht bt F3' K3
  go_wp2_with fail
  refine (lives _).mono ?_
  rintro e w11 ⟨rfl, hb11⟩
  go_wp2_with fail
  go_ret
  exact ⟨rfl, b10.trans (hb11.mono b10.size)⟩
set_option maxHeartbeats 1000000 in
theorem put_walk_out (A : Option Addr) (n c : Nat) (zs : List Int) (x y m : Int) (w : World) (hx : Sees w w.heap.size A n (bv zs)) (hn : n ≤ 5000) (y0 : 0 ≤ y) (y1 : y < 18446744073709551616) (hbad : x < 0 ∨ 65535 < x) :
    Calls Try.prog 3 #[.slice A n c, .agg #[.int .i64 x, .int .u64 y, .int .i64 m]] w fun e w' => e = .returned (.bool true) ∧ Below w.heap.size w w' := by
  have l0 := Lib.hid (show zs.length = n by have := hx.len; rwa [bv_length] at this)
  have hel := eff_le m
  have Y1 := Lib.hid y1
  clear y1
  go_enter Try.func3, Try.ntmps3
  go_wp2_with fail
  have hx0 := hx.alloc (Nat.le_refl _) (.cells #[.int .i64 x, .int .u64 y, .int .i64 m] 25)
  have b0 := (Below.refl w.heap.size w).alloc (Nat.le_refl _) (.cells #[.int .i64 x, .int .u64 y, .int .i64 m] 25)
  refine (twinBytes A n c zs _ _ hx0 b0.size (by omega)).mono ?_
  rintro e w1 ⟨g1, rfl, hg1, hr1, hb1⟩
  have b1 := below_old b0 hb1 b0.size
  have hx1 := hx.below b1
  have R1 := Lib.hid hr1
  have s1 := hr1.sees_part l0.out
  have lt1 := hr1.lt
  clear b0 hb1 hx0 hr1
  go_wp2_with fail
  refine (putShort_bad _ n _ _ x hbad).mono ?_
  rintro e w2 ⟨rfl, rfl⟩
  go_wp2_with fail
  refine (refPutShort_bad A n c _ x hbad).mono ?_
  rintro e w3 ⟨rfl, rfl⟩
  go_wp2_with fail
  refine (puts _ n _ zs _ _ y m s1 (Nat.le_refl _) (by omega) y0 Y1.out).mono ?_
  rintro e w4 ⟨g4, rfl, hg4, hr4, hb4⟩
  have b4 := below_old b1 hb4 b1.size
  have hx4 := hx.below b4
  have R1 := Lib.hid (R1.out.below hb4 lt1)
  have lt1 : g1 < w4.heap.size := by have := hb4.size; omega
  have R4 := Lib.hid hr4
  have lt4 := hr4.lt
  clear b1 hb4 hx1 hr4 s1
  go_wp2_with fail
  refine (same_yes none none 0 0 0 0 [] _ 0 0 (Sees.nil _ _ _) (Sees.nil _ _ _) (by unfold maxLen; omega) (by unfold maxLen; omega)).mono ?_
  rintro e w5 ⟨rfl, k5, rfl⟩
  go_wp2_with fail
  refine (refPuts A n c zs _ _ y m (hx4.drewN k5) b4.size (by omega) y0 Y1.out).mono ?_
  rintro e w5 ⟨A5, c5, rfl, hown5, hb5⟩
  have b5 := below_old (below_drewN b4 k5) hb5 b4.size
  have hx5 := hx.below b5
  have R1 := Lib.hid ((R1.out.drewN k5).below hb5 lt1)
  have R4 := Lib.hid ((R4.out.drewN k5).below hb5 lt4)
  have lt1 : g1 < w5.heap.size := by have := hb5.size; simp at this; omega
  have lt4 : g4 < w5.heap.size := by have := hb5.size; simp at this; omega
  have s4 := R4.out.sees_n (n := n + eff m) (by have := l0.out; simp [dig_len]; omega)
  have s5 := Sees.of_own hown5
  clear b4 hb5 hx4 hown5
  go_wp2_with fail
  refine (same_yes _ _ _ _ _ _ _ _ _ _ s4 s5 (by unfold maxLen; omega) (by unfold maxLen; omega)).mono ?_
  rintro e w6 ⟨rfl, k6, rfl⟩
  go_wp2_with fail
  refine (leftBytes g1 A n c zs _ _ (R1.out.drewN k6) (hx5.drewN k6) (by omega)).mono ?_
  rintro e w6 ⟨rfl, k7, rfl⟩
  have b6 := below_drewN (below_drewN b5 k6) k7
  have R1 := Lib.hid ((R1.out.drewN k6).drewN k7)
  have R4 := Lib.hid ((R4.out.drewN k6).drewN k7)
  clear b5 s4 s5 hx5 hx
  obtain ⟨W, hW⟩ : ∃ W, W = (w5.drewN k6).drewN k7 := ⟨_, rfl⟩
  rw [← hW] at b6 R1 R4 ⊢
  clear hW
  have ne14 : g1 ≠ g4 := by omega
  have rb := Row.new W 35 [.slice none 0 0]
  have cb : (W.alloc (.cells #[.slice none 0 0] 35)).cell? ⟨W.heap.size, 0, none⟩ = some (.slice none 0 0) := rb.cell 0
  have fb := rb.frozen 0
  have RB := Lib.hid rb
  clear rb
  have F0 : Filled _ W.heap.size W.heap.size none 0 0 [] := ⟨rfl, RB.out, World.ownsRow_nil _ _ _ _⟩
  have k0 : ButOne W.heap.size W.heap.size W (W.alloc (.cells #[.slice none 0 0] 35)) := ⟨rfl, rfl, rfl, by simp, fun k hk _ => Below.heap_alloc _ _ _ hk⟩
  have F0' := Lib.hid F0
  have K0 := Lib.hid k0
  have sz0 : W.heap.size ≤ (W.alloc (.cells #[.slice none 0 0] 35)).heap.size := by simp
  clear F0 k0
  go_wp2_with fail
  refine (bookPage _ _ _ _ 0 [] ⟨some g1, n, n + 3, 1, 254⟩ _ (some ⟨g1, 0, none⟩) n (n + 3) F0'.out (by omega) sz0 rfl rfl rfl).mono ?_
  rintro e w7 ⟨A7, c7, rfl, F1, k1⟩
  have sz1 := Nat.le_trans sz0 k1.size
  have F1' := Lib.hid F1
  have K1 := Lib.hid (K0.out.trans k1)
  clear F1 k1 F0' K0 cb fb
  go_wp2_with fail
  refine (bookPage _ _ _ _ 1 _ ⟨none, 0, 0, 2, 253⟩ _ none _ _ F1'.out (by omega) sz1 rfl rfl rfl).mono ?_
  rintro e w8 ⟨A8, c8, rfl, F2, k2⟩
  have sz2 := Nat.le_trans sz1 k2.size
  have F2' := Lib.hid F2
  have K2 := Lib.hid (K1.out.trans k2)
  clear F2 k2 F1' K1
  go_wp2_with fail
  refine (bookPage _ _ _ _ 2 _ ⟨some g4, n + eff m, n + eff m, 3, 252⟩ _ (some ⟨g4, 0, none⟩) _ _ F2'.out (by omega) sz2 rfl rfl rfl).mono ?_
  rintro e w9 ⟨A9, c9, rfl, F3, k3⟩
  have F3' := Lib.hid F3
  have K3 := Lib.hid (K2.out.trans k3)
  clear F3 k3 F2' K2
  go_wp2_with fail
  refine (apart W.heap.size W.heap.size _ _ _ _ ⟨F3'.out.row, F3'.out.own, ?_⟩ ?_ (by simp)).mono ?_
  · have e1 := (R1.out.butOne K3.out R1.out.lt (Nat.ne_of_lt R1.out.lt))
    have e4 := (R4.out.butOne K3.out R4.out.lt (Nat.ne_of_lt R4.out.lt))
    have hz := l0.out
    intro i hi
    have hi3 : i < 3 := hi
    obtain rfl | rfl | rfl : i = 0 ∨ i = 1 ∨ i = 2 := by omega
    · exact fit_start e1 (by rw [bv_length]; simp; omega) (by omega) (by omega) (by omega) (by omega)
    · exact fit_nil
    · exact fit_start e4 (by rw [bv_length]; simp [dig_len]; omega) (Nat.le_refl _) (by omega) (by omega) (by omega)
  · exact parted_of (by simp; omega)
  rintro e w10 ⟨rfl, ht⟩
  have bt := ht.below (B := w.heap.size) (Nat.le_trans b6.size K3.out.size) (fun q hq g e => by
    simp at hq
    simp at hg1
    rcases hq with rfl | rfl | rfl <;> cases e <;> omega)
  have b10 := (b6.trans (K3.out.below b6.size b6.size)).trans bt
  clear ht bt F3' K3
  go_wp2_with fail
  refine (lives _).mono ?_
  rintro e w11 ⟨rfl, hb11⟩
  go_wp2_with fail
  go_ret
  exact ⟨rfl, b10.trans (hb11.mono b10.size)⟩

set_option maxHeartbeats 400000 in
theorem put_walk (A : Option Addr) (n c : Nat) (zs : List Int) (x y m : Int) (w : World) (hx : Sees w w.heap.size A n (bv zs)) (hn : n ≤ maxLen) (y0 : 0 ≤ y) (y1 : y < 18446744073709551616) :
    Calls Try.prog 3 #[.slice A n c, .agg #[.int .i64 x, .int .u64 y, .int .i64 m]] w fun e w' => e = .returned (.bool true) ∧ Below w.heap.size w w' := by
  by_cases hbig : n ≤ 5000
  · by_cases h : x < 0 ∨ 65535 < x
    · exact put_walk_out A n c zs x y m w hx hbig y0 y1 h
    · exact put_walk_in A n c zs x y m w hx hbig y0 y1 (by omega) (by omega)
  · unfold maxLen at hn
    have b0 := (Below.refl w.heap.size w).alloc (Nat.le_refl _) (.cells #[.int .i64 x, .int .u64 y, .int .i64 m] 25)
    clear y1
    go_enter Try.func3, Try.ntmps3
    go_wp2_with fail
    refine (lives _).mono ?_
    rintro e w11 ⟨rfl, hb11⟩
    go_wp2_with fail
    go_ret
    exact ⟨rfl, b0.trans (hb11.mono b0.size)⟩
end Go.Proofs.Ythpjanfpmmjheaa
