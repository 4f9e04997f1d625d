import Derived.Test.YthpjanfpmmjheaaBackMath
import Derived.Test.YthpjanfpmmjheaaLives
import Derived.Test.YthpjanfpmmjheaaTwin
import Derived.Test.YthpjanfpmmjheaaPutWalk
namespace Go.Proofs.Ythpjanfpmmjheaa
open Go.RowKit
set_option linter.unusedVariables false

theorem sees_off {w : World} {g t : Nat} {xs ys : List Int} {n m : Nat} (h : Row w g t (bv (xs ++ ys))) (hn : xs.length = n) (hm : ys.length = m) : Sees w w.heap.size (some ⟨g, n, none⟩) m (bv ys) :=
  ⟨by rw [bv_length, hm], fun i u hu => ⟨_, rfl, h.lt, by
    rw [addr_row, h.cell, bv_append, List.getElem?_append_right (by rw [bv_length]; omega), bv_length, show n + i - xs.length = i by omega]; exact hu⟩⟩

theorem sees_cut {w : World} {B : Nat} {A : Option Addr} {n : Nat} {xs : List Int} (h : Sees w B A n (bv xs)) {k : Nat} (hk : k ≤ n) : Sees w B A k (bv (xs.take k)) :=
  ⟨by have := h.len; rw [bv_length] at this ⊢; simp; omega, fun i u hu => h.cell i u (by
    simp only [bv, cv, List.map_take, List.getElem?_take] at hu ⊢
    split at hu
    · exact hu
    · cases hu)⟩

set_option maxRecDepth 100000 in
set_option maxHeartbeats 2000000 in
theorem back_walk_in (A B : Option Addr) (n m c d : Nat) (zs ys : List Int) (x y z : Int) (w : World) (hx : Sees w w.heap.size A n (bv zs)) (hy : Sees w w.heap.size B m (bv ys)) (hby : Bytes ys) (hn : n ≤ 5000) (hm : m ≤ 5000) (y0 : 0 ≤ y) (y1 : y < 18446744073709551616) :
    Calls Try.prog 5 #[.slice A n c, .slice B m d, .agg #[.int .i64 x, .int .u64 y, .int .i64 z]] w fun e w' => e = .returned (.bool true) ∧ Below w.heap.size w w' := by
  obtain ⟨i0, hi, hz0, hz1, hz2⟩ := info_parts info_u8
  have l0 := Lib.hid (show zs.length = n by have := hx.len; rwa [bv_length] at this)
  have l1 := Lib.hid (show ys.length = m by have := hy.len; rwa [bv_length] at this)
  have Y1 := Lib.hid y1
  clear y1
  have v0 : 0 ≤ IntKind.u16.wrap x := by rw [IntKind.wrap_u16]; omega
  have v1 : IntKind.u16.wrap x ≤ 65535 := by rw [IntKind.wrap_u16]; omega
  have b0 := (Below.refl w.heap.size w).alloc (Nat.le_refl _) (.cells #[.int .i64 x, .int .u64 y, .int .i64 z] 25)
  go_enter Try.func5, Try.ntmps5
  go_wp2_with fail
  generalize IntKind.u16.wrap x = X at *
  have hL : (short X).length ≤ 3 := by rw [short_len]; (repeat' split) <;> omega
  have hL1 : 1 ≤ (short X).length := by rw [short_len]; (repeat' split) <;> omega
  refine (putShort A n c zs _ _ X (hx.alloc (Nat.le_refl _) _) b0.size (by omega) v0 v1).mono ?_
  rintro e w1 ⟨g, rfl, hg, hr, hb⟩
  have b1 := below_old b0 hb b0.size
  obtain ⟨L, hLL⟩ : ∃ L, (short X).length = L := ⟨_, rfl⟩
  rw [hLL] at hL hL1 ⊢
  have HL := Lib.hid hLL
  have R := Lib.hid hr
  have s1 := hr.sees_part l0.out
  have hx1 := hx.below b1
  have d1 : ((n : Int) + (L : Int) ≤ (n : Int)) = False := by simp; omega
  clear b0 hb hr hLL
  go_wp2_with fail
  refine (same_yes _ _ _ _ _ _ zs _ _ _ s1 hx1 (by unfold maxLen; omega) (by unfold maxLen; omega)).mono ?_
  rintro e w2 ⟨rfl, k2, rfl⟩
  have b2 := below_drewN b1 k2
  have R2 := Lib.hid (R.out.drewN k2)
  clear b1 s1 hx1 R
  have hy2 := hy.below b2
  generalize w1.drewN k2 = w2 at *
  have s2 := sees_off R2.out l0.out HL.out
  have hn2 := World.ownsRow_nil w2 w2.heap.size 5 1
  have o1 := bv_one (short X)
  have o2 := bv_one ys
  go_wp2_with (first
    | (at_builtin; refine wpList_append_sees rfl (.const (.slice none 0 0)) (.tmp 70) 22 rfl w2.heap.size 5 i0 _ 1 Try.underlying22 hi hz0 hz1 hz2 rfl _ 0 _ rfl hn2 _ _ L _ _ rfl s2 o1 (by unfold maxLen; omega) (by omega) (Nat.le_refl _) ?_; intro v3 w3 hown3 hg3 hat3; have b3 := below_append (Below.refl w2.heap.size w2) hn2 (Nat.le_refl _) (Nat.le_refl _) hg3; have hy3 := hy2.below (b3.mono b2.size); have sz3 := b3.size; clear hg3 hat3 hn2)
    | (at_builtin; go_must (refine wpList_append_sees rfl (.tmp 71) (.tmp 72) 22 rfl w2.heap.size 5 i0 _ 1 Try.underlying22 hi hz0 hz1 hz2 rfl _ (0 + L) _ rfl hown3 _ _ m _ _ rfl hy3 o2 (by unfold maxLen; omega) (by omega) sz3 ?_); intro v4 w4 hown4 hg4 hat4; have b4 := below_append b3 hown3 (Nat.le_refl _) sz3 hg4; clear hg4 hat4; obtain ⟨A4, c4, rfl⟩ := own_form hown4))
  have s4 : Sees w4 w4.heap.size A4 (L + m) (bv (short X ++ ys)) := by
    have := Sees.of_own hown4
    rwa [Nat.zero_add, List.nil_append, ← bv_append] at this
  have G := getShort A4 (L + m) c4 (short X ++ ys) w4 _ s4 (by unfold maxLen; omega) (bytes_of (fun z hz => by rcases List.mem_append.1 hz with h | h; exact bytes_short X v0 v1 z h; exact hby.all z h))
  rw [getS_short X ys v0 v1, HL.out] at G
  refine G.mono ?_
  rintro e w5 ⟨rfl, rfl⟩
  have R4 := Lib.hid (R2.out.below b4 R2.out.lt)
  have hB4 := below_old b2 b4 b2.size
  clear G s4 hown4 hown3 hy3 b3 b4 o1 sz3
  have s5 := sees_cut (sees_off R4.out l0.out HL.out) (k := L - 1) (by omega)
  go_wp2_with fail
  have G := getShort (some ⟨g, n, none⟩) (L - 1) L _ _ _ s5 (by unfold maxLen; omega) (bytes_of (fun z hz => bytes_short X v0 v1 z (List.mem_of_mem_take hz)))
  have gc := getS_cut X v0 v1
  rw [HL.out] at gc
  rw [gc] at G
  clear gc
  refine G.mono ?_
  rintro e w5 ⟨rfl, rfl⟩
  clear G s5 s2 hy2 b2
  go_wp2_with fail
  clear R4 R2 d1 HL
  go_loopw [18] (fun i wr => ∃ k : Nat, 1 ≤ k ∧ k ≤ 9 ∧ i = .int .i64 k ∧ Below w.heap.size w wr) (fun i _ => 9 - (intOf i).toNat)
  case atStart => exact ⟨1, by omega, by omega, rfl, hB4⟩
  case round =>
    obtain ⟨k, hk1, hk9, rfl, bw⟩ := hrel
    clear hB4
    by_cases hlt : k ≤ 8
    · have ek : eff (k : Int) = k := by unfold eff; rw [if_pos (by omega)]; simp
      have P := puts A n c zs wr _ y k (hx.below bw) bw.size (by omega) y0 Y1.out
      rw [ek] at P
      have PP := Lib.hid P
      clear P ek
      go_wp2_with fail
      refine PP.out.mono ?_
      rintro e w1 ⟨g, rfl, hg, hr, hb⟩
      have b1 := below_old bw hb bw.size
      have R := Lib.hid hr
      have s2 := sees_off hr l0.out (dig_len y k)
      have hy2 := hy.below b1
      have hn2 := World.ownsRow_nil w1 w1.heap.size 5 1
      have o1 := bv_one (dig y k)
      have d1 : ((n : Int) + (k : Int) != (n : Int) + (k : Int)) = false := by simp
      clear hb hr bw PP
      go_wp2_with (first
        | (at_builtin; refine wpList_append_sees rfl (.const (.slice none 0 0)) (.tmp 126) 22 rfl w1.heap.size 5 i0 _ 1 Try.underlying22 hi hz0 hz1 hz2 rfl _ 0 _ rfl hn2 _ _ k _ _ rfl s2 o1 (by unfold maxLen; omega) (by omega) (Nat.le_refl _) ?_; intro v3 w3 hown3 hg3 hat3; have b3 := below_append (Below.refl w1.heap.size w1) hn2 (Nat.le_refl _) (Nat.le_refl _) hg3; have hy3 := hy2.below (b3.mono b1.size); have sz3 := b3.size; clear hg3 hat3 hn2)
        | (at_builtin; go_must (refine wpList_append_sees rfl (.tmp 127) (.tmp 128) 22 rfl w1.heap.size 5 i0 _ 1 Try.underlying22 hi hz0 hz1 hz2 rfl _ (0 + k) _ rfl hown3 _ _ m _ _ rfl hy3 o2 (by unfold maxLen; omega) (by omega) sz3 ?_); intro v4 w4 hown4 hg4 hat4; have b4 := below_append b3 hown3 (Nat.le_refl _) sz3 hg4; clear hg4 hat4; obtain ⟨A4, c4, rfl⟩ := own_form hown4))
      have s4 : Sees w4 w4.heap.size A4 (k + m) (bv (dig y k ++ ys)) := by
        have := Sees.of_own hown4
        rwa [Nat.zero_add, List.nil_append, ← bv_append] at this
      have G := getMany A4 (k + m) c4 (dig y k ++ ys) k w4 _ s4 (by unfold maxLen; omega) (bytes_of (fun z hz => by rcases List.mem_append.1 hz with h | h; exact bytes_dig y k z h; exact hby.all z h))
      rw [getN_dig y y0 k hk1 hlt] at G
      refine G.mono ?_
      rintro e w5 ⟨rfl, rfl⟩
      have R4 := Lib.hid (R.out.below b4 R.out.lt)
      have hB4 := below_old b1 b4 b1.size
      clear G s4 hown4 hown3 hy3 b3 b4 o1 sz3
      have s5 := sees_cut (sees_off R4.out l0.out (dig_len y k)) (k := k - 1) (by omega)
      go_wp2_with fail
      have G := getMany (some ⟨g, n, none⟩) (k - 1) k _ k _ _ s5 (by unfold maxLen; omega) (bytes_of (fun z hz => bytes_dig y k z (List.mem_of_mem_take hz)))
      rw [getN_cut y k hk1 hlt] at G
      refine G.mono ?_
      rintro e w5 ⟨rfl, rfl⟩
      clear G s5 s2 hy2 b1
      by_cases h8 : k < 8
      · have e8 := mask' y y0 Y1.out k (by omega)
        go_wp2_with fail
        go_roundw
        case rel => exact ⟨k + 1, by omega, by omega, by go_num, hB4⟩
        case measure => simp [intOf]; omega
      · have e8 : y % 256 ^ k = y := by
          obtain rfl : k = 8 := by omega
          have := Y1.out
          omega
        have E8 := Lib.hid e8
        generalize y % 256 ^ k = Y at *
        have d2 : (Y != y) = false := by simp [E8.out]
        clear e8
        go_wp2_with fail
        go_roundw
        case rel => exact ⟨k + 1, by omega, by omega, by go_num, hB4⟩
        case measure => simp [intOf]; omega
    · go_wp2_with fail
      refine (lives _).mono ?_
      rintro e w11 ⟨rfl, hb11⟩
      go_wp2_with fail
      go_ret
      exact ⟨rfl, bw.trans (hb11.mono bw.size)⟩

set_option maxRecDepth 100000 in
set_option maxHeartbeats 1000000 in
theorem back_walk (A B : Option Addr) (n m c d : Nat) (zs ys : List Int) (x y z : Int) (w : World) (hx : Sees w w.heap.size A n (bv zs)) (hy : Sees w w.heap.size B m (bv ys)) (hby : Bytes ys) (hn : n ≤ maxLen) (hm : m ≤ maxLen) (y0 : 0 ≤ y) (y1 : y < 18446744073709551616) :
    Calls Try.prog 5 #[.slice A n c, .slice B m d, .agg #[.int .i64 x, .int .u64 y, .int .i64 z]] w fun e w' => e = .returned (.bool true) ∧ Below w.heap.size w w' := by
  unfold maxLen at hn hm
  have b0 := (Below.refl w.heap.size w).alloc (Nat.le_refl _) (.cells #[.int .i64 x, .int .u64 y, .int .i64 z] 25)
  by_cases hn5 : n ≤ 5000
  · by_cases hm5 : m ≤ 5000
    · exact back_walk_in A B n m c d zs ys x y z w hx hy hby hn5 hm5 y0 y1
    · clear y1
      go_enter Try.func5, Try.ntmps5
      go_wp2_with fail
      refine (lives _).mono ?_
      rintro e w11 ⟨rfl, hb11⟩
      go_wp2_with fail
      go_ret
      exact ⟨rfl, b0.trans (hb11.mono b0.size)⟩
  · clear y1
    go_enter Try.func5, Try.ntmps5
    go_wp2_with fail
    refine (lives _).mono ?_
    rintro e w11 ⟨rfl, hb11⟩
    go_wp2_with fail
    go_ret
    exact ⟨rfl, b0.trans (hb11.mono b0.size)⟩
end Go.Proofs.Ythpjanfpmmjheaa
