import Derived.Test.YtolijdbdpnbchaaSame
import Derived.Test.YtolijdbdpnbchaaLonger
namespace Go.Proofs.Ytolijdbdpnbchaa
open Go.RowKit
set_option linter.unusedVariables false

theorem row_part {w : World} {g t : Nat} {xs ys : List Value} (h : Row w g t (xs ++ ys)) {n : Nat} (hn : xs.length = n) : Sees w w.heap.size (some ⟨g, 0, none⟩) n xs :=
  ⟨hn, fun i u hu => ⟨_, rfl, h.lt, by
    rw [addr_row, h.cell, Nat.zero_add, List.getElem?_append_left (List.getElem?_eq_some_iff.1 hu).1]
    exact hu⟩⟩

theorem row_copy {w1 : World} {g t : Nat} {zs : List Int} {k r : Nat} (hk : k < zs.length) (R : Row w1 g t (bv (zs.take k ++ List.replicate (zs.length - k + r) 0))) :
    Row (w1.setCell ⟨g, k, none⟩ (.int .u8 (zs.getD k 0))) g t (bv (zs.take (k + 1) ++ List.replicate (zs.length - (k + 1) + r) 0)) := by
  have h := R.set_ k (.int .u8 (zs.getD k 0))
  have e : (bv (zs.take k ++ List.replicate (zs.length - k + r) 0)).set k (.int .u8 (zs.getD k 0)) = bv (zs.take (k + 1) ++ List.replicate (zs.length - (k + 1) + r) 0) := by
    rw [show zs.length - k + r = zs.length - (k + 1) + r + 1 by omega, List.replicate_succ, List.take_succ_eq_append_getElem hk, List.getD_eq_getElem?_getD, List.getElem?_eq_getElem hk]
    simp only [bv, cv, List.map_append, List.map_cons]
    rw [List.set_append_right _ _ (by simp; omega)]
    simp [Nat.min_eq_left (Nat.le_of_lt hk)]
  rwa [e] at h

theorem row_mark {w1 : World} {g t : Nat} {zs : List Int} {j : Nat} {m : Int} (hj : j < 3) (R : Row w1 g t (bv (zs ++ (List.replicate j m ++ List.replicate (3 - j) 0)))) :
    Row (w1.setCell ⟨g, zs.length + j, none⟩ (.int .u8 m)) g t (bv (zs ++ (List.replicate (j + 1) m ++ List.replicate (3 - (j + 1)) 0))) := by
  have h := R.set_ (zs.length + j) (.int .u8 m)
  obtain rfl | rfl | rfl : j = 0 ∨ j = 1 ∨ j = 2 := by omega
  all_goals simpa [bv, cv, List.set_append, List.replicate] using h

set_option maxHeartbeats 800000 in
theorem twin_byte (A : Option Addr) (n c : Nat) (zs : List Int) (m : Int) (w : World) (S : Nat)
    (hx : Sees w S A n (bv zs)) (hS : S ≤ w.heap.size) (hn : n ≤ 1099511627776) :
    Calls Try.prog 40 #[.slice A n c, .int .u8 m] w fun e w' => ∃ g, e = .returned (.slice (some ⟨g, 0, none⟩) n (n + 3)) ∧ w.heap.size ≤ g ∧ Row w' g 5 (bv (zs ++ List.replicate 3 m)) ∧ Below w.heap.size w w' := by
  obtain ⟨i0, hi, hz0, hz1, hz2⟩ := info_parts info_u8
  have l0 : zs.length = n := by have := hx.len; rwa [bv_length] at this
  subst l0
  go_enter Try.func40, Try.ntmps40
  go_wp2_with (first
    | (at_make; go_must (refine wpList_make_full _ rfl (.tmp 10) (.tmp 10) 37 rfl w.heap.size 5 i0 _ 1 Try.underlying37 hi hz0 hz1 .i64 .i64 _ _ (zs.length + 3) rfl rfl (by simp) (by simp) (by rw [hz2]; omega) (by unfold maxLen; omega) (Nat.le_refl _) ?_); intro w1 hown hgrow))
  rw [made_bytes] at hown
  have R := Lib.hid (Row.of_own hown)
  have hb1 := (Below.refl w.heap.size w).grown hgrow (Nat.le_refl _) (fun k hk => by cases hk)
  clear hown hgrow hi hz0 hz1 hz2
  go_loopw [6] (fun i wr => ∃ k : Nat, k ≤ zs.length ∧ i = .int .i64 k ∧ Row wr w.heap.size 5 (bv (zs.take k ++ List.replicate (zs.length - k + 3) 0)) ∧ Below w.heap.size w wr) (fun i _ => zs.length - (intOf i).toNat)
  case atStart => exact ⟨0, Nat.zero_le _, rfl, by simpa using R.out, hb1⟩
  case round =>
    obtain ⟨k, hk, rfl, hr, hbr⟩ := hrel
    clear R hb1
    have RR := Lib.hid hr
    by_cases hlt : k < zs.length
    · obtain ⟨a, rfl, ha, hca⟩ := ((hx.below (hbr.mono hS))).byte hlt
      have f0 := hr.frozen k
      have c0 := hr.cell k
      rw [bv_getElem?, List.getElem?_append_right (by simp; omega), List.getElem?_replicate_of_lt (by simp; omega)] at c0
      have c0 : wr.cell? ⟨w.heap.size, k, none⟩ = some (.int .u8 0) := c0
      have HS := Lib.hid (row_copy (r := 3) hlt hr)
      generalize zs.getD k 0 = z at *
      clear hr
      go_wp2
      go_roundw
      case rel => exact ⟨k + 1, by omega, by go_num, HS.out, hbr.setCell (Nat.le_refl _) _⟩
      case measure => simp [intOf]; omega
    · have hk' : k = zs.length := by omega
      have R2 : Hid (Row wr w.heap.size 5 (bv (zs ++ List.replicate 3 0))) := by
        have := hr
        rw [hk'] at this
        simpa using Lib.hid this
      clear hr hk' RR
      go_wp2
      go_loopw [7] (fun i wr => ∃ j : Nat, j ≤ 3 ∧ i = .int .i64 j ∧ Row wr w.heap.size 5 (bv (zs ++ (List.replicate j m ++ List.replicate (3 - j) 0))) ∧ Below w.heap.size w wr) (fun i _ => 3 - (intOf i).toNat)
      case atStart => exact ⟨0, Nat.zero_le _, rfl, by simpa using R2.out, hbr⟩
      case round =>
        obtain ⟨j, hj, rfl, hr, hbr2⟩ := hrel
        clear R2 hbr
        have RR := Lib.hid hr
        by_cases hlt : j < 3
        · have f0 := hr.frozen (zs.length + j)
          have c0 := hr.cell (zs.length + j)
          rw [bv_getElem?, List.getElem?_append_right (by omega), List.getElem?_append_right (by simp), List.getElem?_replicate_of_lt (by simp; omega)] at c0
          have c0 : wr.cell? ⟨w.heap.size, zs.length + j, none⟩ = some (.int .u8 0) := c0
          clear hr
          go_wp2
          go_roundw
          case rel => exact ⟨j + 1, by omega, by go_num, row_mark hlt RR.out, hbr2.setCell (Nat.le_refl _) _⟩
          case measure => simp [intOf]; omega
        · have hj3 : j = 3 := by omega
          have R3 : Hid (Row wr w.heap.size 5 (bv (zs ++ List.replicate 3 m))) := by
            have := hr
            rw [hj3] at this
            simpa using Lib.hid this
          clear hr hj3 RR
          go_wp2
          go_ret
          exact ⟨w.heap.size, rfl, Nat.le_refl _, R3.out, hbr2⟩

set_option maxHeartbeats 400000 in
/-- TwinBytes. -/
theorem twinBytes (A : Option Addr) (n c : Nat) (zs : List Int) (w : World) (S : Nat)
    (hx : Sees w S A n (bv zs)) (hS : S ≤ w.heap.size) (hn : n ≤ 1099511627776) :
    Calls Try.prog 18 #[.slice A n c] w fun e w' => ∃ g, e = .returned (.slice (some ⟨g, 0, none⟩) n (n + 3)) ∧ w.heap.size ≤ g ∧ Row w' g 5 (bv (zs ++ List.replicate 3 165)) ∧ Below w.heap.size w w' := by
  have H := Lib.hid (twin_byte A n c zs 165 w S hx hS hn)
  go_enter Try.func18, Try.ntmps18
  go_wp2_with fail
  refine H.out.mono ?_
  rintro e w1 ⟨g, rfl, hg, hr, hb⟩
  have R := Lib.hid hr
  clear hr
  go_wp2_with fail
  go_ret
  exact ⟨g, rfl, hg, R.out, hb⟩

set_option maxHeartbeats 800000 in
theorem left_byte (g : Nat) (B : Option Addr) (n d : Nat) (zs : List Int) (m : Int) (w : World) (S : Nat)
    (hr : Row w g 5 (bv (zs ++ List.replicate 3 m))) (hy : Sees w S B n (bv zs)) (hn : n ≤ 1099511627776) :
    Calls Try.prog 46 #[.slice (some ⟨g, 0, none⟩) n (n + 3), .slice B n d, .int .u8 m] w fun e w' => e = .returned (.bool true) ∧ ∃ k, w' = w.drewN k := by
  have l0 : zs.length = n := by have := hy.len; rwa [bv_length] at this
  subst l0
  have hs : Sees w w.heap.size (some ⟨g, 0, none⟩) zs.length (bv zs) := ⟨bv_length _, fun i u hu => ⟨_, rfl, hr.lt, by
    rw [addr_row, hr.cell, bv_append, Nat.zero_add, List.getElem?_append_left (List.getElem?_eq_some_iff.1 hu).1]; exact hu⟩⟩
  have SM := Lib.hid (sameBytes (some ⟨g, 0, none⟩) B zs.length zs.length (zs.length + 3) d zs zs w _ _ hs hy (by unfold maxLen; omega) (by unfold maxLen; omega))
  have SB := Lib.hid (same_byte (some ⟨g, 0, none⟩) B zs.length zs.length (zs.length + 3) d zs zs w _ _ hs hy (by unfold maxLen; omega) (by unfold maxLen; omega))
  have R := Lib.hid hr
  clear hs hr SM
  go_enter Try.func46, Try.ntmps46
  go_wp2_with fail
  refine SB.out.mono ?_
  rintro e w1 ⟨rfl, k, rfl⟩
  simp only [decide_true]
  go_wp2_with fail
  go_loop [8] (fun i => ∃ j : Nat, j ≤ 3 ∧ i = .int .i64 j) (fun i => 3 - (intOf i).toNat)
  case atStart => exact ⟨0, Nat.zero_le _, rfl⟩
  case round =>
    obtain ⟨j, hj, rfl⟩ := hrel
    by_cases hlt : j < 3
    · have c0 := R.out.cell (zs.length + j)
      rw [bv_getElem?, List.getElem?_append_right (by omega), List.getElem?_replicate_of_lt (by omega)] at c0
      have c0 : w.cell? ⟨g, zs.length + j, none⟩ = some (.int .u8 m) := c0
      have hm : (m != m) = false := by simp
      go_wp2
      go_round
      case rel => exact ⟨j + 1, by omega, by go_num⟩
      case measure => simp [intOf]; omega
    · go_wp2
      go_ret
      exact ⟨rfl, k, rfl⟩

set_option maxHeartbeats 400000 in
/-- LeftBytes. -/
theorem leftBytes (g : Nat) (B : Option Addr) (n d : Nat) (zs : List Int) (w : World) (S : Nat)
    (hr : Row w g 5 (bv (zs ++ List.replicate 3 165))) (hy : Sees w S B n (bv zs)) (hn : n ≤ 1099511627776) :
    Calls Try.prog 24 #[.slice (some ⟨g, 0, none⟩) n (n + 3), .slice B n d] w fun e w' => e = .returned (.bool true) ∧ ∃ k, w' = w.drewN k := by
  have H := Lib.hid (left_byte g B n d zs 165 w S hr hy hn)
  clear hr
  go_enter Try.func24, Try.ntmps24
  go_wp2_with fail
  refine H.out.mono ?_
  rintro e w1 ⟨rfl, k, rfl⟩
  go_wp2_with fail
  go_ret
  exact ⟨rfl, k, rfl⟩
end Go.Proofs.Ytolijdbdpnbchaa
