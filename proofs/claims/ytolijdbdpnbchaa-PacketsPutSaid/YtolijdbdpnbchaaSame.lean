import Derived.Test.YtolijdbdpnbchaaRows
import Derived.Test.YtolijdbdpnbchaaMem
import Derived.WalkKit
import Derived.WalkSpells
import Derived.WalkLawsBesides
import Derived.Deep.QuietTactic
import Derived.BigQuiet
import Derived.IntWalk
namespace Go.Proofs.Ytolijdbdpnbchaa
open Go.RowKit
set_option linter.unusedVariables false

theorem getD_cast (zs : List Int) (k : Nat) : zs.getD k 0 = zs[k]?.getD 0 := List.getD_eq_getElem?_getD ..

theorem take_same {xs ys : List Int} {k : Nat} (hx : k < xs.length) (hy : k < ys.length) : xs.take (k + 1) = ys.take (k + 1) ↔ xs.take k = ys.take k ∧ xs.getD k 0 = ys.getD k 0 := by
  rw [List.take_succ_eq_append_getElem hx, List.take_succ_eq_append_getElem hy, List.getD_eq_getElem?_getD, List.getD_eq_getElem?_getD, List.getElem?_eq_getElem hx, List.getElem?_eq_getElem hy]
  constructor
  · intro h
    have := List.append_inj h (by simp; omega)
    simpa using this
  · rintro ⟨h, h'⟩
    rw [h]
    simp at h'
    rw [h']

set_option maxHeartbeats 400000 in
theorem same_byte (A B : Option Addr) (n m c d : Nat) (xs ys : List Int) (w : World) (S T : Nat)
    (hx : Sees w S A n (bv xs)) (hy : Sees w T B m (bv ys)) (hn : n ≤ maxLen) (hm : m ≤ maxLen) :
    Calls Try.prog 34 #[.slice A n c, .slice B m d] w fun e w' => e = .returned (.bool (decide (xs = ys))) ∧ ∃ k, w' = w.drewN k := by
  unfold maxLen at hn hm
  have lx := Lib.hid hx.len
  have ly := Lib.hid hy.len
  by_cases hnm : n = m
  · subst hnm
    go_enter Try.func34, Try.ntmps34
    go_wp2
    go_loopw [5] (fun i wr => ∃ k j : Nat, k ≤ n ∧ i = .int .i64 k ∧ wr = w.drewN j ∧ xs.take k = ys.take k) (fun i _ => n - (intOf i).toNat)
    case atStart => exact ⟨0, 0, Nat.zero_le _, rfl, rfl, by simp⟩
    case round =>
      obtain ⟨k, j, hk, rfl, rfl, heq⟩ := hrel
      have HEQ := Lib.hid heq
      clear heq
      by_cases hlt : k < n
      · obtain ⟨a, rfl, ha, hca⟩ := hx.byte hlt
        obtain ⟨b, rfl, hb, hcb⟩ := hy.byte hlt
        have HT := Lib.hid (take_same (xs := xs) (ys := ys) (k := k) (by have := lx.out; rw [bv_length] at this; omega) (by have := ly.out; rw [bv_length] at this; omega))
        generalize hz : xs.getD k 0 = z at *
        generalize hz2 : ys.getD k 0 = y at *
        clear hz hz2
        by_cases hzy : z = y
        · have hb1 : (z != y) = false := by simp [hzy]
          have HZ := Lib.hid hzy
          clear hzy
          go_wp2
          go_quiet (fail)
          go_wp2
          go_roundw
          case rel => exact ⟨k + 1, j + nq, by omega, by go_num, by simp, HT.out.2 ⟨HEQ.out, HZ.out⟩⟩
          case measure => simp [intOf]; omega
        · have hb1 : (z != y) = true := by simp [hzy]
          have HZ := Lib.hid hzy
          clear hzy
          go_wp2
          go_quiet (fail)
          go_wp2
          go_ret
          exact ⟨told_false fun h => HZ.out (HT.out.1 (by rw [h])).2, j + nq, by simp⟩
      · have hk' : k = n := by omega
        have HK := Lib.hid hk'
        clear hk'
        go_wp2
        go_ret
        have h1 := lx.out
        have h2 := ly.out
        rw [bv_length] at h1 h2
        have h3 := HEQ.out
        rw [HK.out, List.take_of_length_le (by omega), List.take_of_length_le (by omega)] at h3
        exact ⟨told_true h3, j, rfl⟩
  · have hb1 : ((n : Int) != (m : Int)) = true := by simp; omega
    have HN := Lib.hid hnm
    clear hnm
    go_enter Try.func34, Try.ntmps34
    go_wp2
    go_ret
    have h1 := lx.out
    have h2 := ly.out
    rw [bv_length] at h1 h2
    exact ⟨told_false fun h => HN.out (by rw [← h1, ← h2, h]), 0, rfl⟩

set_option maxHeartbeats 400000 in
/-- SameBytes. -/
theorem sameBytes (A B : Option Addr) (n m c d : Nat) (xs ys : List Int) (w : World) (S T : Nat)
    (hx : Sees w S A n (bv xs)) (hy : Sees w T B m (bv ys)) (hn : n ≤ maxLen) (hm : m ≤ maxLen) :
    Calls Try.prog 13 #[.slice A n c, .slice B m d] w fun e w' => e = .returned (.bool (decide (xs = ys))) ∧ ∃ k, w' = w.drewN k := by
  go_enter Try.func13, Try.ntmps13
  go_wp2_with fail
  refine (same_byte _ _ _ _ _ _ xs ys _ S T hx hy hn hm).mono ?_
  rintro e w1 ⟨rfl, k, rfl⟩
  go_wp2_with fail
  go_ret
  exact ⟨rfl, k, rfl⟩
end Go.Proofs.Ytolijdbdpnbchaa
