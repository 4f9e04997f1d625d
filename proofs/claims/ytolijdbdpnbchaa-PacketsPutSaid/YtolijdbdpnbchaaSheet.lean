import Derived.Test.YtolijdbdpnbchaaBook
import Derived.Deep.QuietTactic
import Derived.BigQuiet
namespace Go.Proofs.Ytolijdbdpnbchaa
open Go.RowKit
set_option linter.unusedVariables false

theorem grown_trans {a b c : World} {r : Option Nat} (h : a.grownBy b r) (k : b.grownBy c r) : a.grownBy c r :=
  ⟨k.os.trans h.os, k.tape.trans h.tape, k.output.trans h.output, Nat.le_trans h.size k.size, fun i hi hne => (k.block i (Nat.lt_of_lt_of_le hi h.size) hne).trans (h.block i hi hne)⟩

theorem rep_set {k : Nat} {h : Value} {xs : List Value} (hk : k < xs.length) : (List.replicate k h ++ xs.drop k).set k h = List.replicate (k + 1) h ++ xs.drop (k + 1) := by
  rw [List.set_append_right _ _ (by simp), List.length_replicate, Nat.sub_self, List.drop_eq_getElem_cons hk, List.set_cons_zero, List.replicate_succ', List.append_assoc]
  rfl

theorem rep_set2 {n k : Nat} {f : Value} {xs ys : List Value} (hn : xs.length = n) (hk : k < ys.length) : (xs ++ (List.replicate k f ++ ys.drop k)).set (n + k) f = xs ++ (List.replicate (k + 1) f ++ ys.drop (k + 1)) := by
  rw [List.set_append_right _ _ (by omega), hn, Nat.add_sub_cancel_left, rep_set hk]

set_option maxHeartbeats 800000 in
theorem signB_false (g n c : Nat) (h f : Int) (xs : List Value) (w : World) (hr : Row w g 5 xs) (hl : c ≤ xs.length) (hnc : n ≤ c) (hc : c ≤ 9223372036854775807) :
    Calls Try.prog 100 #[.agg #[.slice (some ⟨g, 0, none⟩) n c, .int .u8 h, .int .u8 f], .bool false] w fun e w' => e = .returned (.tuple #[]) ∧ Row w' g 5 (List.replicate n (.int .u8 h) ++ xs.drop n) ∧ w.grownBy w' (some g) := by
  have hlt := hr.lt
  have HL := Lib.hid hl
  have hB := Row.new w 73 [.slice (some ⟨g, 0, none⟩) n c, .int .u8 h, .int .u8 f]
  have R := Lib.hid (hr.alloc (.cells [Value.slice (some ⟨g, 0, none⟩) n c, .int .u8 h, .int .u8 f].toArray 73))
  have HB := Lib.hid hB
  have G0 := World.grownBy_alloc w (.cells [Value.slice (some ⟨g, 0, none⟩) n c, .int .u8 h, .int .u8 f].toArray 73) (some g)
  clear hr hl hB
  go_enter Try.func100, Try.ntmps100
  go_wp2_with fail
  go_loopw [4] (fun i wr => ∃ k : Nat, k ≤ n ∧ i = .int .i64 k ∧ Row wr g 5 (List.replicate k (.int .u8 h) ++ xs.drop k) ∧ Row wr w.heap.size 73 [.slice (some ⟨g, 0, none⟩) n c, .int .u8 h, .int .u8 f] ∧ w.grownBy wr (some g)) (fun i _ => n - (intOf i).toNat)
  case atStart => exact ⟨0, Nat.zero_le _, rfl, by simpa using R.out, HB.out, G0⟩
  case round =>
    obtain ⟨k, hk, rfl, hr, hb, hg⟩ := hrel
    clear R HB G0
    have RR := Lib.hid hr
    have RB := Lib.hid hb
    have b0 : wr.cell? ⟨w.heap.size, 0, none⟩ = some (.slice (some ⟨g, 0, none⟩) n c) := hb.cell 0
    have b1 : wr.cell? ⟨w.heap.size, 1, none⟩ = some (.int .u8 h) := hb.cell 1
    have b2 : wr.cell? ⟨w.heap.size, 2, none⟩ = some (.int .u8 f) := hb.cell 2
    by_cases hlt2 : k < n
    · have f0 := hr.frozen k
      have c0 := hr.cell k
      rw [List.getElem?_append_right (by simp), List.getElem?_drop, List.getElem?_eq_getElem (by have := HL.out; simp; omega)] at c0
      clear hr hb
      go_wp2
      go_roundw
      case rel =>
        refine ⟨k + 1, by omega, by go_num, ?_, RB.out.far (by simp; omega) _, grown_trans hg (grownBy_setCell _ _ _)⟩
        have := RR.out.set_ k (.int .u8 h)
        rwa [rep_set (by have := HL.out; omega)] at this
      case measure => simp [intOf]; omega
    · have hk' : k = n := by omega
      have R2 : Hid (Row wr g 5 (List.replicate n (.int .u8 h) ++ xs.drop n)) := by rw [← hk']; exact RR.out
      clear hr hk' RR hb
      go_wp2
      refine bodyPost_ret (results_none rfl _ _ _) rfl ?_
      exact ⟨rfl, R2.out, hg⟩

set_option maxHeartbeats 800000 in
theorem signB_true (g n c : Nat) (h f : Int) (xs ys : List Value) (w : World) (hr : Row w g 5 (xs ++ ys)) (hn : xs.length = n) (hl : c - n ≤ ys.length) (hnc : n ≤ c) (hc : c ≤ 9223372036854775807) :
    Calls Try.prog 100 #[.agg #[.slice (some ⟨g, 0, none⟩) n c, .int .u8 h, .int .u8 f], .bool true] w fun e w' => e = .returned (.tuple #[]) ∧ Row w' g 5 (xs ++ (List.replicate (c - n) (.int .u8 f) ++ ys.drop (c - n))) ∧ w.grownBy w' (some g) := by
  have hlt := hr.lt
  have HL := Lib.hid hl
  have HN := Lib.hid hn
  have hB := Row.new w 73 [.slice (some ⟨g, 0, none⟩) n c, .int .u8 h, .int .u8 f]
  have R := Lib.hid (hr.alloc (.cells [Value.slice (some ⟨g, 0, none⟩) n c, .int .u8 h, .int .u8 f].toArray 73))
  have HB := Lib.hid hB
  have G0 := World.grownBy_alloc w (.cells [Value.slice (some ⟨g, 0, none⟩) n c, .int .u8 h, .int .u8 f].toArray 73) (some g)
  clear hr hl hn hB
  go_enter Try.func100, Try.ntmps100
  go_wp2_with fail
  go_loopw [6] (fun i wr => ∃ k : Nat, n + k ≤ c ∧ i = .int .i64 ((n + k : Nat) : Int) ∧ Row wr g 5 (xs ++ (List.replicate k (.int .u8 f) ++ ys.drop k)) ∧ Row wr w.heap.size 73 [.slice (some ⟨g, 0, none⟩) n c, .int .u8 h, .int .u8 f] ∧ w.grownBy wr (some g)) (fun i _ => c - (intOf i).toNat)
  case atStart => exact ⟨0, by omega, rfl, by simpa using R.out, HB.out, G0⟩
  case round =>
    obtain ⟨k, hk, rfl, hr, hb, hg⟩ := hrel
    clear R HB G0
    have RR := Lib.hid hr
    have RB := Lib.hid hb
    have b0 : wr.cell? ⟨w.heap.size, 0, none⟩ = some (.slice (some ⟨g, 0, none⟩) n c) := hb.cell 0
    have b1 : wr.cell? ⟨w.heap.size, 1, none⟩ = some (.int .u8 h) := hb.cell 1
    have b2 : wr.cell? ⟨w.heap.size, 2, none⟩ = some (.int .u8 f) := hb.cell 2
    by_cases hlt2 : n + k < c
    · have f0 := hr.frozen (n + k)
      have c0 := hr.cell (n + k)
      rw [List.getElem?_append_right (by have := HN.out; omega), List.getElem?_append_right (by have := HN.out; simp; omega), List.getElem?_drop, List.getElem?_eq_getElem (by have := HL.out; have := HN.out; simp; omega)] at c0
      obtain ⟨u, cu⟩ : ∃ u, wr.cell? ⟨g, n + k, none⟩ = some u := ⟨_, c0⟩
      clear c0
      clear hr hb
      generalize hj : n + k = j at *
      have HJ := Lib.hid hj
      clear hj
      go_wp2
      go_roundw
      case rel =>
        refine ⟨k + 1, by have := HJ.out; omega, by rw [← HJ.out]; go_num, ?_, RB.out.far (by simp; omega) _, grown_trans hg (grownBy_setCell _ _ _)⟩
        have := RR.out.set_ (n + k) (.int .u8 f)
        rw [rep_set2 HN.out (by have := HL.out; have := HJ.out; omega), HJ.out] at this
        exact this
      case measure => simp [intOf]; omega
    · have hk' : k = c - n := by omega
      have R2 : Hid (Row wr g 5 (xs ++ (List.replicate (c - n) (.int .u8 f) ++ ys.drop (c - n)))) := by
        have := RR.out
        rw [hk'] at this
        exact this
      have hj2 : ¬ (((n + k : Nat) : Int) < (c : Int)) := by omega
      clear hr hk' RR hb
      generalize n + k = j at *
      go_wp2
      go_end0
      exact ⟨rfl, R2.out, hg⟩

set_option maxHeartbeats 800000 in
theorem ownB_true (g n c : Nat) (h f : Int) (zs : List Value) (w : World) (hr : Row w g 5 (List.replicate n (.int .u8 h) ++ (List.replicate (c - n) (.int .u8 f) ++ zs))) (hnc : n ≤ c) (hc : c ≤ 9223372036854775807) :
    Calls Try.prog 99 #[.agg #[.slice (some ⟨g, 0, none⟩) n c, .int .u8 h, .int .u8 f]] w fun e w' => e = .returned (.bool true) ∧ w.grownBy w' none := by
  have hlt := hr.lt
  have hB := Row.new w 73 [.slice (some ⟨g, 0, none⟩) n c, .int .u8 h, .int .u8 f]
  let W := w.alloc (.cells [Value.slice (some ⟨g, 0, none⟩) n c, .int .u8 h, .int .u8 f].toArray 73)
  have R : Hid (Row W g 5 _) := Lib.hid (hr.alloc _)
  have HB : Hid (Row W w.heap.size 73 _) := Lib.hid hB
  have G0 : w.grownBy W none := World.grownBy_alloc w _ none
  have b0 : W.cell? ⟨w.heap.size, 0, none⟩ = some (.slice (some ⟨g, 0, none⟩) n c) := hB.cell 0
  have b1 : W.cell? ⟨w.heap.size, 1, none⟩ = some (.int .u8 h) := hB.cell 1
  have b2 : W.cell? ⟨w.heap.size, 2, none⟩ = some (.int .u8 f) := hB.cell 2
  have hh : (h != h) = false := by simp
  have hf : (f != f) = false := by simp
  clear hr hB
  go_enter Try.func99, Try.ntmps99
  go_wp2_with fail
  change Code.wp _ _ _ _ W
  clear_value W
  go_loopw [3] (fun i wr => ∃ k j : Nat, k ≤ n ∧ i = .int .i64 k ∧ wr = W.drewN j) (fun i _ => n - (intOf i).toNat)
  case atStart => exact ⟨0, 0, Nat.zero_le _, rfl, rfl⟩
  case round =>
    obtain ⟨k, j, hk, rfl, rfl⟩ := hrel
    by_cases hlt2 : k < n
    · have c0 := R.out.cell k
      rw [List.getElem?_append_left (by simp; omega), List.getElem?_replicate_of_lt hlt2] at c0
      go_wp2
      go_quiet (fail)
      go_wp2
      go_roundw
      case rel => exact ⟨k + 1, j + nq, by omega, by go_num, by simp⟩
      case measure => simp [intOf]; omega
    · go_wp2
      go_loopw [5] (fun i wr => ∃ k j : Nat, n + k ≤ c ∧ i = .int .i64 ((n + k : Nat) : Int) ∧ wr = W.drewN j) (fun i _ => c - (intOf i).toNat)
      case atStart => exact ⟨0, j, by omega, rfl, rfl⟩
      case round =>
        obtain ⟨k, j, hk, rfl, rfl⟩ := hrel
        by_cases hlt2 : n + k < c
        · have c0 := R.out.cell (n + k)
          rw [List.getElem?_append_right (by simp), List.getElem?_append_left (by simp; omega), List.getElem?_replicate_of_lt (by simp; omega)] at c0
          generalize hjj : n + k = t at *
          have HJ := Lib.hid hjj
          clear hjj
          go_wp2
          go_quiet (fail)
          go_wp2
          go_roundw
          case rel => exact ⟨k + 1, j + nq, by have := HJ.out; omega, by rw [← HJ.out]; go_num, by simp⟩
          case measure => simp [intOf]; omega
        · have hj2 : ¬ (((n + k : Nat) : Int) < (c : Int)) := by omega
          generalize n + k = t at *
          go_wp2
          go_ret
          exact ⟨rfl, grown_trans G0 ⟨rfl, rfl, rfl, Nat.le_refl _, fun _ _ _ => rfl⟩⟩
/-- the room ends where the block ends -/
theorem sign_false (g n c : Nat) (h f : Int) (xs : List Value) (w : World) (hr : Row w g 5 xs) (hl : xs.length = c) (hnc : n ≤ c) (hc : c ≤ 9223372036854775807) :
    Calls Try.prog 100 #[.agg #[.slice (some ⟨g, 0, none⟩) n c, .int .u8 h, .int .u8 f], .bool false] w fun e w' => e = .returned (.tuple #[]) ∧ Row w' g 5 (List.replicate n (.int .u8 h) ++ xs.drop n) ∧ w.grownBy w' (some g) :=
  signB_false g n c h f xs w hr (by omega) hnc hc
theorem sign_true (g n c : Nat) (h f : Int) (xs ys : List Value) (w : World) (hr : Row w g 5 (xs ++ ys)) (hn : xs.length = n) (hl : ys.length = c - n) (hnc : n ≤ c) (hc : c ≤ 9223372036854775807) :
    Calls Try.prog 100 #[.agg #[.slice (some ⟨g, 0, none⟩) n c, .int .u8 h, .int .u8 f], .bool true] w fun e w' => e = .returned (.tuple #[]) ∧ Row w' g 5 (xs ++ List.replicate (c - n) (.int .u8 f)) ∧ w.grownBy w' (some g) := by
  have h := signB_true g n c h f xs ys w hr hn (by omega) hnc hc
  rwa [List.drop_of_length_le (by omega), List.append_nil] at h
theorem own_true (g n c : Nat) (h f : Int) (w : World) (hr : Row w g 5 (List.replicate n (.int .u8 h) ++ List.replicate (c - n) (.int .u8 f))) (hnc : n ≤ c) (hc : c ≤ 9223372036854775807) :
    Calls Try.prog 99 #[.agg #[.slice (some ⟨g, 0, none⟩) n c, .int .u8 h, .int .u8 f]] w fun e w' => e = .returned (.bool true) ∧ w.grownBy w' none :=
  ownB_true g n c h f [] w (by rwa [List.append_nil]) hnc hc
end Go.Proofs.Ytolijdbdpnbchaa
