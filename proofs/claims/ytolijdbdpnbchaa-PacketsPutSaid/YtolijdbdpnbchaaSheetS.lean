/-
  A book's pages of signatures: sign, own.
-/
import Derived.Test.YtolijdbdpnbchaaSheetK
import Derived.Test.YtolijdbdpnbchaaSameTx
namespace Go.Proofs.Ytolijdbdpnbchaa
open Go.RowKit
set_option linter.unusedVariables false

theorem sheet_hereS {w : World} {g t : Nat} {l : Value} {h f : List Int} (hr : Row w g t (sheetCells l h f)) (hh : h.length = 64) : ∀ j v, (bv h)[j]? = some v → w.cell? ((⟨g, 1, none⟩ : Addr).add j) = some v := fun j v hv => by
  have hj := (List.getElem?_eq_some_iff.1 hv).1
  rw [addr_row, hr.cell, show 1 + j = j + 1 by omega]
  show (bv h ++ bv f)[j]? = _
  rw [List.getElem?_append_left hj]
  exact hv
theorem sheet_farS {w : World} {g t : Nat} {l : Value} {h f : List Int} (hr : Row w g t (sheetCells l h f)) (hh : h.length = 64) : ∀ j v, (bv f)[j]? = some v → w.cell? ((⟨g, 65, none⟩ : Addr).add j) = some v := fun j v hv => by
  rw [addr_row, hr.cell, show 65 + j = (64 + j) + 1 by omega]
  show (bv h ++ bv f)[64 + j]? = _
  rw [List.getElem?_append_right (by rw [bv_length, hh]; omega), bv_length, hh, show 64 + j - 64 = j by omega]
  exact hv
theorem sigRow_len (n : Nat) {z : List Int} (hz : z.length = 64) : (keyRow n z).length = n * 64 := by
  unfold keyRow
  induction n with
  | zero => rfl
  | succ n ih => rw [List.replicate_succ, List.flatten_cons, List.length_append, ih, bv_length, hz]; omega
theorem sigRow_set {k : Nat} {z : List Int} (hz : z.length = 64) (xs ys : List Value) (hys : (k + 1) * 64 ≤ ys.length) :
    (xs ++ (keyRow k z ++ ys.drop (k * 64))).take (xs.length + k * 64) ++ bv z ++ (xs ++ (keyRow k z ++ ys.drop (k * 64))).drop (xs.length + k * 64 + (bv z).length) = xs ++ (keyRow (k + 1) z ++ ys.drop ((k + 1) * 64)) := by
  have hl := sigRow_len k hz
  have hl2 : (xs ++ keyRow k z).length = xs.length + k * 64 := by rw [List.length_append, hl]
  have e2 : xs.length + k * 64 + (bv z).length = (xs ++ keyRow k z).length + 64 := by rw [hl2, bv_length, hz]
  rw [← List.append_assoc, List.take_left' hl2, e2, List.drop_length_add_append, List.drop_drop, keyRow_succ, show k * 64 + 64 = (k + 1) * 64 by omega]
  simp only [List.append_assoc]

theorem size_sig' {z : List Int} (hz : z.length = 64) : (Try.prog.info? 62).map (·.size) = some (bv z).length := by rw [size_sig, bv_length, hz]

set_option maxHeartbeats 800000 in
theorem signS_false (g n c : Nat) (h f : List Int) (xs : List Value) (w : World) (hr : Row w g 62 xs) (hl : xs.length = c * 64) (hnc : n ≤ c) (hc : c ≤ 9223372036854775807) (hh : h.length = 64) (hf : f.length = 64) :
    Calls Try.prog 102 #[.agg (sheetCells (.slice (some ⟨g, 0, none⟩) n c) h f).toArray, .bool false] w fun e w' => e = .returned (.tuple #[]) ∧ Row w' g 62 (keyRow n h ++ xs.drop (n * 64)) ∧ w.grownBy w' (some g) := by
  have hlt := hr.lt
  have HL := Lib.hid hl
  have HH := Lib.hid (And.intro hh hf)
  have R := Lib.hid (hr.alloc (.cells (sheetCells (.slice (some ⟨g, 0, none⟩) n c) h f).toArray 99))
  have HB := Lib.hid (Row.new w 99 (sheetCells (.slice (some ⟨g, 0, none⟩) n c) h f))
  have G0 := World.grownBy_alloc w (.cells (sheetCells (.slice (some ⟨g, 0, none⟩) n c) h f).toArray 99) (some g)
  clear hr hl hh hf
  generalize hC : (sheetCells (.slice (some ⟨g, 0, none⟩) n c) h f).toArray = C at *
  go_enter Try.func102, Try.ntmps102
  go_wp2_with fail
  go_loopw [4] (fun i wr => ∃ k : Nat, k ≤ n ∧ i = .int .i64 k ∧ Row wr g 62 (keyRow k h ++ xs.drop (k * 64)) ∧ Row wr w.heap.size 99 (sheetCells (.slice (some ⟨g, 0, none⟩) n c) h f) ∧ w.grownBy wr (some g)) (fun i _ => n - (intOf i).toNat)
  case atStart => exact ⟨0, Nat.zero_le _, rfl, by simpa [keyRow] using R.out, hC ▸ HB.out, G0⟩
  case round =>
    obtain ⟨k, hk, rfl, hr, hb, hg⟩ := hrel
    clear R HB G0
    have RR := Lib.hid hr
    have RB := Lib.hid hb
    have GG := Lib.hid hg
    have b0 : wr.cell? ⟨w.heap.size, 0, none⟩ = some (.slice (some ⟨g, 0, none⟩) n c) := hb.cell 0
    clear hr hb hg
    by_cases hlt2 : k < n
    · go_wp2_with (first
        | ((with_reducible show wpList _ _ _ ({ dst := some 20, op := Op.load _ _, type := _, pos := _, after := _, guard := _ } :: _) _ _); go_must (refine wpList_load_at rfl 62 (.tmp 19) rfl ⟨w.heap.size, 1, none⟩ (bv h) _ Try.underlying62 rfl (size_sig' HH.out.1) (sheet_hereS RB.out HH.out.1) ?_ ?_; go_simp))
        | ((with_reducible show wpList _ _ _ ({ dst := none, op := Op.store 62 _ _, type := _, pos := _, after := _, guard := _ } :: _) _ _); go_must (refine wpList_store_part rfl 62 (.tmp 21) (.tmp 20) rfl g 62 (k * 64) _ (bv h) RR.out (size_sig' HH.out.1) (by have := HL.out; have := sigRow_len k HH.out.1; rw [List.length_append, List.length_drop, bv_length, HH.out.1]; omega) (bv_one h) ?_ ?_ ?_; go_simp; go_simp; intro w2 hr2 ht2; have HR2 := Lib.hid hr2; have HT2 := Lib.hid ht2; clear hr2 ht2)))
      go_roundw
      case rel =>
        refine ⟨k + 1, by omega, by go_num, ?_, HT2.out.row RB.out (by omega), grown_trans GG.out ⟨HT2.out.os, HT2.out.tape, HT2.out.output, by rw [HT2.out.size]; exact Nat.le_refl _, fun q hq hne => HT2.out.block q (fun e => hne (by rw [e]))⟩⟩
        have := HR2.out
        have e := sigRow_set (k := k) HH.out.1 [] xs (by have := HL.out; omega)
        simp only [List.nil_append, List.length_nil, Nat.zero_add] at e
        rwa [e] at this
      case measure => simp [intOf]; omega
    · have hk' : k = n := by omega
      have R2 : Hid (Row wr g 62 (keyRow n h ++ xs.drop (n * 64))) := by rw [← hk']; exact RR.out
      clear hk' RR
      go_wp2_with fail
      refine bodyPost_ret (results_none rfl _ _ _) rfl ?_
      exact ⟨rfl, R2.out, GG.out⟩

set_option maxHeartbeats 800000 in
theorem signS_true (g n c : Nat) (h f : List Int) (xs ys : List Value) (w : World) (hr : Row w g 62 (xs ++ ys)) (hn : xs.length = n * 64) (hl : ys.length = (c - n) * 64) (hnc : n ≤ c) (hc : c ≤ 9223372036854775807) (hh : h.length = 64) (hf : f.length = 64) :
    Calls Try.prog 102 #[.agg (sheetCells (.slice (some ⟨g, 0, none⟩) n c) h f).toArray, .bool true] w fun e w' => e = .returned (.tuple #[]) ∧ Row w' g 62 (xs ++ keyRow (c - n) f) ∧ w.grownBy w' (some g) := by
  have hlt := hr.lt
  have HL := Lib.hid hl
  have HN := Lib.hid hn
  have HH := Lib.hid (And.intro hh hf)
  have R := Lib.hid (hr.alloc (.cells (sheetCells (.slice (some ⟨g, 0, none⟩) n c) h f).toArray 99))
  have hB := Row.new w 99 (sheetCells (.slice (some ⟨g, 0, none⟩) n c) h f)
  have HB := Lib.hid hB
  have G0 := World.grownBy_alloc w (.cells (sheetCells (.slice (some ⟨g, 0, none⟩) n c) h f).toArray 99) (some g)
  have b0 : (w.alloc (.cells (sheetCells (.slice (some ⟨g, 0, none⟩) n c) h f).toArray 99)).cell? ⟨w.heap.size, 0, none⟩ = some (.slice (some ⟨g, 0, none⟩) n c) := hB.cell 0
  clear hr hl hn hh hf hB
  generalize hC : (sheetCells (.slice (some ⟨g, 0, none⟩) n c) h f).toArray = C at *
  go_enter Try.func102, Try.ntmps102
  go_wp2_with fail
  go_loopw [6] (fun i wr => ∃ k : Nat, n + k ≤ c ∧ i = .int .i64 ((n + k : Nat) : Int) ∧ Row wr g 62 (xs ++ (keyRow k f ++ ys.drop (k * 64))) ∧ Row wr w.heap.size 99 (sheetCells (.slice (some ⟨g, 0, none⟩) n c) h f) ∧ w.grownBy wr (some g)) (fun i _ => c - (intOf i).toNat)
  case atStart => exact ⟨0, by omega, rfl, by simpa [keyRow] using R.out, hC ▸ HB.out, G0⟩
  case round =>
    obtain ⟨k, hk, rfl, hr, hb, hg⟩ := hrel
    clear R HB G0
    have RR := Lib.hid hr
    have RB := Lib.hid hb
    have GG := Lib.hid hg
    clear hr hb hg b0
    by_cases hlt2 : n + k < c
    · generalize hj : n + k = j at *
      have HJ := Lib.hid hj
      clear hj
      go_wp2_with (first
        | ((with_reducible show wpList _ _ _ ({ dst := some 40, op := Op.load _ _, type := _, pos := _, after := _, guard := _ } :: _) _ _); go_must (refine wpList_load_at rfl 62 (.tmp 39) rfl ⟨w.heap.size, 65, none⟩ (bv f) _ Try.underlying62 rfl (size_sig' HH.out.2) (sheet_farS RB.out HH.out.1) ?_ ?_; go_simp))
        | ((with_reducible show wpList _ _ _ ({ dst := none, op := Op.store 62 _ _, type := _, pos := _, after := _, guard := _ } :: _) _ _); go_must (refine wpList_store_part rfl 62 (.tmp 41) (.tmp 40) rfl g 62 (j * 64) _ (bv f) RR.out (size_sig' HH.out.2) (by have := HL.out; have := HN.out; have := HJ.out; have := sigRow_len k HH.out.2; simp only [List.length_append, List.length_drop, bv_length, HH.out.2]; omega) (bv_one f) ?_ ?_ ?_; go_simp; go_simp; intro w2 hr2 ht2; have HR2 := Lib.hid hr2; have HT2 := Lib.hid ht2; clear hr2 ht2)))
      go_roundw
      case rel =>
        refine ⟨k + 1, by have := HJ.out; omega, by rw [← HJ.out]; go_num, ?_, HT2.out.row RB.out (by omega), grown_trans GG.out ⟨HT2.out.os, HT2.out.tape, HT2.out.output, by rw [HT2.out.size]; exact Nat.le_refl _, fun q hq hne => HT2.out.block q (fun e => hne (by rw [e]))⟩⟩
        have := HR2.out
        have e := sigRow_set (k := k) HH.out.2 xs ys (by have := HL.out; have := HJ.out; omega)
        rw [show xs.length + k * 64 = j * 64 by have := HN.out; have := HJ.out; omega] at e
        rwa [e] at this
      case measure => simp [intOf]; omega
    · have hk' : k = c - n := by omega
      have R2 : Hid (Row wr g 62 (xs ++ keyRow (c - n) f)) := by
        have := RR.out
        rw [hk', List.drop_of_length_le (by have := HL.out; omega), List.append_nil] at this
        exact this
      have hj2 : ¬ (((n + k : Nat) : Int) < (c : Int)) := by omega
      clear hk' RR
      generalize n + k = j at *
      go_wp2_with fail
      go_end0
      exact ⟨rfl, R2.out, GG.out⟩

theorem sigRow_cell {n k : Nat} {z : List Int} (hz : z.length = 64) (hk : k < n) {j : Nat} {v : Value} (hv : (bv z)[j]? = some v) : (keyRow n z)[k * 64 + j]? = some v :=
  flatten_at 64 (List.replicate n (bv z)) k (bv z) (fun i y hy => by
    have := List.mem_of_getElem? hy
    rw [List.eq_of_mem_replicate this, bv_length, hz]) (by rw [List.getElem?_replicate_of_lt hk]) j v hv

set_option maxHeartbeats 1000000 in
theorem ownS_true (g n c : Nat) (h f : List Int) (w : World) (hr : Row w g 62 (keyRow n h ++ keyRow (c - n) f)) (hnc : n ≤ c) (hc : c ≤ 9223372036854775807) (hh : h.length = 64) (hf : f.length = 64) :
    Calls Try.prog 101 #[.agg (sheetCells (.slice (some ⟨g, 0, none⟩) n c) h f).toArray] w fun e w' => e = .returned (.bool true) ∧ w.grownBy w' none := by
  have hlt := hr.lt
  have HH := Lib.hid (And.intro hh hf)
  have R0 := Lib.hid (hr.alloc (.cells (sheetCells (.slice (some ⟨g, 0, none⟩) n c) h f).toArray 99))
  have HB := Lib.hid (Row.new w 99 (sheetCells (.slice (some ⟨g, 0, none⟩) n c) h f))
  have b0 : (w.alloc (.cells (sheetCells (.slice (some ⟨g, 0, none⟩) n c) h f).toArray 99)).cell? ⟨w.heap.size, 0, none⟩ = some (.slice (some ⟨g, 0, none⟩) n c) := HB.out.cell 0
  have G0 := World.grownBy_alloc w (.cells (sheetCells (.slice (some ⟨g, 0, none⟩) n c) h f).toArray 99) none
  have NH := fun w => same_neq64 Try.underlying62 h hh w
  have NF := fun w => same_neq64 Try.underlying62 f hf w
  have C1 : Hid (∀ k, k < n → ∀ j v, (bv h)[j]? = some v → (w.alloc (.cells (sheetCells (.slice (some ⟨g, 0, none⟩) n c) h f).toArray 99)).cell? ((⟨g, k * 64, none⟩ : Addr).add j) = some v) := Lib.hid fun k hk j v hv => by
    rw [addr_row, R0.out.cell, List.getElem?_append_left (by rw [sigRow_len n hh]; have := (List.getElem?_eq_some_iff.1 hv).1; rw [bv_length, hh] at this; omega)]
    exact sigRow_cell hh hk hv
  have C2 : Hid (∀ k, k < c - n → ∀ j v, (bv f)[j]? = some v → (w.alloc (.cells (sheetCells (.slice (some ⟨g, 0, none⟩) n c) h f).toArray 99)).cell? ((⟨g, (n + k) * 64, none⟩ : Addr).add j) = some v) := Lib.hid fun k hk j v hv => by
    rw [addr_row, R0.out.cell, List.getElem?_append_right (by rw [sigRow_len n hh]; omega), sigRow_len n hh, show (n + k) * 64 + j - n * 64 = k * 64 + j by omega]
    exact sigRow_cell hf hk hv
  have C3 : Hid (∀ j v, (bv h)[j]? = some v → (w.alloc (.cells (sheetCells (.slice (some ⟨g, 0, none⟩) n c) h f).toArray 99)).cell? ((⟨w.heap.size, 1, none⟩ : Addr).add j) = some v) := Lib.hid (sheet_hereS HB.out hh)
  have C4 : Hid (∀ j v, (bv f)[j]? = some v → (w.alloc (.cells (sheetCells (.slice (some ⟨g, 0, none⟩) n c) h f).toArray 99)).cell? ((⟨w.heap.size, 65, none⟩ : Addr).add j) = some v) := Lib.hid (sheet_farS HB.out hh)
  have SH := Lib.hid (size_sig' hh)
  have SF := Lib.hid (size_sig' hf)
  clear hr hh hf R0 HB HH
  generalize bv h = H at *
  generalize bv f = F at *
  generalize hC : (sheetCells (.slice (some ⟨g, 0, none⟩) n c) h f).toArray = C at *
  clear hC
  go_enter Try.func101, Try.ntmps101
  go_wp2_with fail
  generalize w.alloc (.cells C 99) = W at *
  go_loopw [3] (fun i wr => ∃ k j : Nat, k ≤ n ∧ i = .int .i64 k ∧ wr = W.drewN j) (fun i _ => n - (intOf i).toNat)
  case atStart => exact ⟨0, 0, Nat.zero_le _, rfl, rfl⟩
  case round =>
    obtain ⟨k, j, hk, rfl, rfl⟩ := hrel
    by_cases hlt2 : k < n
    · go_wp2_with fail
      refine wp_region_quiet_lit (by kernel_rfl) (by kernel_rfl) ?_
      repeat (first
        | ((with_reducible show wpQuiet _ _ _ _ ({ dst := some 17, op := Op.load _ _, type := _, pos := _, after := _, guard := _ } :: _) _); go_must (refine quiet_load_at (by kernel_rfl) 62 (.tmp 16) rfl ⟨g, k * 64, none⟩ H _ Try.underlying62 rfl SH.out (by rintro _ ⟨nq, rfl⟩; exact C1.out k hlt2) ?_ ?_; go_simp; go_simp))
        | ((with_reducible show wpQuiet _ _ _ _ ({ dst := some 19, op := Op.load _ _, type := _, pos := _, after := _, guard := _ } :: _) _); go_must (refine quiet_load_at (by kernel_rfl) 62 (.tmp 18) rfl ⟨w.heap.size, 1, none⟩ H _ Try.underlying62 rfl SH.out (by rintro _ ⟨nq, rfl⟩; exact C3.out) ?_ ?_; go_simp; go_simp))
        | go_big_quiet_step (fail))
      refine wpQuiet_nil ?_
      intro nq
      go_wp2_with fail
      go_roundw
      case rel => exact ⟨k + 1, j + nq, by omega, by go_num, by simp⟩
      case measure => simp [intOf]; omega
    · go_wp2_with fail
      go_loopw [5] (fun i wr => ∃ k j : Nat, n + k ≤ c ∧ i = .int .i64 ((n + k : Nat) : Int) ∧ wr = W.drewN j) (fun i _ => c - (intOf i).toNat)
      case atStart => exact ⟨0, j, by omega, rfl, rfl⟩
      case round =>
        obtain ⟨k, j, hk, rfl, rfl⟩ := hrel
        by_cases hlt2 : n + k < c
        · have C2k := Lib.hid (C2.out k (by omega))
          generalize hjj : n + k = t at *
          have HJ := Lib.hid hjj
          clear hjj
          go_wp2_with fail
          refine wp_region_quiet_lit (by kernel_rfl) (by kernel_rfl) ?_
          repeat (first
            | ((with_reducible show wpQuiet _ _ _ _ ({ dst := some 39, op := Op.load _ _, type := _, pos := _, after := _, guard := _ } :: _) _); go_must (refine quiet_load_at (by kernel_rfl) 62 (.tmp 38) rfl ⟨g, t * 64, none⟩ F _ Try.underlying62 rfl SF.out (by rintro _ ⟨nq, rfl⟩; exact C2k.out) ?_ ?_; go_simp; go_simp))
            | ((with_reducible show wpQuiet _ _ _ _ ({ dst := some 41, op := Op.load _ _, type := _, pos := _, after := _, guard := _ } :: _) _); go_must (refine quiet_load_at (by kernel_rfl) 62 (.tmp 40) rfl ⟨w.heap.size, 65, none⟩ F _ Try.underlying62 rfl SF.out (by rintro _ ⟨nq, rfl⟩; exact C4.out) ?_ ?_; go_simp; go_simp))
            | go_big_quiet_step (fail))
          refine wpQuiet_nil ?_
          intro nq
          go_wp2_with fail
          go_roundw
          case rel => exact ⟨k + 1, j + nq, by have := HJ.out; omega, by rw [← HJ.out]; go_num, by simp⟩
          case measure => simp [intOf]; omega
        · have hj2 : ¬ (((n + k : Nat) : Int) < (c : Int)) := by omega
          generalize n + k = t at *
          go_wp2_with fail
          go_ret
          exact ⟨rfl, grown_trans G0 ⟨rfl, rfl, rfl, Nat.le_refl _, fun _ _ _ => rfl⟩⟩

set_option maxHeartbeats 400000 in
theorem signS_nil (b : Bool) (h f : List Int) (w : World) :
    Calls Try.prog 102 #[.agg (sheetCells (.slice none 0 0) h f).toArray, .bool b] w fun e w' => e = .returned (.tuple #[]) ∧ w.grownBy w' none := by
  have G0 := World.grownBy_alloc w (.cells (sheetCells (.slice none 0 0) h f).toArray 99) none
  have b0 : (w.alloc (.cells (sheetCells (.slice none 0 0) h f).toArray 99)).cell? ⟨w.heap.size, 0, none⟩ = some (.slice none 0 0) := (Row.new w 99 (sheetCells (.slice none 0 0) h f)).cell 0
  generalize (sheetCells (.slice none 0 0) h f).toArray = C at *
  cases b
  · go_enter Try.func102, Try.ntmps102
    go_wp2
    go_loop [4] (fun i => i = .int .i64 0) (fun _ => 0)
    case atStart => rfl
    case round =>
      subst hrel
      go_wp2
      refine bodyPost_ret (results_none rfl _ _ _) rfl ?_
      exact ⟨rfl, G0⟩
  · go_enter Try.func102, Try.ntmps102
    go_wp2
    go_loop [6] (fun i => i = .int .i64 0) (fun _ => 0)
    case atStart => rfl
    case round =>
      subst hrel
      go_wp2
      go_end0
      exact ⟨rfl, G0⟩

set_option maxHeartbeats 400000 in
theorem ownS_nil (h f : List Int) (w : World) :
    Calls Try.prog 101 #[.agg (sheetCells (.slice none 0 0) h f).toArray] w fun e w' => e = .returned (.bool true) ∧ w.grownBy w' none := by
  have G0 := World.grownBy_alloc w (.cells (sheetCells (.slice none 0 0) h f).toArray 99) none
  have b0 : (w.alloc (.cells (sheetCells (.slice none 0 0) h f).toArray 99)).cell? ⟨w.heap.size, 0, none⟩ = some (.slice none 0 0) := (Row.new w 99 (sheetCells (.slice none 0 0) h f)).cell 0
  generalize (sheetCells (.slice none 0 0) h f).toArray = C at *
  go_enter Try.func101, Try.ntmps101
  go_wp2
  go_loop [3] (fun i => i = .int .i64 0) (fun _ => 0)
  case atStart => rfl
  case round =>
    subst hrel
    go_wp2
    go_loop [5] (fun i => i = .int .i64 0) (fun _ => 0)
    case atStart => rfl
    case round =>
      subst hrel
      go_wp2
      go_ret
      exact ⟨rfl, G0⟩
end Go.Proofs.Ytolijdbdpnbchaa
