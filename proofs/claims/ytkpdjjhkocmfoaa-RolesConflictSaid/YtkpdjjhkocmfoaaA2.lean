/-
  Parts joined: SheetK RefAt BookK Role SheetR TwinK TwinR.
-/
import Derived.Below
import Derived.Laws.OwnMore
import Derived.Deep.AppendLies
import Derived.Deep.Draws
import Derived.Lib.Hide
import Derived.Laws.MakeOwn
import Derived.Laws.CopyOwn
import Derived.Laws.Rows
import Derived.Laws.BitsAllLaws
import Derived.WalkKit
import Derived.Test.YtkpdjjhkocmfoaaRows
import Derived.WalkSpells
import Derived.WalkLawsBesides
import Derived.IntWalk
import Derived.Maps.AppendAt
import Derived.OwnWalk
import Derived.Deep.MidRow
import Derived.Deep.WholeRow
import Derived.Great.BuildSlice
import Derived.ProofKit
import Derived.OpenShut
import Derived.ShutString
import Derived.ChangeOld
import Derived.Lib.SmallJoins
import Derived.Recover
import Derived.Deep.RegionHeld
import Derived.Deep.QuietTactic
import Derived.BigQuiet
import Derived.Deep.Slices
import Derived.Deep.Strs
import Derived.SizedLaws
import Derived.Maps.OwnSet
import Derived.DeepKeys4
import Derived.WideKeyArr
import Derived.ChangeKeysEq
import Derived.Deep.RegionHeld2
import Derived.Deep.CutBlock
import Derived.Laws.Tables
import Derived.Laws.StructEq
import Derived.Test.YtkpdjjhkocmfoaaA1
/-
  Of part SheetK: what is needed here.
-/
namespace Go.Proofs.Ytkpdjjhkocmfoaa
open Go.RowKit
set_option linter.unusedVariables false
/-- a sheet's cells -/
def sheetCells (l : Value) (h f : List Int) : List Value := l :: (bv h ++ bv f)
theorem sheet_here {w : World} {g t : Nat} {l : Value} {h f : List Int} (hr : Row w g t (sheetCells l h f)) (hh : h.length = 32) : ∀ j v, (bv h)[j]? = some v → w.cell? ((⟨g, 1, none⟩ : Addr).add j) = some v := fun j v hv => by
  have hj := (List.getElem?_eq_some_iff.1 hv).1
  rw [addr_row, hr.cell, show 1 + j = j + 1 by omega]
  show (bv h ++ bv f)[j]? = _
  rw [List.getElem?_append_left hj]
  exact hv
theorem sheet_far {w : World} {g t : Nat} {l : Value} {h f : List Int} (hr : Row w g t (sheetCells l h f)) (hh : h.length = 32) : ∀ j v, (bv f)[j]? = some v → w.cell? ((⟨g, 33, none⟩ : Addr).add j) = some v := fun j v hv => by
  rw [addr_row, hr.cell, show 33 + j = (32 + j) + 1 by omega]
  show (bv h ++ bv f)[32 + j]? = _
  rw [List.getElem?_append_right (by rw [bv_length, hh]; omega), bv_length, hh, show 32 + j - 32 = j by omega]
  exact hv
/-- n times the same key -/
def keyRow (n : Nat) (z : List Int) : List Value := (List.replicate n (bv z)).flatten
theorem keyRow_len (n : Nat) {z : List Int} (hz : z.length = 32) : (keyRow n z).length = n * 32 := by
  unfold keyRow
  induction n with
  | zero => rfl
  | succ n ih => rw [List.replicate_succ, List.flatten_cons, List.length_append, ih, bv_length, hz]; omega
theorem keyRow_succ (n : Nat) (z : List Int) : keyRow (n + 1) z = keyRow n z ++ bv z := by
  unfold keyRow
  rw [List.replicate_succ', List.flatten_append]
  simp
theorem keyRow_set {k : Nat} {z : List Int} (hz : z.length = 32) (xs ys : List Value) (hys : (k + 1) * 32 ≤ ys.length) :
    (xs ++ (keyRow k z ++ ys.drop (k * 32))).take (xs.length + k * 32) ++ bv z ++ (xs ++ (keyRow k z ++ ys.drop (k * 32))).drop (xs.length + k * 32 + (bv z).length) = xs ++ (keyRow (k + 1) z ++ ys.drop ((k + 1) * 32)) := by
  have hl := keyRow_len k hz
  have hl2 : (xs ++ keyRow k z).length = xs.length + k * 32 := by rw [List.length_append, hl]
  have e2 : xs.length + k * 32 + (bv z).length = (xs ++ keyRow k z).length + 32 := by rw [hl2, bv_length, hz]
  rw [← List.append_assoc, List.take_left' hl2, e2, List.drop_length_add_append, List.drop_drop, keyRow_succ, show k * 32 + 32 = (k + 1) * 32 by omega]
  simp only [List.append_assoc]
theorem size_key' {z : List Int} (hz : z.length = 32) : (Try.prog.info? 46).map (·.size) = some (bv z).length := by rw [size_key, bv_length, hz]
set_option maxHeartbeats 800000 in
theorem signK_false (g n c : Nat) (h f : List Int) (xs : List Value) (w : World) (hr : Row w g 46 xs) (hl : c * 32 ≤ xs.length) (hnc : n ≤ c) (hc : c ≤ 9223372036854775807) (hh : h.length = 32) (hf : f.length = 32) :
    Calls Try.prog 59 #[.agg (sheetCells (.slice (some ⟨g, 0, none⟩) n c) h f).toArray, .bool false] w fun e w' => e = .returned (.tuple #[]) ∧ Row w' g 46 (keyRow n h ++ xs.drop (n * 32)) ∧ w.grownBy w' (some g) := by
  have hlt := hr.lt
  have HL := Lib.hid hl
  have HH := Lib.hid (And.intro hh hf)
  have R := Lib.hid (hr.alloc (.cells (sheetCells (.slice (some ⟨g, 0, none⟩) n c) h f).toArray 67))
  have HB := Lib.hid (Row.new w 67 (sheetCells (.slice (some ⟨g, 0, none⟩) n c) h f))
  have G0 := World.grownBy_alloc w (.cells (sheetCells (.slice (some ⟨g, 0, none⟩) n c) h f).toArray 67) (some g)
  clear hr hl hh hf
  generalize hC : (sheetCells (.slice (some ⟨g, 0, none⟩) n c) h f).toArray = C at *
  go_enter Try.func59, Try.ntmps59
  go_wp2_with fail
  go_loopw [4] (fun i wr => ∃ k : Nat, k ≤ n ∧ i = .int .i64 k ∧ Row wr g 46 (keyRow k h ++ xs.drop (k * 32)) ∧ Row wr w.heap.size 67 (sheetCells (.slice (some ⟨g, 0, none⟩) n c) h f) ∧ w.grownBy wr (some g)) (fun i _ => n - (intOf i).toNat)
  case atStart => exact ⟨0, Nat.zero_le _, rfl, by simpa [keyRow] using R.out, hC ▸ HB.out, G0⟩
  case round =>
    obtain ⟨k, hk, rfl, hr, hb, hg⟩ := hrel
    clear R HB G0
    have RR := Lib.hid hr
    have RB := Lib.hid hb
    have GG := Lib.hid hg
    have b0 : wr.cell? ⟨w.heap.size, 0, none⟩ = some (.slice (some ⟨g, 0, none⟩) n c) := hb.cell 0
    clear hr hb hg
    by_cases hlt2 : k < n
    · go_wp2_with (first
        | ((with_reducible show wpList _ _ _ ({ dst := some 20, op := Op.load _ _, type := _, pos := _, after := _, guard := _ } :: _) _ _); go_must (refine wpList_load_at rfl 46 (.tmp 19) rfl ⟨w.heap.size, 1, none⟩ (bv h) _ Try.underlying46 rfl (size_key' HH.out.1) (sheet_here RB.out HH.out.1) ?_ ?_; go_simp))
        | ((with_reducible show wpList _ _ _ ({ dst := none, op := Op.store 46 _ _, type := _, pos := _, after := _, guard := _ } :: _) _ _); go_must (refine wpList_store_part rfl 46 (.tmp 21) (.tmp 20) rfl g 46 (k * 32) _ (bv h) RR.out (size_key' HH.out.1) (by have := HL.out; have := keyRow_len k HH.out.1; rw [List.length_append, List.length_drop, bv_length, HH.out.1]; omega) (bv_one h) ?_ ?_ ?_; go_simp; go_simp; intro w2 hr2 ht2; have HR2 := Lib.hid hr2; have HT2 := Lib.hid ht2; clear hr2 ht2)))
      go_roundw
      case rel =>
        refine ⟨k + 1, by omega, by go_num, ?_, HT2.out.row RB.out (by omega), grown_trans GG.out ⟨HT2.out.os, HT2.out.tape, HT2.out.output, by rw [HT2.out.size]; exact Nat.le_refl _, fun q hq hne => HT2.out.block q (fun e => hne (by rw [e]))⟩⟩
        have := HR2.out
        have e := keyRow_set (k := k) HH.out.1 [] xs (by have := HL.out; omega)
        simp only [List.nil_append, List.length_nil, Nat.zero_add] at e
        rwa [e] at this
      case measure => simp [intOf]; omega
    · have hk' : k = n := by omega
      have R2 : Hid (Row wr g 46 (keyRow n h ++ xs.drop (n * 32))) := by rw [← hk']; exact RR.out
      clear hk' RR
      go_wp2_with fail
      refine bodyPost_ret (results_none rfl _ _ _) rfl ?_
      exact ⟨rfl, R2.out, GG.out⟩
set_option maxHeartbeats 800000 in
theorem signK_true (g n c : Nat) (h f : List Int) (xs ys : List Value) (w : World) (hr : Row w g 46 (xs ++ ys)) (hn : xs.length = n * 32) (hl : (c - n) * 32 ≤ ys.length) (hnc : n ≤ c) (hc : c ≤ 9223372036854775807) (hh : h.length = 32) (hf : f.length = 32) :
    Calls Try.prog 59 #[.agg (sheetCells (.slice (some ⟨g, 0, none⟩) n c) h f).toArray, .bool true] w fun e w' => e = .returned (.tuple #[]) ∧ Row w' g 46 (xs ++ (keyRow (c - n) f ++ ys.drop ((c - n) * 32))) ∧ w.grownBy w' (some g) := by
  have hlt := hr.lt
  have HL := Lib.hid hl
  have HN := Lib.hid hn
  have HH := Lib.hid (And.intro hh hf)
  have R := Lib.hid (hr.alloc (.cells (sheetCells (.slice (some ⟨g, 0, none⟩) n c) h f).toArray 67))
  have hB := Row.new w 67 (sheetCells (.slice (some ⟨g, 0, none⟩) n c) h f)
  have HB := Lib.hid hB
  have G0 := World.grownBy_alloc w (.cells (sheetCells (.slice (some ⟨g, 0, none⟩) n c) h f).toArray 67) (some g)
  have b0 : (w.alloc (.cells (sheetCells (.slice (some ⟨g, 0, none⟩) n c) h f).toArray 67)).cell? ⟨w.heap.size, 0, none⟩ = some (.slice (some ⟨g, 0, none⟩) n c) := hB.cell 0
  clear hr hl hn hh hf hB
  generalize hC : (sheetCells (.slice (some ⟨g, 0, none⟩) n c) h f).toArray = C at *
  go_enter Try.func59, Try.ntmps59
  go_wp2_with fail
  go_loopw [6] (fun i wr => ∃ k : Nat, n + k ≤ c ∧ i = .int .i64 ((n + k : Nat) : Int) ∧ Row wr g 46 (xs ++ (keyRow k f ++ ys.drop (k * 32))) ∧ Row wr w.heap.size 67 (sheetCells (.slice (some ⟨g, 0, none⟩) n c) h f) ∧ w.grownBy wr (some g)) (fun i _ => c - (intOf i).toNat)
  case atStart => exact ⟨0, by omega, rfl, by simpa [keyRow] using R.out, hC ▸ HB.out, G0⟩
  case round =>
    obtain ⟨k, hk, rfl, hr, hb, hg⟩ := hrel
    clear R HB G0
    have RR := Lib.hid hr
    have RB := Lib.hid hb
    have GG := Lib.hid hg
    clear hr hb hg b0
    by_cases hlt2 : n + k < c
    · generalize hj : n + k = j at *
      have HJ := Lib.hid hj
      clear hj
      go_wp2_with (first
        | ((with_reducible show wpList _ _ _ ({ dst := some 40, op := Op.load _ _, type := _, pos := _, after := _, guard := _ } :: _) _ _); go_must (refine wpList_load_at rfl 46 (.tmp 39) rfl ⟨w.heap.size, 33, none⟩ (bv f) _ Try.underlying46 rfl (size_key' HH.out.2) (sheet_far RB.out HH.out.1) ?_ ?_; go_simp))
        | ((with_reducible show wpList _ _ _ ({ dst := none, op := Op.store 46 _ _, type := _, pos := _, after := _, guard := _ } :: _) _ _); go_must (refine wpList_store_part rfl 46 (.tmp 41) (.tmp 40) rfl g 46 (j * 32) _ (bv f) RR.out (size_key' HH.out.2) (by have := HL.out; have := HN.out; have := HJ.out; have := keyRow_len k HH.out.2; simp only [List.length_append, List.length_drop, bv_length, HH.out.2]; omega) (bv_one f) ?_ ?_ ?_; go_simp; go_simp; intro w2 hr2 ht2; have HR2 := Lib.hid hr2; have HT2 := Lib.hid ht2; clear hr2 ht2)))
      go_roundw
      case rel =>
        refine ⟨k + 1, by have := HJ.out; omega, by rw [← HJ.out]; go_num, ?_, HT2.out.row RB.out (by omega), grown_trans GG.out ⟨HT2.out.os, HT2.out.tape, HT2.out.output, by rw [HT2.out.size]; exact Nat.le_refl _, fun q hq hne => HT2.out.block q (fun e => hne (by rw [e]))⟩⟩
        have := HR2.out
        have e := keyRow_set (k := k) HH.out.2 xs ys (by have := HL.out; have := HJ.out; omega)
        rw [show xs.length + k * 32 = j * 32 by have := HN.out; have := HJ.out; omega] at e
        rwa [e] at this
      case measure => simp [intOf]; omega
    · have hk' : k = c - n := by omega
      have R2 : Hid (Row wr g 46 (xs ++ (keyRow (c - n) f ++ ys.drop ((c - n) * 32)))) := by
        have := RR.out
        rw [hk'] at this
        exact this
      have hj2 : ¬ (((n + k : Nat) : Int) < (c : Int)) := by omega
      clear hk' RR
      generalize n + k = j at *
      go_wp2_with fail
      go_end0
      exact ⟨rfl, R2.out, GG.out⟩
theorem keyRow_cell {n k : Nat} {z : List Int} (hz : z.length = 32) (hk : k < n) {j : Nat} {v : Value} (hv : (bv z)[j]? = some v) : (keyRow n z)[k * 32 + j]? = some v :=
  flatten_at 32 (List.replicate n (bv z)) k (bv z) (fun i y hy => by
    have := List.mem_of_getElem? hy
    rw [List.eq_of_mem_replicate this, bv_length, hz]) (by rw [List.getElem?_replicate_of_lt hk]) j v hv
set_option maxHeartbeats 1000000 in
theorem ownK_true (g n c : Nat) (h f : List Int) (zs : List Value) (w : World) (hr : Row w g 46 (keyRow n h ++ (keyRow (c - n) f ++ zs))) (hnc : n ≤ c) (hc : c ≤ 9223372036854775807) (hh : h.length = 32) (hf : f.length = 32) :
    Calls Try.prog 58 #[.agg (sheetCells (.slice (some ⟨g, 0, none⟩) n c) h f).toArray] w fun e w' => e = .returned (.bool true) ∧ w.grownBy w' none := by
  have hlt := hr.lt
  have HH := Lib.hid (And.intro hh hf)
  have R0 := Lib.hid (hr.alloc (.cells (sheetCells (.slice (some ⟨g, 0, none⟩) n c) h f).toArray 67))
  have HB := Lib.hid (Row.new w 67 (sheetCells (.slice (some ⟨g, 0, none⟩) n c) h f))
  have b0 : (w.alloc (.cells (sheetCells (.slice (some ⟨g, 0, none⟩) n c) h f).toArray 67)).cell? ⟨w.heap.size, 0, none⟩ = some (.slice (some ⟨g, 0, none⟩) n c) := HB.out.cell 0
  have G0 := World.grownBy_alloc w (.cells (sheetCells (.slice (some ⟨g, 0, none⟩) n c) h f).toArray 67) none
  have NH := fun w => same_neq Try.underlying46 h hh w
  have NF := fun w => same_neq Try.underlying46 f hf w
  have C1 : Hid (∀ k, k < n → ∀ j v, (bv h)[j]? = some v → (w.alloc (.cells (sheetCells (.slice (some ⟨g, 0, none⟩) n c) h f).toArray 67)).cell? ((⟨g, k * 32, none⟩ : Addr).add j) = some v) := Lib.hid fun k hk j v hv => by
    rw [addr_row, R0.out.cell, List.getElem?_append_left (by rw [keyRow_len n hh]; have := (List.getElem?_eq_some_iff.1 hv).1; rw [bv_length, hh] at this; omega)]
    exact keyRow_cell hh hk hv
  have C2 : Hid (∀ k, k < c - n → ∀ j v, (bv f)[j]? = some v → (w.alloc (.cells (sheetCells (.slice (some ⟨g, 0, none⟩) n c) h f).toArray 67)).cell? ((⟨g, (n + k) * 32, none⟩ : Addr).add j) = some v) := Lib.hid fun k hk j v hv => by
    rw [addr_row, R0.out.cell, List.getElem?_append_right (by rw [keyRow_len n hh]; omega), keyRow_len n hh, show (n + k) * 32 + j - n * 32 = k * 32 + j by omega, List.getElem?_append_left (by rw [keyRow_len _ hf]; have := (List.getElem?_eq_some_iff.1 hv).1; rw [bv_length, hf] at this; omega)]
    exact keyRow_cell hf hk hv
  have C3 : Hid (∀ j v, (bv h)[j]? = some v → (w.alloc (.cells (sheetCells (.slice (some ⟨g, 0, none⟩) n c) h f).toArray 67)).cell? ((⟨w.heap.size, 1, none⟩ : Addr).add j) = some v) := Lib.hid (sheet_here HB.out hh)
  have C4 : Hid (∀ j v, (bv f)[j]? = some v → (w.alloc (.cells (sheetCells (.slice (some ⟨g, 0, none⟩) n c) h f).toArray 67)).cell? ((⟨w.heap.size, 33, none⟩ : Addr).add j) = some v) := Lib.hid (sheet_far HB.out hh)
  have SH := Lib.hid (size_key' hh)
  have SF := Lib.hid (size_key' hf)
  clear hr hh hf R0 HB HH
  generalize bv h = H at *
  generalize bv f = F at *
  generalize hC : (sheetCells (.slice (some ⟨g, 0, none⟩) n c) h f).toArray = C at *
  clear hC
  go_enter Try.func58, Try.ntmps58
  go_wp2_with fail
  generalize w.alloc (.cells C 67) = W at *
  go_loopw [3] (fun i wr => ∃ k j : Nat, k ≤ n ∧ i = .int .i64 k ∧ wr = W.drewN j) (fun i _ => n - (intOf i).toNat)
  case atStart => exact ⟨0, 0, Nat.zero_le _, rfl, rfl⟩
  case round =>
    obtain ⟨k, j, hk, rfl, rfl⟩ := hrel
    by_cases hlt2 : k < n
    · go_wp2_with fail
      refine wp_region_quiet_lit (by kernel_rfl) (by kernel_rfl) ?_
      repeat (first
        | ((with_reducible show wpQuiet _ _ _ _ ({ dst := some 17, op := Op.load _ _, type := _, pos := _, after := _, guard := _ } :: _) _); go_must (refine quiet_load_at (by kernel_rfl) 46 (.tmp 16) rfl ⟨g, k * 32, none⟩ H _ Try.underlying46 rfl SH.out (by rintro _ ⟨nq, rfl⟩; exact C1.out k hlt2) ?_ ?_; go_simp; go_simp))
        | ((with_reducible show wpQuiet _ _ _ _ ({ dst := some 19, op := Op.load _ _, type := _, pos := _, after := _, guard := _ } :: _) _); go_must (refine quiet_load_at (by kernel_rfl) 46 (.tmp 18) rfl ⟨w.heap.size, 1, none⟩ H _ Try.underlying46 rfl SH.out (by rintro _ ⟨nq, rfl⟩; exact C3.out) ?_ ?_; go_simp; go_simp))
        | go_big_quiet_step (fail))
      refine wpQuiet_nil ?_
      intro nq
      go_wp2_with fail
      go_roundw
      case rel => exact ⟨k + 1, j + nq, by omega, by go_num, by simp⟩
      case measure => simp [intOf]; omega
    · go_wp2_with fail
      go_loopw [5] (fun i wr => ∃ k j : Nat, n + k ≤ c ∧ i = .int .i64 ((n + k : Nat) : Int) ∧ wr = W.drewN j) (fun i _ => c - (intOf i).toNat)
      case atStart => exact ⟨0, j, by omega, rfl, rfl⟩
      case round =>
        obtain ⟨k, j, hk, rfl, rfl⟩ := hrel
        by_cases hlt2 : n + k < c
        · have C2k := Lib.hid (C2.out k (by omega))
          generalize hjj : n + k = t at *
          have HJ := Lib.hid hjj
          clear hjj
          go_wp2_with fail
          refine wp_region_quiet_lit (by kernel_rfl) (by kernel_rfl) ?_
          repeat (first
            | ((with_reducible show wpQuiet _ _ _ _ ({ dst := some 39, op := Op.load _ _, type := _, pos := _, after := _, guard := _ } :: _) _); go_must (refine quiet_load_at (by kernel_rfl) 46 (.tmp 38) rfl ⟨g, t * 32, none⟩ F _ Try.underlying46 rfl SF.out (by rintro _ ⟨nq, rfl⟩; exact C2k.out) ?_ ?_; go_simp; go_simp))
            | ((with_reducible show wpQuiet _ _ _ _ ({ dst := some 41, op := Op.load _ _, type := _, pos := _, after := _, guard := _ } :: _) _); go_must (refine quiet_load_at (by kernel_rfl) 46 (.tmp 40) rfl ⟨w.heap.size, 33, none⟩ F _ Try.underlying46 rfl SF.out (by rintro _ ⟨nq, rfl⟩; exact C4.out) ?_ ?_; go_simp; go_simp))
            | go_big_quiet_step (fail))
          refine wpQuiet_nil ?_
          intro nq
          go_wp2_with fail
          go_roundw
          case rel => exact ⟨k + 1, j + nq, by have := HJ.out; omega, by rw [← HJ.out]; go_num, by simp⟩
          case measure => simp [intOf]; omega
        · have hj2 : ¬ (((n + k : Nat) : Int) < (c : Int)) := by omega
          generalize n + k = t at *
          go_wp2_with fail
          go_ret
          exact ⟨rfl, grown_trans G0 ⟨rfl, rfl, rfl, Nat.le_refl _, fun _ _ _ => rfl⟩⟩
set_option maxHeartbeats 400000 in
theorem signK_nil (b : Bool) (h f : List Int) (w : World) :
    Calls Try.prog 59 #[.agg (sheetCells (.slice none 0 0) h f).toArray, .bool b] w fun e w' => e = .returned (.tuple #[]) ∧ w.grownBy w' none := by
  have G0 := World.grownBy_alloc w (.cells (sheetCells (.slice none 0 0) h f).toArray 67) none
  have b0 : (w.alloc (.cells (sheetCells (.slice none 0 0) h f).toArray 67)).cell? ⟨w.heap.size, 0, none⟩ = some (.slice none 0 0) := (Row.new w 67 (sheetCells (.slice none 0 0) h f)).cell 0
  generalize (sheetCells (.slice none 0 0) h f).toArray = C at *
  cases b
  · go_enter Try.func59, Try.ntmps59
    go_wp2
    go_loop [4] (fun i => i = .int .i64 0) (fun _ => 0)
    case atStart => rfl
    case round =>
      subst hrel
      go_wp2
      refine bodyPost_ret (results_none rfl _ _ _) rfl ?_
      exact ⟨rfl, G0⟩
  · go_enter Try.func59, Try.ntmps59
    go_wp2
    go_loop [6] (fun i => i = .int .i64 0) (fun _ => 0)
    case atStart => rfl
    case round =>
      subst hrel
      go_wp2
      go_end0
      exact ⟨rfl, G0⟩
set_option maxHeartbeats 400000 in
theorem ownK_nil (h f : List Int) (w : World) :
    Calls Try.prog 58 #[.agg (sheetCells (.slice none 0 0) h f).toArray] w fun e w' => e = .returned (.bool true) ∧ w.grownBy w' none := by
  have G0 := World.grownBy_alloc w (.cells (sheetCells (.slice none 0 0) h f).toArray 67) none
  have b0 : (w.alloc (.cells (sheetCells (.slice none 0 0) h f).toArray 67)).cell? ⟨w.heap.size, 0, none⟩ = some (.slice none 0 0) := (Row.new w 67 (sheetCells (.slice none 0 0) h f)).cell 0
  generalize (sheetCells (.slice none 0 0) h f).toArray = C at *
  go_enter Try.func58, Try.ntmps58
  go_wp2
  go_loop [3] (fun i => i = .int .i64 0) (fun _ => 0)
  case atStart => rfl
  case round =>
    subst hrel
    go_wp2
    go_loop [5] (fun i => i = .int .i64 0) (fun _ => 0)
    case atStart => rfl
    case round =>
      subst hrel
      go_wp2
      go_ret
      exact ⟨rfl, G0⟩
end Go.Proofs.Ytkpdjjhkocmfoaa

/-
  Of part RefAt: what is needed here.
-/
namespace Go.Proofs.Ytkpdjjhkocmfoaa
open Go.RowKit
set_option linter.unusedVariables false
/-- two that may come up -/
theorem readyL2 {P : Program} {L : List Oper} {Q : Exit → Act → World → Prop} {md : Region.Mode} {S : World → Prop} {i j : Nat} {o o' : Oper} {fuel : Nat} {listed : Array Bool} {a : Act} {w : World} (ho : L[i]? = some o) (ho' : L[j]? = some o') (hr : Region.ready md L.toArray listed = [i, j])
    (hw : Region.wanted o (yielded L.toArray a.tmps) = true) (hw' : Region.wanted o' (yielded L.toArray a.tmps) = true)
    (h : ∀ K' : Act → World → Prop, Shut (∀ a w, S w → wpAnyH P md L.toArray Q S fuel (listed.setIfInBounds i true) a w → K' a w) → Oper.wp P o a w K' Q)
    (h' : ∀ K' : Act → World → Prop, Shut (∀ a w, S w → wpAnyH P md L.toArray Q S fuel (listed.setIfInBounds j true) a w → K' a w) → Oper.wp P o' a w K' Q) : wpAnyH P md L.toArray Q S (fuel + 1) listed a w :=
  wpAnyH_ready hr (by simp) (AllReadyH.cons (by simpa using ho) (fun K hK => by
    rw [if_pos hw]
    exact h K (fun a w hS hW => hK a w hS fun _ => hW)) (AllReadyH.cons (by simpa using ho') (fun K hK => by
    rw [if_pos hw']
    exact h' K (fun a w hS hW => hK a w hS fun _ => hW)) AllReadyH.nil))
section
variable {P : Program}
/-- 'wpList_buildOne' as one step -/
theorem wp_buildOne {o : Oper} {a : Act} {w : World} {K : Act → World → Prop} {Q : Exit → Act → World → Prop} (t e : TypeId) (y : Operand) (ho : o.op = .buildSlice t 1 #[(0, y)])
    (cs : List Value) (z : Value) (size bytes : Nat) (hu : P.underlying t = some (.slice e)) (hi : (P.info? e).map (fun i => (i.zero, i.size, i.bytes)) = some (some z, size, bytes)) (hzs : z.cells.size = size) (hs0 : 0 < size) (hs1 : size ≤ 1000)
    (hcs : cs.length = size) (hy : a.eval y = .agg cs.toArray)
    (h : K (a.put o.dst (.slice (some ⟨w.heap.size, 0, none⟩) 1 1)) (w.alloc (.cells cs.toArray e))) : o.wp P a w K Q := by
  obtain ⟨ie, hie, h1, h2, _⟩ := info_parts hi
  subst h2
  refine wp_buildSlice t e 1 _ ho cs.toArray ie z hu hie h1 (by omega) (by omega) ?_ h
  have := Go.Great.fill_whole (s := ie.size) hs0 [Value.agg cs.toArray] ((Array.range (1 * ie.size)).map (z.cells[· % z.cells.size]!)) (by simp [Value.cells, hcs]) (by simp)
  simpa [hy, Value.cells] using this
/-- 'wpList_addRow' as one step -/
theorem wp_addRow {w0 : World} {c : Array Value} {o : Oper} {a : Act} {K : Act → World → Prop} {Q : Exit → Act → World → Prop} (s x : Operand) (t : TypeId)
    (ho : o.op = .call { callee := .builtin .append, args := #[s, x], argTypes := #[t, t] })
    (base : Nat) (e : TypeId) (z : Value) (size bytes : Nat) (ht : P.underlying t = some (.slice e)) (hi : (P.info? e).map (fun i => (i.zero, i.size, i.bytes)) = some (some z, size, bytes)) (hzs : z.cells.size = size) (hs0 : 0 < size)
    (v : Value) (n : Nat) (xs cs : List Value) (cc : Nat) (hcs : cs.length = size) (h1 : ∀ u ∈ cs, u.oneCell' = true) (hc : c = cs.toArray) (hs : a.eval s = v) (hown : w0.ownsRow base e size v n xs)
    (hx : a.eval x = .slice (some ⟨w0.heap.size, 0, none⟩) 1 cc) (hbase : base ≤ w0.heap.size) (hnm : n + 1 ≤ maxLen) (hbytes : (n + 1) * bytes ≤ 140737488355328)
    (h : ∀ v' w', w'.ownsRow base e size v' (n + 1) (xs ++ cs) → Grew w0 w' v v' → K (a.put o.dst v') w') : o.wp P a (w0.alloc (.cells c e)) K Q := by
  subst hc
  obtain ⟨i0, hi, hz0, hz1, hz2⟩ := info_parts hi
  have hr := Row.new w0 e cs
  obtain ⟨v', w', hrun, h2, h3, _, h5⟩ := run_append_own_at (P := P) (w0.alloc (.cells cs.toArray e)) base t o.type e i0 z size bytes ht hi hz0 hz1 hz2 hzs hs0 v n xs (hown.alloc _) ⟨w0.heap.size, 0, none⟩ 1 cc cs (by omega)
    (fun j u hu => by rw [addr_row, hr.cell]; simpa using hu) h1 hnm hbytes (by simp; omega)
  unfold Oper.wp execOp
  simp only [ho, resolve, invoke, builtin, Sem.run_bind, Sem.run_pure, Result.andThen_ok, List.map_toArray, List.map_cons, List.map_nil, hs, hx, hrun]
  refine h v' w' h2 ((Grew.of_below ((Below.refl _ w0).alloc (Nat.le_refl _) _) v).trans ⟨h3, fun k hk => ?_⟩)
  rcases h5 with h5 | h5
  · exact .inl (h5 ▸ hk)
  · rw [h5] at hk
    cases hk
    exact .inr (Nat.le_refl _)
end
theorem own_formN {w : World} {base : Nat} {e : TypeId} {size : Nat} {v : Value} {n : Nat} {xs : List Value} (h : w.ownsRow base e size v n xs) : ∃ A c, v = .slice A n c := by
  rcases h.2 with ⟨rfl, rfl⟩ | ⟨g, cap, cur, rfl, _⟩
  · exact ⟨_, _, rfl⟩
  · exact ⟨_, _, rfl⟩
end Go.Proofs.Ytkpdjjhkocmfoaa

/-
  Of part BookK: what is needed here.
-/
namespace Go.Proofs.Ytkpdjjhkocmfoaa
open Go.RowKit
set_option linter.unusedVariables false
/-- a key's mark -/
def kz (a b l : Int) : List Int := [a, b, 77, 0, 0, 0, 0, 0, 0, 0, 0, 0, 0, 0, 0, 0, 0, 0, 0, 0, 0, 0, 0, 0, 0, 0, 0, 0, 0, 0, 0, l]
theorem built_key (a b l : Int) : Try.prog.built 46 [(0, .int .u8 a), (1, .int .u8 b), (2, .int .u8 77), (31, .int .u8 l)] = some (bv (kz a b l)).toArray := by kernel_rfl
theorem built_sheet (B : Option Addr) (m d : Nat) (z1 z2 : List Int) (h1 : z1.length = 32) (h2 : z2.length = 32) : Try.prog.built 67 [(0, .slice B m d), (1, .agg (bv z1).toArray), (2, .agg (bv z2).toArray)] = some (sheetCells (.slice B m d) z1 z2).toArray := by
  obtain ⟨f, rfl⟩ : ∃ f : Fin 32 → Int, z1 = List.ofFn f := ⟨fun i => z1.getD i 0, by
    refine List.ext_getElem (by simpa using h1) fun i h3 h4 => ?_
    rw [List.getElem_ofFn, List.getD_eq_getElem?_getD, List.getElem?_eq_getElem h3]
    rfl⟩
  obtain ⟨g, rfl⟩ : ∃ f : Fin 32 → Int, z2 = List.ofFn f := ⟨fun i => z2.getD i 0, by
    refine List.ext_getElem (by simpa using h2) fun i h3 h4 => ?_
    rw [List.getElem_ofFn, List.getD_eq_getElem?_getD, List.getElem?_eq_getElem h3]
    rfl⟩
  kernel_rfl
theorem exec_built {a : Act} {o : Oper} (w : World) (t : TypeId) (parts : Array (Nat × Operand)) (cells : Array Value) (ho : o.op = .build t parts) (h : Try.prog.built t (parts.map fun (i, x) => (i, a.eval x)).toList = some cells) : (execOp a.eval o).run Try.prog w = .ok (.value (.agg cells)) w := by
  simp only [execOp, ho, Sem.run_bind, run_build w t _ cells h, Result.andThen_ok]
  rfl
theorem wp_built {o : Oper} {a : Act} {w : World} {K : Act → World → Prop} {Q : Exit → Act → World → Prop} (t : TypeId) (parts : Array (Nat × Operand)) (cells : Array Value) (ho : o.op = .build t parts)
    (h : Try.prog.built t (parts.map fun (i, x) => (i, a.eval x)).toList = some cells) (hK : K (a.put o.dst (.agg cells)) w) : o.wp Try.prog a w K Q :=
  wp_build t parts ho (by rw [h]; rfl) (by rw [h]; exact hK)
/-- of the blocks below 'base' only p has been written -/
structure ButOne (base p : Nat) (w w' : World) : Prop where
  os : w'.os = w.os
  tape : w'.tape = w.tape
  output : w'.output = w.output
  size : w.heap.size ≤ w'.heap.size
  block : ∀ k, k < base → k ≠ p → w'.heap[k]? = w.heap[k]?
theorem ButOne.refl (base p : Nat) (w : World) : ButOne base p w w := ⟨rfl, rfl, rfl, Nat.le_refl _, fun _ _ _ => rfl⟩
theorem ButOne.trans {base p : Nat} {a b c : World} (h : ButOne base p a b) (k : ButOne base p b c) : ButOne base p a c :=
  ⟨k.os.trans h.os, k.tape.trans h.tape, k.output.trans h.output, Nat.le_trans h.size k.size, fun i hi hp => (k.block i hi hp).trans (h.block i hi hp)⟩
theorem ButOne.below {base p B : Nat} {a b : World} (h : ButOne base p a b) (hB : B ≤ base) (hp : B ≤ p) : Below B a b :=
  ⟨h.os, h.tape, h.output, h.size, fun k hk => h.block k (by omega) (by omega)⟩
/-- 'AllReadyH.cons', the operations a list -/
theorem allL {P : Program} {L : List Oper} {Q : Exit → Act → World → Prop} {md : Region.Mode} {S : World → Prop} {i : Nat} {o : Oper} {fuel : Nat} {listed : Array Bool} {a : Act} {w : World} {rs : List Nat} (ho : L[i]? = some o)
    (hw : Region.wanted o (yielded L.toArray a.tmps) = true)
    (h : ∀ K' : Act → World → Prop, Shut (∀ a w, S w → wpAnyH P md L.toArray Q S fuel (listed.setIfInBounds i true) a w → K' a w) → Oper.wp P o a w K' Q)
    (hs : AllReadyH P md L.toArray Q S fuel listed a w rs) : AllReadyH P md L.toArray Q S fuel listed a w (i :: rs) :=
  AllReadyH.cons (by simpa using ho) (fun K hK => by
    rw [if_pos hw]
    exact h K (fun a w hS hW => hK a w hS fun _ => hW)) hs
set_option maxRecDepth 100000 in
set_option maxHeartbeats 800000 in
theorem keyMark (x y : Int) (w : World) : Calls Try.prog 31 #[.int .i64 x, .int .u8 y] w fun e w' => ∃ z, e = .returned (.agg (bv z).toArray) ∧ z.length = 32 ∧ Below w.heap.size w w' := by
  go_enter Try.func31, Try.ntmps31
  go_wp2_with (first
    | ((with_reducible show wpList _ _ _ ({ dst := some 11, op := Op.build _ _, type := _, pos := _, after := _, guard := _ } :: _) _ _); go_must (refine wpList_plain rfl fun K hK => wp_built _ _ _ rfl (by simp only [List.map_toArray, List.map_cons, List.map_nil]; exact built_key _ _ _) (hK _ _ ?_)))
    | ((with_reducible show wpList _ _ _ ({ dst := none, op := Op.store 46 _ _, type := _, pos := _, after := _, guard := _ } :: _) _ _); go_must (refine wpList_store_new rfl 46 (.tmp 4) (.tmp 11) rfl (bv (kz (x % 256) (wrap64 (x.tdiv 256) % 256) y)) size_key (bv_one _) rfl ?_ ?_ ?_; go_simp; go_simp; intro w1 hr1 hb1 hz1; have HR1 := Lib.hid hr1; have HB1 := Lib.hid hb1; clear hr1 hb1)))
  refine bodyPost_ret (results_cell_row (h := rfl) _ w1 w.heap.size 46 _ (0, 0) _ (by rfl) HR1.out.is Try.underlying46 rfl size_key) rfl ?_
  exact ⟨_, rfl, rfl, HB1.out⟩
/-- block k holds no pages -/
def NoPages (w : World) (k : Nat) : Prop := ∀ xs fr, w.heap[k]? ≠ some (.cells xs 69 fr)
/-- a book, its pages of the call's own, from world w0 on -/
structure BookW (w0 : World) (p base : Nat) (A : Option Addr) (n c : Nat) (ps : List Value) (w : World) : Prop where
  row : Row w p 31 [.slice A n c]
  own : w.ownsRow base 69 1 (.slice A n c) n ps
  one : ButOne base p w0 w
  lt : base ≤ w.heap.size
  keep : ∀ k, k < w0.heap.size → k ≠ p → NoPages w0 k → w.heap[k]? = w0.heap[k]?
section
variable {w0 w w' : World} {p base n c : Nat} {A : Option Addr} {ps : List Value}
theorem BookW.trans {A' : Option Addr} {n' c' : Nat} {ps' : List Value} (h : BookW w0 p base A n c ps w) (h' : BookW w p base A' n' c' ps' w') : BookW w0 p base A' n' c' ps' w' :=
  ⟨h'.row, h'.own, h.one.trans h'.one, h'.lt, fun k hk hp hn => by
    have e := h.keep k hk hp hn
    refine (h'.keep k (Nat.lt_of_lt_of_le hk h.one.size) hp ?_).trans e
    intro xs fr
    rw [e]
    exact hn xs fr⟩
theorem BookW.below (h : BookW w0 p base A n c ps w) (hb : Below w.heap.size w w') : BookW w0 p base A n c ps w' :=
  ⟨h.row.below hb h.row.lt, own_below h.own hb, h.one.trans ⟨hb.os, hb.tape, hb.output, hb.size, fun k hk _ => hb.block k (by have := h.lt; omega)⟩, by have := h.lt; have := hb.size; omega,
    fun k hk hp hn => (hb.block k (Nat.lt_of_lt_of_le hk h.one.size)).trans (h.keep k hk hp hn)⟩
theorem BookW.alloc (h : BookW w0 p base A n c ps w) (o : Obj) : BookW w0 p base A n c ps (w.alloc o) := h.below ((Below.refl _ _).alloc (Nat.le_refl _) o)
theorem BookW.drewN (h : BookW w0 p base A n c ps w) (k : Nat) : BookW w0 p base A n c ps (w.drewN k) := ⟨h.row.drewN k, h.own, ⟨h.one.os, h.one.tape, h.one.output, h.one.size, h.one.block⟩, h.lt, h.keep⟩
theorem own_pages {v : Value} {m : Nat} (h : w.ownsRow base 69 1 v m ps) {k : Nat} (hn : NoPages w k) : some k ≠ v.ownBlock := by
  rcases h.2 with ⟨rfl, _⟩ | ⟨g', cap, cur, rfl, _, hh, _⟩
  · simp [Value.ownBlock]
  · intro he
    have hg : k = g' := by simpa [Value.ownBlock] using he
    subst hg
    exact hn _ _ hh
theorem BookW.last {q : List Value} {m : Nat} {A' : Option Addr} {c' : Nat} (h : BookW w0 p base A n c ps w) (hr : Row w' p 31 [.slice A n c]) (ho : w'.ownsRow base 69 1 (.slice A' m c') m (ps ++ q)) (hg : w.grownBy w' (Value.slice A n c).ownBlock) :
    BookW w0 p base A' m c' (ps ++ q) (w'.setCell ⟨p, 0, none⟩ (.slice A' m c')) := by
  have hT := turned_setCell w' ⟨p, 0, none⟩ (.slice A' m c')
  have hz := hg.size
  have hl := h.lt
  refine ⟨hr.set_ 0 _, own_far ho hr (by decide) 0 _, h.one.trans ⟨hg.os, hg.tape, hg.output, ?_, fun k hk hp => ?_⟩, by rw [hT.size]; omega, fun k hk hp hn => ?_⟩
  · rw [hT.size]; exact hz
  · rw [hT.block k hp]
    exact hg.block k (by omega) fun e => by have := (h.own.lt k e.symm).1; omega
  · have e := h.keep k hk hp hn
    rw [hT.block k hp]
    refine (hg.block k (Nat.lt_of_lt_of_le hk h.one.size) (own_pages h.own ?_)).trans e
    intro xs fr
    rw [e]
    exact hn xs fr
/-- a row of other things stays -/
theorem BookW.rowK {g t : Nat} {xs : List Value} (h : BookW w0 p base A n c ps w) (hr : Row w0 g t xs) (hg : g ≠ p) (ht : t ≠ 69) : Row w g t xs :=
  ⟨(h.keep g hr.lt hg (fun ys fr e => by
    rw [hr.is] at e
    injection e with e
    injection e with _ e
    exact ht e)).trans hr.is⟩
end
set_option maxRecDepth 100000 in
set_option maxHeartbeats 4000000 in
theorem bookKeys (p base : Nat) (A B : Option Addr) (n c m d : Nat) (ps : List Value) (w0 w : World) (h : BookW w0 p base A n c ps w) (hn : n ≤ 1000000) :
    Calls Try.prog 16 #[.pointer (some ⟨p, 0, none⟩), .slice B m d] w fun e w' => ∃ z1 z2 A' c', e = .returned (.tuple #[]) ∧ z1.length = 32 ∧ z2.length = 32 ∧
      BookW w0 p base A' (n + 1) c' (ps ++ [.iface 67 (.agg (sheetCells (.slice B m d) z1 z2).toArray)]) w' := by
  obtain ⟨i0, hi, hz0, hz1, hz2⟩ := info_parts info_page
  have HI := Lib.hid (And.intro hi (And.intro hz0 (And.intro hz1 hz2)))
  have HN := Lib.hid (number_ p A n c w h.row hn)
  have H0 := Lib.hid (h.drewN 1)
  clear h hi hz0 hz1 hz2
  go_enter Try.func16, Try.ntmps16
  go_wp2_with fail
  refine HN.out.mono ?_
  rintro e w1 ⟨rfl, rfl⟩
  go_wp2_with fail
  refine wp_region_held (S := fun _ => True) (by kernel_rfl) ?_
  try (change wpAnyH _ _ _ _ _ _ _ _ (World.drew _))
  refine takeL (i := 0) (v := ?_) rfl (by kernel_rfl) (by kernel_rfl) (by kernel_rfl) (fun _ _ _ h => h) (Or.inl ⟨by rfl, ?_⟩) trivial ?_
  rotate_left
  · intro w _
    go_simp
    try with_reducible rfl
  try simp only [Act.put, List.setIfInBounds_toArray, List.set_cons_zero, List.set_cons_succ]
  refine takeL (i := 1) (v := ?_) rfl (by kernel_rfl) (by kernel_rfl) (by kernel_rfl) (fun _ _ _ h => h) (Or.inl ⟨by rfl, ?_⟩) trivial ?_
  rotate_left
  · intro w _
    go_simp
    try with_reducible rfl
  try simp only [Act.put, List.setIfInBounds_toArray, List.set_cons_zero, List.set_cons_succ]
  refine takeL (i := 2) (v := ?_) rfl (by kernel_rfl) (by kernel_rfl) (by kernel_rfl) (fun _ _ _ h => h) (Or.inl ⟨by rfl, ?_⟩) trivial ?_
  rotate_left
  · intro w _
    go_simp
    try with_reducible rfl
  try simp only [Act.put, List.setIfInBounds_toArray, List.set_cons_zero, List.set_cons_succ]
  refine takeL (i := 3) (v := ?_) rfl (by kernel_rfl) (by kernel_rfl) (by kernel_rfl) (fun _ _ _ h => h) (Or.inl ⟨by rfl, ?_⟩) trivial ?_
  rotate_left
  · intro w _
    go_simp
    try with_reducible rfl
  try simp only [Act.put, List.setIfInBounds_toArray, List.set_cons_zero, List.set_cons_succ]
  refine takeL (i := 5) (v := ?_) rfl (by kernel_rfl) (by kernel_rfl) (by kernel_rfl) (fun _ _ _ h => h) (Or.inl ⟨by rfl, ?_⟩) trivial ?_
  rotate_left
  · intro w _
    go_simp
    try with_reducible rfl
  try simp only [Act.put, List.setIfInBounds_toArray, List.set_cons_zero, List.set_cons_succ]
  refine takeL (i := 6) (v := ?_) rfl (by kernel_rfl) (by kernel_rfl) (by kernel_rfl) (fun _ _ _ h => h) (Or.inl ⟨by rfl, ?_⟩) trivial ?_
  rotate_left
  · intro w _
    go_simp
    try with_reducible rfl
  try simp only [Act.put, List.setIfInBounds_toArray, List.set_cons_zero, List.set_cons_succ]
  refine takeL (i := 8) (v := ?_) rfl (by kernel_rfl) (by kernel_rfl) (by kernel_rfl) (fun _ _ _ h => h) (Or.inl ⟨by rfl, ?_⟩) trivial ?_
  rotate_left
  · intro w _
    go_simp
    try with_reducible rfl
  try simp only [Act.put, List.setIfInBounds_toArray, List.set_cons_zero, List.set_cons_succ]
  refine wpAnyH_ready (rs := [4, 7]) (by kernel_rfl) (by simp) ?_
  refine allL rfl (by kernel_rfl) (fun K hK => ?_) (allL rfl (by kernel_rfl) (fun K hK => ?_) (AllReadyH.nil))
  · have c1 : w.drew.cell? ⟨p, 0, none⟩ = some (.slice A n c) := H0.out.row.cell 0
    go_simp
    clear c1
    refine hK _ _ trivial ?_
    clear hK K
    try simp only [Act.put, List.setIfInBounds_toArray, List.set_cons_zero, List.set_cons_succ]
    refine readyL (i := 7) rfl (by kernel_rfl) (by kernel_rfl) fun K hK => ?_
    go_simp
    refine (keyMark _ _ _).mono ?_
    rintro e w12 ⟨z1, rfl, hz1, hb⟩
    have H12 := Lib.hid (H0.out.below hb)
    clear hb
    simp only []
    refine hK _ _ trivial ?_
    clear hK K
    try simp only [Act.put, List.setIfInBounds_toArray, List.set_cons_zero, List.set_cons_succ]
    refine readyL (i := 9) rfl (by kernel_rfl) (by kernel_rfl) fun K hK => ?_
    go_simp
    refine (keyMark _ _ _).mono ?_
    rintro e w23 ⟨z2, rfl, hz2, hb⟩
    have H23 := Lib.hid (H12.out.below hb)
    clear hb
    simp only []
    refine hK _ _ trivial ?_
    clear hK K
    try simp only [Act.put, List.setIfInBounds_toArray, List.set_cons_zero, List.set_cons_succ]
    refine takeL (i := 10) (v := .agg (sheetCells (.slice B m d) z1 z2).toArray) rfl (by kernel_rfl) (by kernel_rfl) (by kernel_rfl) (fun _ _ _ h => h) (Or.inl ⟨by rfl, fun w _ => ?_⟩) trivial ?_
    · exact exec_built w _ _ _ rfl (by simp only [List.map_toArray, List.map_cons, List.map_nil]; exact built_sheet B m d z1 z2 hz1 hz2)
    try simp only [Act.put, List.setIfInBounds_toArray, List.set_cons_zero, List.set_cons_succ]
    refine takeL (i := 11) (v := ?_) rfl (by kernel_rfl) (by kernel_rfl) (by kernel_rfl) (fun _ _ _ h => h) (Or.inl ⟨by rfl, ?_⟩) trivial ?_
    rotate_left
    · intro w _
      go_simp
      try with_reducible rfl
    try simp only [Act.put, List.setIfInBounds_toArray, List.set_cons_zero, List.set_cons_succ]
    refine readyL (i := 12) rfl (by kernel_rfl) (by kernel_rfl) fun K hK => ?_
    go_simp
    refine hK _ _ trivial ?_
    clear hK K
    try simp only [Act.put, List.setIfInBounds_toArray, List.set_cons_zero, List.set_cons_succ]
    have HB4 := Lib.hid (H23.out.alloc (.cells [Value.iface 67 (.agg (sheetCells (.slice B m d) z1 z2).toArray)].toArray 69))
    have hsee := (Row.new w23 69 [Value.iface 67 (.agg (sheetCells (.slice B m d) z1 z2).toArray)]).sees0
    have HSEE := Lib.hid hsee
    clear hsee
    refine readyL (i := 13) rfl (by kernel_rfl) (by kernel_rfl) fun K hK => ?_
    refine wp_append_sees (.tmp 11) (.tmp 19) rfl Try.underlying29 HI.out.1 HI.out.2.1 HI.out.2.2.1 HI.out.2.2.2 rfl rfl HB4.out.own rfl HSEE.out (by simp [Value.oneCell']) (by unfold maxLen; omega) (by omega) HB4.out.lt ?_
    intro v5 w5 ho5 hg5 hat5
    obtain ⟨A5, c5, rfl⟩ := own_form ho5
    refine hK _ _ trivial ?_
    clear hK K
    try simp only [Act.put, List.setIfInBounds_toArray, List.set_cons_zero, List.set_cons_succ]
    have hr5 := HB4.out.row.grown hg5 (own_row_ne HB4.out.own HB4.out.row (by decide))
    have e5 : w5.cell? ⟨p, 0, none⟩ = some (.slice A n c) := hr5.cell 0
    have g5 := hr5.frozen 0
    refine takeL (i := 14) (v := ?_) rfl (by kernel_rfl) (by kernel_rfl) (by kernel_rfl) (fun _ _ _ h => h) (Or.inl ⟨by rfl, ?_⟩) trivial ?_
    rotate_left
    · intro w _
      go_simp
      try with_reducible rfl
    try simp only [Act.put, List.setIfInBounds_toArray, List.set_cons_zero, List.set_cons_succ]
    refine takeL (i := 15) (v := ?_) rfl (by kernel_rfl) (by kernel_rfl) (by kernel_rfl) (fun _ _ _ h => h) (Or.inl ⟨by rfl, ?_⟩) trivial ?_
    rotate_left
    · intro w _
      go_simp
      try with_reducible rfl
    try simp only [Act.put, List.setIfInBounds_toArray, List.set_cons_zero, List.set_cons_succ]
    refine readyL (i := 16) rfl (by kernel_rfl) (by kernel_rfl) fun K hK => ?_
    go_simp
    refine hK _ _ trivial ?_
    clear hK K
    try simp only [Act.put, List.setIfInBounds_toArray, List.set_cons_zero, List.set_cons_succ]
    refine wpAnyH_done (by kernel_rfl) ?_ _
    have HE := Lib.hid (HB4.out.last hr5 ho5 hg5)
    clear e5 g5 hr5 ho5 hg5 hat5
    go_wp2_with fail
    go_end0
    exact ⟨z1, z2, A5, c5, rfl, hz1, hz2, HE.out⟩
  · go_simp
    refine (keyMark _ _ _).mono ?_
    rintro e w11 ⟨z1, rfl, hz1, hb⟩
    have H11 := Lib.hid (H0.out.below hb)
    clear hb
    simp only []
    refine hK _ _ trivial ?_
    clear hK K
    try simp only [Act.put, List.setIfInBounds_toArray, List.set_cons_zero, List.set_cons_succ]
    refine wpAnyH_ready (rs := [4, 9]) (by kernel_rfl) (by simp) ?_
    refine allL rfl (by kernel_rfl) (fun K hK => ?_) (allL rfl (by kernel_rfl) (fun K hK => ?_) (AllReadyH.nil))
    · have c2 : w11.cell? ⟨p, 0, none⟩ = some (.slice A n c) := H11.out.row.cell 0
      go_simp
      clear c2
      refine hK _ _ trivial ?_
      clear hK K
      try simp only [Act.put, List.setIfInBounds_toArray, List.set_cons_zero, List.set_cons_succ]
      refine readyL (i := 9) rfl (by kernel_rfl) (by kernel_rfl) fun K hK => ?_
      go_simp
      refine (keyMark _ _ _).mono ?_
      rintro e w23 ⟨z2, rfl, hz2, hb⟩
      have H23 := Lib.hid (H11.out.below hb)
      clear hb
      simp only []
      refine hK _ _ trivial ?_
      clear hK K
      try simp only [Act.put, List.setIfInBounds_toArray, List.set_cons_zero, List.set_cons_succ]
      refine takeL (i := 10) (v := .agg (sheetCells (.slice B m d) z1 z2).toArray) rfl (by kernel_rfl) (by kernel_rfl) (by kernel_rfl) (fun _ _ _ h => h) (Or.inl ⟨by rfl, fun w _ => ?_⟩) trivial ?_
      · exact exec_built w _ _ _ rfl (by simp only [List.map_toArray, List.map_cons, List.map_nil]; exact built_sheet B m d z1 z2 hz1 hz2)
      try simp only [Act.put, List.setIfInBounds_toArray, List.set_cons_zero, List.set_cons_succ]
      refine takeL (i := 11) (v := ?_) rfl (by kernel_rfl) (by kernel_rfl) (by kernel_rfl) (fun _ _ _ h => h) (Or.inl ⟨by rfl, ?_⟩) trivial ?_
      rotate_left
      · intro w _
        go_simp
        try with_reducible rfl
      try simp only [Act.put, List.setIfInBounds_toArray, List.set_cons_zero, List.set_cons_succ]
      refine readyL (i := 12) rfl (by kernel_rfl) (by kernel_rfl) fun K hK => ?_
      go_simp
      refine hK _ _ trivial ?_
      clear hK K
      try simp only [Act.put, List.setIfInBounds_toArray, List.set_cons_zero, List.set_cons_succ]
      have HB4 := Lib.hid (H23.out.alloc (.cells [Value.iface 67 (.agg (sheetCells (.slice B m d) z1 z2).toArray)].toArray 69))
      have hsee := (Row.new w23 69 [Value.iface 67 (.agg (sheetCells (.slice B m d) z1 z2).toArray)]).sees0
      have HSEE := Lib.hid hsee
      clear hsee
      refine readyL (i := 13) rfl (by kernel_rfl) (by kernel_rfl) fun K hK => ?_
      refine wp_append_sees (.tmp 11) (.tmp 19) rfl Try.underlying29 HI.out.1 HI.out.2.1 HI.out.2.2.1 HI.out.2.2.2 rfl rfl HB4.out.own rfl HSEE.out (by simp [Value.oneCell']) (by unfold maxLen; omega) (by omega) HB4.out.lt ?_
      intro v5 w5 ho5 hg5 hat5
      obtain ⟨A5, c5, rfl⟩ := own_form ho5
      refine hK _ _ trivial ?_
      clear hK K
      try simp only [Act.put, List.setIfInBounds_toArray, List.set_cons_zero, List.set_cons_succ]
      have hr5 := HB4.out.row.grown hg5 (own_row_ne HB4.out.own HB4.out.row (by decide))
      have e5 : w5.cell? ⟨p, 0, none⟩ = some (.slice A n c) := hr5.cell 0
      have g5 := hr5.frozen 0
      refine takeL (i := 14) (v := ?_) rfl (by kernel_rfl) (by kernel_rfl) (by kernel_rfl) (fun _ _ _ h => h) (Or.inl ⟨by rfl, ?_⟩) trivial ?_
      rotate_left
      · intro w _
        go_simp
        try with_reducible rfl
      try simp only [Act.put, List.setIfInBounds_toArray, List.set_cons_zero, List.set_cons_succ]
      refine takeL (i := 15) (v := ?_) rfl (by kernel_rfl) (by kernel_rfl) (by kernel_rfl) (fun _ _ _ h => h) (Or.inl ⟨by rfl, ?_⟩) trivial ?_
      rotate_left
      · intro w _
        go_simp
        try with_reducible rfl
      try simp only [Act.put, List.setIfInBounds_toArray, List.set_cons_zero, List.set_cons_succ]
      refine readyL (i := 16) rfl (by kernel_rfl) (by kernel_rfl) fun K hK => ?_
      go_simp
      refine hK _ _ trivial ?_
      clear hK K
      try simp only [Act.put, List.setIfInBounds_toArray, List.set_cons_zero, List.set_cons_succ]
      refine wpAnyH_done (by kernel_rfl) ?_ _
      have HE := Lib.hid (HB4.out.last hr5 ho5 hg5)
      clear e5 g5 hr5 ho5 hg5 hat5
      go_wp2_with fail
      go_end0
      exact ⟨z1, z2, A5, c5, rfl, hz1, hz2, HE.out⟩
    · go_simp
      refine (keyMark _ _ _).mono ?_
      rintro e w22 ⟨z2, rfl, hz2, hb⟩
      have H22 := Lib.hid (H11.out.below hb)
      clear hb
      simp only []
      refine hK _ _ trivial ?_
      clear hK K
      try simp only [Act.put, List.setIfInBounds_toArray, List.set_cons_zero, List.set_cons_succ]
      refine takeL (i := 10) (v := .agg (sheetCells (.slice B m d) z1 z2).toArray) rfl (by kernel_rfl) (by kernel_rfl) (by kernel_rfl) (fun _ _ _ h => h) (Or.inl ⟨by rfl, fun w _ => ?_⟩) trivial ?_
      · exact exec_built w _ _ _ rfl (by simp only [List.map_toArray, List.map_cons, List.map_nil]; exact built_sheet B m d z1 z2 hz1 hz2)
      try simp only [Act.put, List.setIfInBounds_toArray, List.set_cons_zero, List.set_cons_succ]
      refine takeL (i := 11) (v := ?_) rfl (by kernel_rfl) (by kernel_rfl) (by kernel_rfl) (fun _ _ _ h => h) (Or.inl ⟨by rfl, ?_⟩) trivial ?_
      rotate_left
      · intro w _
        go_simp
        try with_reducible rfl
      try simp only [Act.put, List.setIfInBounds_toArray, List.set_cons_zero, List.set_cons_succ]
      refine wpAnyH_ready (rs := [4, 12]) (by kernel_rfl) (by simp) ?_
      refine allL rfl (by kernel_rfl) (fun K hK => ?_) (allL rfl (by kernel_rfl) (fun K hK => ?_) (AllReadyH.nil))
      · have c3 : w22.cell? ⟨p, 0, none⟩ = some (.slice A n c) := H22.out.row.cell 0
        go_simp
        clear c3
        refine hK _ _ trivial ?_
        clear hK K
        try simp only [Act.put, List.setIfInBounds_toArray, List.set_cons_zero, List.set_cons_succ]
        refine readyL (i := 12) rfl (by kernel_rfl) (by kernel_rfl) fun K hK => ?_
        go_simp
        refine hK _ _ trivial ?_
        clear hK K
        try simp only [Act.put, List.setIfInBounds_toArray, List.set_cons_zero, List.set_cons_succ]
        have HB4 := Lib.hid (H22.out.alloc (.cells [Value.iface 67 (.agg (sheetCells (.slice B m d) z1 z2).toArray)].toArray 69))
        have hsee := (Row.new w22 69 [Value.iface 67 (.agg (sheetCells (.slice B m d) z1 z2).toArray)]).sees0
        have HSEE := Lib.hid hsee
        clear hsee
        refine readyL (i := 13) rfl (by kernel_rfl) (by kernel_rfl) fun K hK => ?_
        refine wp_append_sees (.tmp 11) (.tmp 19) rfl Try.underlying29 HI.out.1 HI.out.2.1 HI.out.2.2.1 HI.out.2.2.2 rfl rfl HB4.out.own rfl HSEE.out (by simp [Value.oneCell']) (by unfold maxLen; omega) (by omega) HB4.out.lt ?_
        intro v5 w5 ho5 hg5 hat5
        obtain ⟨A5, c5, rfl⟩ := own_form ho5
        refine hK _ _ trivial ?_
        clear hK K
        try simp only [Act.put, List.setIfInBounds_toArray, List.set_cons_zero, List.set_cons_succ]
        have hr5 := HB4.out.row.grown hg5 (own_row_ne HB4.out.own HB4.out.row (by decide))
        have e5 : w5.cell? ⟨p, 0, none⟩ = some (.slice A n c) := hr5.cell 0
        have g5 := hr5.frozen 0
        refine takeL (i := 14) (v := ?_) rfl (by kernel_rfl) (by kernel_rfl) (by kernel_rfl) (fun _ _ _ h => h) (Or.inl ⟨by rfl, ?_⟩) trivial ?_
        rotate_left
        · intro w _
          go_simp
          try with_reducible rfl
        try simp only [Act.put, List.setIfInBounds_toArray, List.set_cons_zero, List.set_cons_succ]
        refine takeL (i := 15) (v := ?_) rfl (by kernel_rfl) (by kernel_rfl) (by kernel_rfl) (fun _ _ _ h => h) (Or.inl ⟨by rfl, ?_⟩) trivial ?_
        rotate_left
        · intro w _
          go_simp
          try with_reducible rfl
        try simp only [Act.put, List.setIfInBounds_toArray, List.set_cons_zero, List.set_cons_succ]
        refine readyL (i := 16) rfl (by kernel_rfl) (by kernel_rfl) fun K hK => ?_
        go_simp
        refine hK _ _ trivial ?_
        clear hK K
        try simp only [Act.put, List.setIfInBounds_toArray, List.set_cons_zero, List.set_cons_succ]
        refine wpAnyH_done (by kernel_rfl) ?_ _
        have HE := Lib.hid (HB4.out.last hr5 ho5 hg5)
        clear e5 g5 hr5 ho5 hg5 hat5
        go_wp2_with fail
        go_end0
        exact ⟨z1, z2, A5, c5, rfl, hz1, hz2, HE.out⟩
      · go_simp
        refine hK _ _ trivial ?_
        clear hK K
        try simp only [Act.put, List.setIfInBounds_toArray, List.set_cons_zero, List.set_cons_succ]
        have HB3 := Lib.hid (H22.out.alloc (.cells [Value.iface 67 (.agg (sheetCells (.slice B m d) z1 z2).toArray)].toArray 69))
        have hsee := (Row.new w22 69 [Value.iface 67 (.agg (sheetCells (.slice B m d) z1 z2).toArray)]).sees0
        have HSEE := Lib.hid hsee
        clear hsee
        refine readyL (i := 4) rfl (by kernel_rfl) (by kernel_rfl) fun K hK => ?_
        have c4 : (w22.alloc (.cells [Value.iface 67 (.agg (sheetCells (.slice B m d) z1 z2).toArray)].toArray 69)).cell? ⟨p, 0, none⟩ = some (.slice A n c) := HB3.out.row.cell 0
        go_simp
        clear c4
        refine hK _ _ trivial ?_
        clear hK K
        try simp only [Act.put, List.setIfInBounds_toArray, List.set_cons_zero, List.set_cons_succ]
        refine readyL (i := 13) rfl (by kernel_rfl) (by kernel_rfl) fun K hK => ?_
        refine wp_append_sees (.tmp 11) (.tmp 19) rfl Try.underlying29 HI.out.1 HI.out.2.1 HI.out.2.2.1 HI.out.2.2.2 rfl rfl HB3.out.own rfl HSEE.out (by simp [Value.oneCell']) (by unfold maxLen; omega) (by omega) HB3.out.lt ?_
        intro v5 w5 ho5 hg5 hat5
        obtain ⟨A5, c5, rfl⟩ := own_form ho5
        refine hK _ _ trivial ?_
        clear hK K
        try simp only [Act.put, List.setIfInBounds_toArray, List.set_cons_zero, List.set_cons_succ]
        have hr5 := HB3.out.row.grown hg5 (own_row_ne HB3.out.own HB3.out.row (by decide))
        have e5 : w5.cell? ⟨p, 0, none⟩ = some (.slice A n c) := hr5.cell 0
        have g5 := hr5.frozen 0
        refine takeL (i := 14) (v := ?_) rfl (by kernel_rfl) (by kernel_rfl) (by kernel_rfl) (fun _ _ _ h => h) (Or.inl ⟨by rfl, ?_⟩) trivial ?_
        rotate_left
        · intro w _
          go_simp
          try with_reducible rfl
        try simp only [Act.put, List.setIfInBounds_toArray, List.set_cons_zero, List.set_cons_succ]
        refine takeL (i := 15) (v := ?_) rfl (by kernel_rfl) (by kernel_rfl) (by kernel_rfl) (fun _ _ _ h => h) (Or.inl ⟨by rfl, ?_⟩) trivial ?_
        rotate_left
        · intro w _
          go_simp
          try with_reducible rfl
        try simp only [Act.put, List.setIfInBounds_toArray, List.set_cons_zero, List.set_cons_succ]
        refine readyL (i := 16) rfl (by kernel_rfl) (by kernel_rfl) fun K hK => ?_
        go_simp
        refine hK _ _ trivial ?_
        clear hK K
        try simp only [Act.put, List.setIfInBounds_toArray, List.set_cons_zero, List.set_cons_succ]
        refine wpAnyH_done (by kernel_rfl) ?_ _
        have HE := Lib.hid (HB3.out.last hr5 ho5 hg5)
        clear e5 g5 hr5 ho5 hg5 hat5
        go_wp2_with fail
        go_end0
        exact ⟨z1, z2, A5, c5, rfl, hz1, hz2, HE.out⟩
end Go.Proofs.Ytkpdjjhkocmfoaa

/-
  Of part Role: what is needed here.
-/
namespace Go.Proofs.Ytkpdjjhkocmfoaa
open Go.RowKit
set_option linter.unusedVariables false
/-- elements of sz cells each that lie below block B -/
structure CsIn (sz : Nat) (w : World) (B : Nat) (A : Option Addr) (n : Nat) (l : List (List Value)) : Prop where
  len : l.length = n
  each : ∀ k ∈ l, k.length = sz
  sees : Sees w B A (n * sz) l.flatten
theorem cs_flat {sz : Nat} : ∀ {l : List (List Value)}, (∀ k ∈ l, k.length = sz) → l.flatten.length = l.length * sz
  | [], _ => by simp
  | y :: r, h => by
    rw [List.flatten_cons, List.length_append, cs_flat (l := r) (fun z hz => h z (List.mem_cons_of_mem _ hz)), h y (by simp), List.length_cons, Nat.add_mul]
    omega
section
variable {sz n B B' : Nat} {w w' : World} {A : Option Addr} {l : List (List Value)}
theorem CsIn.keep (h : CsIn sz w B A n l) (hk : ∀ p : Addr, p.block < B → w'.cell? p = w.cell? p) : CsIn sz w' B A n l := ⟨h.len, h.each, h.sees.keep hk⟩
theorem CsIn.below (h : CsIn sz w B A n l) (hb : Below B w w') : CsIn sz w' B A n l := ⟨h.len, h.each, h.sees.below hb⟩
theorem CsIn.more (h : CsIn sz w B A n l) (hB : B ≤ B') : CsIn sz w B' A n l := ⟨h.len, h.each, h.sees.more hB⟩
theorem CsIn.get (h : CsIn sz w B A n l) {k : Nat} (hk : k < n) (h0 : 0 < sz) : ∃ a x, A = some a ∧ a.block < B ∧ l[k]? = some x ∧ x.length = sz ∧ ∀ j u, x[j]? = some u → w.cell? ((a.add (k * sz)).add j) = some u := by
  obtain ⟨x, hx⟩ : ∃ x, l[k]? = some x := ⟨_, List.getElem?_eq_getElem (by rw [h.len]; exact hk)⟩
  have hxl := h.each x (List.mem_of_getElem? hx)
  have hat := flatten_at sz l k x (fun i y hy => h.each y (List.mem_of_getElem? hy)) hx
  obtain ⟨u0, hu0⟩ : ∃ u, x[0]? = some u := ⟨_, List.getElem?_eq_getElem (by rw [hxl]; exact h0)⟩
  obtain ⟨a, e, hb, _⟩ := h.sees.cell _ _ (hat 0 u0 hu0)
  refine ⟨a, x, e, hb, hx, hxl, fun j u hu => ?_⟩
  obtain ⟨a', e', _, hc⟩ := h.sees.cell _ _ (hat j u hu)
  rw [e] at e'
  cases e'
  rw [addr_add]
  exact hc
theorem CsIn.nil (w : World) (B : Nat) (A : Option Addr) : CsIn sz w B A 0 [] := ⟨rfl, by simp, by rw [Nat.zero_mul]; exact Sees.nil _ _ _⟩
end
theorem csIn_row {sz : Nat} {w : World} {g t : Nat} {l : List (List Value)} {ys : List Value} {n B : Nat} (hr : Row w g t (l.flatten ++ ys)) (hn : l.length = n) (h : ∀ k ∈ l, k.length = sz) (hB : g < B) : CsIn sz w B (some ⟨g, 0, none⟩) n l :=
  ⟨hn, h, ⟨by rw [cs_flat h, hn], fun i u hu => ⟨_, rfl, hB, by
    rw [addr_row, hr.cell, Nat.zero_add, List.getElem?_append_left (List.getElem?_eq_some_iff.1 hu).1]
    exact hu⟩⟩⟩
theorem csIn_own {sz : Nat} {w : World} {base c n : Nat} {e : TypeId} {A : Option Addr} {l : List (List Value)} (h : w.ownsRow base e sz (.slice A n c) n l.flatten) (hn : l.length = n) (he : ∀ k ∈ l, k.length = sz) (h0 : 0 < sz) : CsIn sz w w.heap.size A n l := by
  refine ⟨hn, he, by rw [cs_flat he, hn], fun i u hu => ?_⟩
  have hl : i < l.flatten.length := (List.getElem?_eq_some_iff.1 hu).1
  rw [cs_flat he, hn] at hl
  rcases h.2 with ⟨hv, rfl⟩ | ⟨g, cap, cur, hv, hg, hh, _, _, hsz, htk⟩
  · rw [Nat.zero_mul] at hl; omega
  · have hA : A = some ⟨g, 0, none⟩ := by injection hv
    subst hA
    exact ⟨_, rfl, (Array.getElem?_eq_some_iff.1 hh).1, h.cells (g := g) rfl i u hu⟩
/-- so many of one -/
def rowOf (n : Nat) (z : List Value) : List Value := (List.replicate n z).flatten
theorem rowOf_len {sz : Nat} (n : Nat) {z : List Value} (hz : z.length = sz) : (rowOf n z).length = n * sz := by
  unfold rowOf
  rw [cs_flat (sz := sz) (fun k hk => by rw [List.eq_of_mem_replicate hk, hz]), List.length_replicate]
theorem rowOf_succ (k : Nat) (z : List Value) : rowOf (k + 1) z = rowOf k z ++ z := by
  unfold rowOf
  rw [List.replicate_succ', List.flatten_append]
  simp
theorem rowOf_cell {sz n k : Nat} {z : List Value} (hz : z.length = sz) (hk : k < n) {j : Nat} {v : Value} (hv : z[j]? = some v) : (rowOf n z)[k * sz + j]? = some v :=
  flatten_at sz (List.replicate n z) k z (fun i y hy => by
    have := List.mem_of_getElem? hy
    rw [List.eq_of_mem_replicate this, hz]) (by rw [List.getElem?_replicate_of_lt hk]) j v hv
/-- a role -/
structure LRole where
  key : List Int
  sg : Bool
  wr : Bool
theorem LRole.ext_iff' {a b : LRole} : a = b ↔ a.key = b.key ∧ a.sg = b.sg ∧ a.wr = b.wr := by
  obtain ⟨x, y, z⟩ := a
  obtain ⟨x', y', z'⟩ := b
  constructor
  · rintro h
    cases h
    exact ⟨rfl, rfl, rfl⟩
  · rintro ⟨h1, h2, h3⟩
    simp only at h1 h2 h3
    rw [h1, h2, h3]
instance : DecidableEq LRole := fun a b => decidable_of_iff (a.key = b.key ∧ a.sg = b.sg ∧ a.wr = b.wr) LRole.ext_iff'.symm
def LRole.cells (r : LRole) : List Value := bv r.key ++ [.bool r.sg, .bool r.wr]
/-- a role whose key has 32 bytes -/
def RoleOk (r : LRole) : Prop := r.key.length = 32 ∧ AllBytes r.key
theorem role_len {r : LRole} (h : r.key.length = 32) : r.cells.length = 34 := by simp [LRole.cells, bv_length, h]
theorem role_one (r : LRole) : ∀ u ∈ r.cells, u.oneCell' = true := by
  intro u hu
  rcases List.mem_append.1 hu with hu | hu
  · exact bv_one _ _ hu
  · simp only [List.mem_cons, List.not_mem_nil, or_false] at hu
    rcases hu with rfl | rfl <;> rfl
theorem role_sg {r : LRole} (h : r.key.length = 32) : r.cells[32]? = some (.bool r.sg) := by
  unfold LRole.cells
  rw [List.getElem?_append_right (by rw [bv_length, h]; omega), bv_length, h]
  rfl
theorem role_wr {r : LRole} (h : r.key.length = 32) : r.cells[33]? = some (.bool r.wr) := by
  unfold LRole.cells
  rw [List.getElem?_append_right (by rw [bv_length, h]; omega), bv_length, h]
  rfl
theorem role_key {r : LRole} {j : Nat} {u : Value} (h : (bv r.key)[j]? = some u) : r.cells[j]? = some u := by
  unfold LRole.cells
  rw [List.getElem?_append_left (List.getElem?_eq_some_iff.1 h).1]
  exact h
theorem size_role {r : LRole} (h : r.key.length = 32) : (Try.prog.info? 48).map (·.size) = some r.cells.length := by
  rw [role_len h]
  kernel_rfl
theorem run_part_key (xs : Array Value) (off : Nat) (w : World) : (part 46 xs off).run Try.prog w = .ok (.agg (xs.extract off (off + 32))) w := by
  have h1 : (isAgg 46).run Try.prog w = .ok true w := by kernel_rfl
  simp [part, h1]
theorem run_part_bool (xs : Array Value) (off : Nat) (w : World) {v : Value} (h : xs[off]? = some v) : (part 4 xs off).run Try.prog w = .ok v w :=
  run_part_plain (P := Try.prog) w (by kernel_rfl) h
theorem eqItems_at (d : Nat) (x y : List Int) (w : World) : ∀ (is : List Nat), (∀ i ∈ is, i < x.length ∧ i < y.length) → (Op.eqItems (d + 1) 5 1 (bv x).toArray (bv y).toArray is).run Try.prog w = .ok (same32 x y is) w
  | [], _ => by simp [Op.eqItems, same32]
  | i :: is, h => by
    have hi := h i (by simp)
    have hc : (bv x).toArray[i]? = some (.int .u8 (x.getD i 0)) := by
      rw [List.getElem?_toArray]
      exact bv_at hi.1
    have hd : (bv y).toArray[i]? = some (.int .u8 (y.getD i 0)) := by
      rw [List.getElem?_toArray]
      exact bv_at hi.2
    have p := run_part_plain (P := Try.prog) w plainU8 (xs := (bv x).toArray) (off := i) hc
    have p2 := run_part_plain (P := Try.prog) w plainU8 (xs := (bv y).toArray) (off := i) hd
    have ih := eqItems_at d x y w is fun k hk => h k (by simp [hk])
    simp only [Op.eqItems, Nat.mul_one, Sem.run_bind, p, p2, Result.andThen_ok, run_equalIn_int w d 5 .u8 .u8 _ _ Try.underlying5]
    cases hb : (x.getD i 0 == y.getD i 0)
    · have : same32 x y (i :: is) = false := by simp only [same32, List.all_cons, hb, Bool.false_and]
      rw [this]
      simp
    · have : same32 x y (i :: is) = same32 x y is := by simp only [same32, List.all_cons, hb, Bool.true_and]
      rw [this]
      simpa using ih
theorem keys_eqIn (d : Nat) {x y : List Int} (hx : x.length = 32) (hy : y.length = 32) (w : World) :
    (Op.equalIn (d + 1 + 1) 46 (.agg (bv x).toArray) (.agg (bv y).toArray)).run Try.prog w = .ok (decide (x = y)) w := by
  obtain ⟨i, hi⟩ := infoU8
  rw [run_equalIn_array w (d + 1) _ _ Try.underlying46 hi, cellsOfU8, eqItems_at d x y w _ (fun i hi => by simp at hi; omega), same32_iff hx hy]
theorem role_keyAt {r : LRole} (h : r.key.length = 32) : r.cells.toArray.extract 0 (0 + 32) = (bv r.key).toArray := by
  apply Array.ext'
  unfold LRole.cells
  rw [Array.toList_extract]
  simp [List.extract, bv_length, h]
theorem keys_eq9 {x y : List Int} (hx : x.length = 32) (hy : y.length = 32) (w : World) (d : Nat) (hd : d = 9997) :
    (Op.equalIn 9999 46 (.agg (bv x).toArray) (.agg (bv y).toArray)).run Try.prog w = .ok (decide (x = y)) w := by
  have h := keys_eqIn d hx hy w
  subst hd
  exact h
theorem bool_eq9 (a b : Bool) (w : World) : (Op.equalIn 9999 4 (.bool a) (.bool b)).run Try.prog w = .ok (a == b) w := by
  have := run_equalIn_bool w 9998 4 a b Try.underlying4
  rwa [show (9998 + 1 : Nat) = 9999 from rfl] at this
theorem role_held : Try.prog.stoodInHeld 48 = false := by kernel_rfl
theorem role_under : Try.prog.underlying 48 = some (.struct (Try.prog.fieldsOf 48)) := by kernel_rfl
/-- the fields, one behind the other -/
theorem role_fields (X Y : Array Value) (w : World) {a b : Value} {s s' v v' c : Bool} (pa : (part 46 X 0).run Try.prog w = .ok a w) (pb : (part 46 Y 0).run Try.prog w = .ok b w)
    (ps : (part 4 X 32).run Try.prog w = .ok (.bool s) w) (ps' : (part 4 Y 32).run Try.prog w = .ok (.bool s') w) (pv : (part 4 X 33).run Try.prog w = .ok (.bool v) w) (pv' : (part 4 Y 33).run Try.prog w = .ok (.bool v') w)
    (hk : (Op.equalIn 9999 46 a b).run Try.prog w = .ok c w) : (Op.eqFields 9999 X Y (Try.prog.fieldsOf 48).toList).run Try.prog w = .ok (c && (s == s') && (v == v')) w := by
  simp only [Program.fieldsOf, Try.underlying48]
  have hb := bool_eq9
  simp only [Op.eqFields, ne_eq, String.reduceEq, not_false_eq_true, if_true, Sem.run_bind, pa, pb, Result.andThen_ok, hk]
  cases c
  · simp
  · simp only [Bool.not_true, Bool.false_eq_true, if_false, ps, ps', Sem.run_bind, Result.andThen_ok, hb]
    cases hs : (s == s')
    · simp
    · simp only [Bool.not_true, Bool.false_eq_true, if_false, pv, pv', Sem.run_bind, Result.andThen_ok, hb]
      cases hv : (v == v') <;> simp
theorem roles_eqIn {x y : LRole} (hx : x.key.length = 32) (hy : y.key.length = 32) (w : World) :
    (Op.equalIn 10000 48 (.agg x.cells.toArray) (.agg y.cells.toArray)).run Try.prog w = .ok (decide (x = y)) w := by
  have px1 := run_part_key x.cells.toArray 0 w
  have py1 := run_part_key y.cells.toArray 0 w
  rw [role_keyAt hx] at px1
  rw [role_keyAt hy] at py1
  have px2 := run_part_bool x.cells.toArray 32 w (v := .bool x.sg) (by rw [List.getElem?_toArray]; exact role_sg hx)
  have py2 := run_part_bool y.cells.toArray 32 w (v := .bool y.sg) (by rw [List.getElem?_toArray]; exact role_sg hy)
  have px3 := run_part_bool x.cells.toArray 33 w (v := .bool x.wr) (by rw [List.getElem?_toArray]; exact role_wr hx)
  have py3 := run_part_bool y.cells.toArray 33 w (v := .bool y.wr) (by rw [List.getElem?_toArray]; exact role_wr hy)
  rw [show (10000 : Nat) = 9999 + 1 from rfl, run_equalIn_struct w 9999 48 _ _ role_under role_held, role_fields _ _ w px1 py1 px2 py2 px3 py3 (keys_eq9 hx hy w _ rfl)]
  congr 1
  rw [Bool.eq_iff_iff, Bool.and_eq_true, Bool.and_eq_true, decide_eq_true_iff, decide_eq_true_iff, beq_iff_eq, beq_iff_eq, LRole.ext_iff', and_assoc]
theorem role_neq {x y : LRole} (hx : x.key.length = 32) (hy : y.key.length = 32) (w : World) : (binOp .neq 48 (.agg x.cells.toArray) (.agg y.cells.toArray)).run Try.prog w = .ok (.bool (!decide (x = y))) w := by
  rw [run_neq_struct, roles_eqIn hx hy]
  rfl
/-- roles that lie below block B -/
structure RolesIn (w : World) (B : Nat) (A : Option Addr) (n : Nat) (l : List LRole) : Prop where
  cs : CsIn 34 w B A n (l.map LRole.cells)
  ok : ∀ r ∈ l, RoleOk r
section
variable {n B B' : Nat} {w w' : World} {A : Option Addr} {l : List LRole}
theorem RolesIn.len (h : RolesIn w B A n l) : l.length = n := by have := h.cs.len; rwa [List.length_map] at this
theorem RolesIn.keep (h : RolesIn w B A n l) (hk : ∀ p : Addr, p.block < B → w'.cell? p = w.cell? p) : RolesIn w' B A n l := ⟨h.cs.keep hk, h.ok⟩
theorem RolesIn.below (h : RolesIn w B A n l) (hb : Below B w w') : RolesIn w' B A n l := ⟨h.cs.below hb, h.ok⟩
theorem RolesIn.more (h : RolesIn w B A n l) (hB : B ≤ B') : RolesIn w B' A n l := ⟨h.cs.more hB, h.ok⟩
theorem RolesIn.get (h : RolesIn w B A n l) {k : Nat} (hk : k < n) : ∃ a r, A = some a ∧ a.block < B ∧ l[k]? = some r ∧ RoleOk r ∧ ∀ j u, r.cells[j]? = some u → w.cell? ((a.add (k * 34)).add j) = some u := by
  obtain ⟨a, x, e, hb, hx, _, hc⟩ := h.cs.get hk (by omega)
  rw [List.getElem?_map] at hx
  obtain ⟨r, hr, rfl⟩ := Option.map_eq_some_iff.1 hx
  exact ⟨a, r, e, hb, hr, h.ok r (List.mem_of_getElem? hr), hc⟩
theorem RolesIn.nil (w : World) (B : Nat) (A : Option Addr) : RolesIn w B A 0 [] := ⟨CsIn.nil _ _ _, by simp⟩
end
theorem roles_each {l : List LRole} (h : ∀ r ∈ l, RoleOk r) : ∀ k ∈ l.map LRole.cells, k.length = 34 := fun k hk => by
  obtain ⟨r, hr, rfl⟩ := List.mem_map.1 hk
  exact role_len (h r hr).1
theorem roles_own {w : World} {base c n : Nat} {e : TypeId} {A : Option Addr} {l : List LRole} (h : w.ownsRow base e 34 (.slice A n c) n (l.map LRole.cells).flatten) (hn : l.length = n) (he : ∀ r ∈ l, RoleOk r) : RolesIn w w.heap.size A n l :=
  ⟨csIn_own h (by rw [List.length_map, hn]) (roles_each he) (by omega), he⟩
theorem roles_row {w : World} {g t : Nat} {l : List LRole} {ys : List Value} {n B : Nat} (hr : Row w g t ((l.map LRole.cells).flatten ++ ys)) (hn : l.length = n) (he : ∀ r ∈ l, RoleOk r) (hB : g < B) : RolesIn w B (some ⟨g, 0, none⟩) n l :=
  ⟨csIn_row hr (by rw [List.length_map, hn]) (roles_each he) hB, he⟩
/-- the zero role -/
def r0 : LRole := ⟨List.replicate 32 0, false, false⟩
def zR : Value := .agg r0.cells.toArray
theorem infoR : (Try.prog.info? 48).map (fun i => (i.zero, i.size, i.bytes)) = some (some zR, 34, 34) := by kernel_rfl
end Go.Proofs.Ytkpdjjhkocmfoaa

/-
  Of part SheetR: what is needed here.
-/
namespace Go.Proofs.Ytkpdjjhkocmfoaa
open Go.RowKit
set_option linter.unusedVariables false
/-- an element, as cells -/
structure IsR (h : List Value) : Prop where
  len : h.length = 34
  one : ∀ u ∈ h, u.oneCell' = true
  neq : ∀ w, (binOp .neq 48 (.agg h.toArray) (.agg h.toArray)).run Try.prog w = .ok (.bool false) w
  size : (Try.prog.info? 48).map (·.size) = some h.length
/-- a page's cells: its list, its two signs -/
def sheetC (l : Value) (h f : List Value) : List Value := l :: (h ++ f)
theorem rowSetR {k : Nat} {z : List Value} (hz : z.length = 34) (xs ys : List Value) (hys : (k + 1) * 34 ≤ ys.length) :
    (xs ++ (rowOf k z ++ ys.drop (k * 34))).take (xs.length + k * 34) ++ z ++ (xs ++ (rowOf k z ++ ys.drop (k * 34))).drop (xs.length + k * 34 + z.length) = xs ++ (rowOf (k + 1) z ++ ys.drop ((k + 1) * 34)) := by
  have hl := rowOf_len k hz
  have hl2 : (xs ++ rowOf k z).length = xs.length + k * 34 := by rw [List.length_append, hl]
  have e2 : xs.length + k * 34 + z.length = (xs ++ rowOf k z).length + 34 := by rw [hl2, hz]
  rw [← List.append_assoc, List.take_left' hl2, e2, List.drop_length_add_append, List.drop_drop, rowOf_succ, show k * 34 + 34 = (k + 1) * 34 by omega]
  simp only [List.append_assoc]
theorem sheet_hereR {w : World} {g t : Nat} {l : Value} {h f : List Value} (hr : Row w g t (sheetC l h f)) (hh : h.length = 34) : ∀ j v, h[j]? = some v → w.cell? ((⟨g, 1, none⟩ : Addr).add j) = some v := fun j v hv => by
  have hj := (List.getElem?_eq_some_iff.1 hv).1
  rw [addr_row, hr.cell, show 1 + j = j + 1 by omega]
  show (h ++ f)[j]? = _
  rw [List.getElem?_append_left hj]
  exact hv
theorem sheet_farR {w : World} {g t : Nat} {l : Value} {h f : List Value} (hr : Row w g t (sheetC l h f)) (hh : h.length = 34) : ∀ j v, f[j]? = some v → w.cell? ((⟨g, 35, none⟩ : Addr).add j) = some v := fun j v hv => by
  rw [addr_row, hr.cell, show 35 + j = (34 + j) + 1 by omega]
  show (h ++ f)[34 + j]? = _
  rw [List.getElem?_append_right (by omega), hh, show 34 + j - 34 = j by omega]
  exact hv
set_option maxHeartbeats 800000 in
theorem signR_false (g n c : Nat) (h f : List Value) (xs : List Value) (w : World) (hr : Row w g 48 xs) (hl : xs.length = c * 34) (hnc : n ≤ c) (hc : c ≤ 9223372036854775807) (hh : IsR h) (hf : IsR f) :
    Calls Try.prog 57 #[.agg (sheetC (.slice (some ⟨g, 0, none⟩) n c) h f).toArray, .bool false] w fun e w' => e = .returned (.tuple #[]) ∧ Row w' g 48 (rowOf n h ++ xs.drop (n * 34)) ∧ w.grownBy w' (some g) := by
  have hlt := hr.lt
  have HL := Lib.hid hl
  have HH := Lib.hid (And.intro hh hf)
  have R := Lib.hid (hr.alloc (.cells (sheetC (.slice (some ⟨g, 0, none⟩) n c) h f).toArray 65))
  have HB := Lib.hid (Row.new w 65 (sheetC (.slice (some ⟨g, 0, none⟩) n c) h f))
  have G0 := World.grownBy_alloc w (.cells (sheetC (.slice (some ⟨g, 0, none⟩) n c) h f).toArray 65) (some g)
  clear hr hl hh hf
  generalize hC : (sheetC (.slice (some ⟨g, 0, none⟩) n c) h f).toArray = C at *
  go_enter Try.func57, Try.ntmps57
  go_wp2_with fail
  go_loopw [4] (fun i wr => ∃ k : Nat, k ≤ n ∧ i = .int .i64 k ∧ Row wr g 48 (rowOf k h ++ xs.drop (k * 34)) ∧ Row wr w.heap.size 65 (sheetC (.slice (some ⟨g, 0, none⟩) n c) h f) ∧ w.grownBy wr (some g)) (fun i _ => n - (intOf i).toNat)
  case atStart => exact ⟨0, Nat.zero_le _, rfl, by simpa [rowOf] using R.out, hC ▸ HB.out, G0⟩
  case round =>
    obtain ⟨k, hk, rfl, hr, hb, hg⟩ := hrel
    clear R HB G0
    have RR := Lib.hid hr
    have RB := Lib.hid hb
    have GG := Lib.hid hg
    have b0 : wr.cell? ⟨w.heap.size, 0, none⟩ = some (.slice (some ⟨g, 0, none⟩) n c) := hb.cell 0
    clear hr hb hg
    by_cases hlt2 : k < n
    · go_wp2_with (first
        | ((with_reducible show wpList _ _ _ ({ dst := some 20, op := Op.load _ _, type := _, pos := _, after := _, guard := _ } :: _) _ _); go_must (refine wpList_load_at rfl 48 (.tmp 19) rfl ⟨w.heap.size, 1, none⟩ h _ Try.underlying48 rfl (HH.out.1.size) (sheet_hereR RB.out HH.out.1.len) ?_ ?_; go_simp))
        | ((with_reducible show wpList _ _ _ ({ dst := none, op := Op.store 48 _ _, type := _, pos := _, after := _, guard := _ } :: _) _ _); go_must (refine wpList_store_part rfl 48 (.tmp 21) (.tmp 20) rfl g 48 (k * 34) _ h RR.out (HH.out.1.size) (by have := HL.out; have := rowOf_len k HH.out.1.len; rw [List.length_append, List.length_drop, HH.out.1.len]; omega) HH.out.1.one ?_ ?_ ?_; go_simp; go_simp; intro w2 hr2 ht2; have HR2 := Lib.hid hr2; have HT2 := Lib.hid ht2; clear hr2 ht2)))
      go_roundw
      case rel =>
        refine ⟨k + 1, by omega, by go_num, ?_, HT2.out.row RB.out (by omega), grown_trans GG.out ⟨HT2.out.os, HT2.out.tape, HT2.out.output, by rw [HT2.out.size]; exact Nat.le_refl _, fun q hq hne => HT2.out.block q (fun e => hne (by rw [e]))⟩⟩
        have := HR2.out
        have e := rowSetR (k := k) HH.out.1.len [] xs (by have := HL.out; omega)
        simp only [List.nil_append, List.length_nil, Nat.zero_add] at e
        rwa [e] at this
      case measure => simp [intOf]; omega
    · have hk' : k = n := by omega
      have R2 : Hid (Row wr g 48 (rowOf n h ++ xs.drop (n * 34))) := by rw [← hk']; exact RR.out
      clear hk' RR
      go_wp2_with fail
      refine bodyPost_ret (results_none rfl _ _ _) rfl ?_
      exact ⟨rfl, R2.out, GG.out⟩
set_option maxHeartbeats 800000 in
theorem signR_true (g n c : Nat) (h f : List Value) (xs ys : List Value) (w : World) (hr : Row w g 48 (xs ++ ys)) (hn : xs.length = n * 34) (hl : ys.length = (c - n) * 34) (hnc : n ≤ c) (hc : c ≤ 9223372036854775807) (hh : IsR h) (hf : IsR f) :
    Calls Try.prog 57 #[.agg (sheetC (.slice (some ⟨g, 0, none⟩) n c) h f).toArray, .bool true] w fun e w' => e = .returned (.tuple #[]) ∧ Row w' g 48 (xs ++ rowOf (c - n) f) ∧ w.grownBy w' (some g) := by
  have hlt := hr.lt
  have HL := Lib.hid hl
  have HN := Lib.hid hn
  have HH := Lib.hid (And.intro hh hf)
  have R := Lib.hid (hr.alloc (.cells (sheetC (.slice (some ⟨g, 0, none⟩) n c) h f).toArray 65))
  have hB := Row.new w 65 (sheetC (.slice (some ⟨g, 0, none⟩) n c) h f)
  have HB := Lib.hid hB
  have G0 := World.grownBy_alloc w (.cells (sheetC (.slice (some ⟨g, 0, none⟩) n c) h f).toArray 65) (some g)
  have b0 : (w.alloc (.cells (sheetC (.slice (some ⟨g, 0, none⟩) n c) h f).toArray 65)).cell? ⟨w.heap.size, 0, none⟩ = some (.slice (some ⟨g, 0, none⟩) n c) := hB.cell 0
  clear hr hl hn hh hf hB
  generalize hC : (sheetC (.slice (some ⟨g, 0, none⟩) n c) h f).toArray = C at *
  go_enter Try.func57, Try.ntmps57
  go_wp2_with fail
  go_loopw [6] (fun i wr => ∃ k : Nat, n + k ≤ c ∧ i = .int .i64 ((n + k : Nat) : Int) ∧ Row wr g 48 (xs ++ (rowOf k f ++ ys.drop (k * 34))) ∧ Row wr w.heap.size 65 (sheetC (.slice (some ⟨g, 0, none⟩) n c) h f) ∧ w.grownBy wr (some g)) (fun i _ => c - (intOf i).toNat)
  case atStart => exact ⟨0, by omega, rfl, by simpa [rowOf] using R.out, hC ▸ HB.out, G0⟩
  case round =>
    obtain ⟨k, hk, rfl, hr, hb, hg⟩ := hrel
    clear R HB G0
    have RR := Lib.hid hr
    have RB := Lib.hid hb
    have GG := Lib.hid hg
    clear hr hb hg b0
    by_cases hlt2 : n + k < c
    · generalize hj : n + k = j at *
      have HJ := Lib.hid hj
      clear hj
      go_wp2_with (first
        | ((with_reducible show wpList _ _ _ ({ dst := some 40, op := Op.load _ _, type := _, pos := _, after := _, guard := _ } :: _) _ _); go_must (refine wpList_load_at rfl 48 (.tmp 39) rfl ⟨w.heap.size, 35, none⟩ f _ Try.underlying48 rfl (HH.out.2.size) (sheet_farR RB.out HH.out.1.len) ?_ ?_; go_simp))
        | ((with_reducible show wpList _ _ _ ({ dst := none, op := Op.store 48 _ _, type := _, pos := _, after := _, guard := _ } :: _) _ _); go_must (refine wpList_store_part rfl 48 (.tmp 41) (.tmp 40) rfl g 48 (j * 34) _ f RR.out (HH.out.2.size) (by have := HL.out; have := HN.out; have := HJ.out; have := rowOf_len k HH.out.2.len; simp only [List.length_append, List.length_drop, HH.out.2.len]; omega) HH.out.2.one ?_ ?_ ?_; go_simp; go_simp; intro w2 hr2 ht2; have HR2 := Lib.hid hr2; have HT2 := Lib.hid ht2; clear hr2 ht2)))
      go_roundw
      case rel =>
        refine ⟨k + 1, by have := HJ.out; omega, by rw [← HJ.out]; go_num, ?_, HT2.out.row RB.out (by omega), grown_trans GG.out ⟨HT2.out.os, HT2.out.tape, HT2.out.output, by rw [HT2.out.size]; exact Nat.le_refl _, fun q hq hne => HT2.out.block q (fun e => hne (by rw [e]))⟩⟩
        have := HR2.out
        have e := rowSetR (k := k) HH.out.2.len xs ys (by have := HL.out; have := HJ.out; omega)
        rw [show xs.length + k * 34 = j * 34 by have := HN.out; have := HJ.out; omega] at e
        rwa [e] at this
      case measure => simp [intOf]; omega
    · have hk' : k = c - n := by omega
      have R2 : Hid (Row wr g 48 (xs ++ rowOf (c - n) f)) := by
        have := RR.out
        rw [hk', List.drop_of_length_le (by have := HL.out; omega), List.append_nil] at this
        exact this
      have hj2 : ¬ (((n + k : Nat) : Int) < (c : Int)) := by omega
      clear hk' RR
      generalize n + k = j at *
      go_wp2_with fail
      go_end0
      exact ⟨rfl, R2.out, GG.out⟩
set_option maxHeartbeats 1000000 in
theorem ownR_true (g n c : Nat) (h f : List Value) (w : World) (hr : Row w g 48 (rowOf n h ++ rowOf (c - n) f)) (hnc : n ≤ c) (hc : c ≤ 9223372036854775807) (hh : IsR h) (hf : IsR f) :
    Calls Try.prog 56 #[.agg (sheetC (.slice (some ⟨g, 0, none⟩) n c) h f).toArray] w fun e w' => e = .returned (.bool true) ∧ w.grownBy w' none := by
  have hlt := hr.lt
  have HH := Lib.hid (And.intro hh hf)
  have R0 := Lib.hid (hr.alloc (.cells (sheetC (.slice (some ⟨g, 0, none⟩) n c) h f).toArray 65))
  have HB := Lib.hid (Row.new w 65 (sheetC (.slice (some ⟨g, 0, none⟩) n c) h f))
  have b0 : (w.alloc (.cells (sheetC (.slice (some ⟨g, 0, none⟩) n c) h f).toArray 65)).cell? ⟨w.heap.size, 0, none⟩ = some (.slice (some ⟨g, 0, none⟩) n c) := HB.out.cell 0
  have G0 := World.grownBy_alloc w (.cells (sheetC (.slice (some ⟨g, 0, none⟩) n c) h f).toArray 65) none
  have NH := fun w => hh.neq w
  have NF := fun w => hf.neq w
  have C1 : Hid (∀ k, k < n → ∀ j v, h[j]? = some v → (w.alloc (.cells (sheetC (.slice (some ⟨g, 0, none⟩) n c) h f).toArray 65)).cell? ((⟨g, k * 34, none⟩ : Addr).add j) = some v) := Lib.hid fun k hk j v hv => by
    rw [addr_row, R0.out.cell, List.getElem?_append_left (by rw [rowOf_len n hh.len]; have := (List.getElem?_eq_some_iff.1 hv).1; rw [hh.len] at this; omega)]
    exact rowOf_cell hh.len hk hv
  have C2 : Hid (∀ k, k < c - n → ∀ j v, f[j]? = some v → (w.alloc (.cells (sheetC (.slice (some ⟨g, 0, none⟩) n c) h f).toArray 65)).cell? ((⟨g, (n + k) * 34, none⟩ : Addr).add j) = some v) := Lib.hid fun k hk j v hv => by
    rw [addr_row, R0.out.cell, List.getElem?_append_right (by rw [rowOf_len n hh.len]; omega), rowOf_len n hh.len, show (n + k) * 34 + j - n * 34 = k * 34 + j by omega]
    exact rowOf_cell hf.len hk hv
  have C3 : Hid (∀ j v, h[j]? = some v → (w.alloc (.cells (sheetC (.slice (some ⟨g, 0, none⟩) n c) h f).toArray 65)).cell? ((⟨w.heap.size, 1, none⟩ : Addr).add j) = some v) := Lib.hid (sheet_hereR HB.out hh.len)
  have C4 : Hid (∀ j v, f[j]? = some v → (w.alloc (.cells (sheetC (.slice (some ⟨g, 0, none⟩) n c) h f).toArray 65)).cell? ((⟨w.heap.size, 35, none⟩ : Addr).add j) = some v) := Lib.hid (sheet_farR HB.out hh.len)
  have SH := Lib.hid (hh.size)
  have SF := Lib.hid (hf.size)
  clear hr hh hf R0 HB HH
  generalize hC : (sheetC (.slice (some ⟨g, 0, none⟩) n c) h f).toArray = C at *
  clear hC
  go_enter Try.func56, Try.ntmps56
  go_wp2_with fail
  generalize w.alloc (.cells C 65) = W at *
  go_loopw [3] (fun i wr => ∃ k j : Nat, k ≤ n ∧ i = .int .i64 k ∧ wr = W.drewN j) (fun i _ => n - (intOf i).toNat)
  case atStart => exact ⟨0, 0, Nat.zero_le _, rfl, rfl⟩
  case round =>
    obtain ⟨k, j, hk, rfl, rfl⟩ := hrel
    by_cases hlt2 : k < n
    · go_wp2_with fail
      refine wp_region_quiet_lit (by kernel_rfl) (by kernel_rfl) ?_
      repeat (first
        | ((with_reducible show wpQuiet _ _ _ _ ({ dst := some 17, op := Op.load _ _, type := _, pos := _, after := _, guard := _ } :: _) _); go_must (refine quiet_load_at (by kernel_rfl) 48 (.tmp 16) rfl ⟨g, k * 34, none⟩ h _ Try.underlying48 rfl SH.out (by rintro _ ⟨nq, rfl⟩; exact C1.out k hlt2) ?_ ?_; go_simp; go_simp))
        | ((with_reducible show wpQuiet _ _ _ _ ({ dst := some 19, op := Op.load _ _, type := _, pos := _, after := _, guard := _ } :: _) _); go_must (refine quiet_load_at (by kernel_rfl) 48 (.tmp 18) rfl ⟨w.heap.size, 1, none⟩ h _ Try.underlying48 rfl SH.out (by rintro _ ⟨nq, rfl⟩; exact C3.out) ?_ ?_; go_simp; go_simp))
        | go_big_quiet_step (fail))
      refine wpQuiet_nil ?_
      intro nq
      go_wp2_with fail
      go_roundw
      case rel => exact ⟨k + 1, j + nq, by omega, by go_num, by simp⟩
      case measure => simp [intOf]; omega
    · go_wp2_with fail
      go_loopw [5] (fun i wr => ∃ k j : Nat, n + k ≤ c ∧ i = .int .i64 ((n + k : Nat) : Int) ∧ wr = W.drewN j) (fun i _ => c - (intOf i).toNat)
      case atStart => exact ⟨0, j, by omega, rfl, rfl⟩
      case round =>
        obtain ⟨k, j, hk, rfl, rfl⟩ := hrel
        by_cases hlt2 : n + k < c
        · have C2k := Lib.hid (C2.out k (by omega))
          generalize hjj : n + k = t at *
          have HJ := Lib.hid hjj
          clear hjj
          go_wp2_with fail
          refine wp_region_quiet_lit (by kernel_rfl) (by kernel_rfl) ?_
          repeat (first
            | ((with_reducible show wpQuiet _ _ _ _ ({ dst := some 39, op := Op.load _ _, type := _, pos := _, after := _, guard := _ } :: _) _); go_must (refine quiet_load_at (by kernel_rfl) 48 (.tmp 38) rfl ⟨g, t * 34, none⟩ f _ Try.underlying48 rfl SF.out (by rintro _ ⟨nq, rfl⟩; exact C2k.out) ?_ ?_; go_simp; go_simp))
            | ((with_reducible show wpQuiet _ _ _ _ ({ dst := some 41, op := Op.load _ _, type := _, pos := _, after := _, guard := _ } :: _) _); go_must (refine quiet_load_at (by kernel_rfl) 48 (.tmp 40) rfl ⟨w.heap.size, 35, none⟩ f _ Try.underlying48 rfl SF.out (by rintro _ ⟨nq, rfl⟩; exact C4.out) ?_ ?_; go_simp; go_simp))
            | go_big_quiet_step (fail))
          refine wpQuiet_nil ?_
          intro nq
          go_wp2_with fail
          go_roundw
          case rel => exact ⟨k + 1, j + nq, by have := HJ.out; omega, by rw [← HJ.out]; go_num, by simp⟩
          case measure => simp [intOf]; omega
        · have hj2 : ¬ (((n + k : Nat) : Int) < (c : Int)) := by omega
          generalize n + k = t at *
          go_wp2_with fail
          go_ret
          exact ⟨rfl, grown_trans G0 ⟨rfl, rfl, rfl, Nat.le_refl _, fun _ _ _ => rfl⟩⟩
set_option maxHeartbeats 400000 in
theorem signR_nil (b : Bool) (h f : List Value) (w : World) :
    Calls Try.prog 57 #[.agg (sheetC (.slice none 0 0) h f).toArray, .bool b] w fun e w' => e = .returned (.tuple #[]) ∧ w.grownBy w' none := by
  have G0 := World.grownBy_alloc w (.cells (sheetC (.slice none 0 0) h f).toArray 65) none
  have b0 : (w.alloc (.cells (sheetC (.slice none 0 0) h f).toArray 65)).cell? ⟨w.heap.size, 0, none⟩ = some (.slice none 0 0) := (Row.new w 65 (sheetC (.slice none 0 0) h f)).cell 0
  generalize (sheetC (.slice none 0 0) h f).toArray = C at *
  cases b
  · go_enter Try.func57, Try.ntmps57
    go_wp2
    go_loop [4] (fun i => i = .int .i64 0) (fun _ => 0)
    case atStart => rfl
    case round =>
      subst hrel
      go_wp2
      refine bodyPost_ret (results_none rfl _ _ _) rfl ?_
      exact ⟨rfl, G0⟩
  · go_enter Try.func57, Try.ntmps57
    go_wp2
    go_loop [6] (fun i => i = .int .i64 0) (fun _ => 0)
    case atStart => rfl
    case round =>
      subst hrel
      go_wp2
      go_end0
      exact ⟨rfl, G0⟩
set_option maxHeartbeats 400000 in
theorem ownR_nil (h f : List Value) (w : World) :
    Calls Try.prog 56 #[.agg (sheetC (.slice none 0 0) h f).toArray] w fun e w' => e = .returned (.bool true) ∧ w.grownBy w' none := by
  have G0 := World.grownBy_alloc w (.cells (sheetC (.slice none 0 0) h f).toArray 65) none
  have b0 : (w.alloc (.cells (sheetC (.slice none 0 0) h f).toArray 65)).cell? ⟨w.heap.size, 0, none⟩ = some (.slice none 0 0) := (Row.new w 65 (sheetC (.slice none 0 0) h f)).cell 0
  generalize (sheetC (.slice none 0 0) h f).toArray = C at *
  go_enter Try.func56, Try.ntmps56
  go_wp2
  go_loop [3] (fun i => i = .int .i64 0) (fun _ => 0)
  case atStart => rfl
  case round =>
    subst hrel
    go_wp2
    go_loop [5] (fun i => i = .int .i64 0) (fun _ => 0)
    case atStart => rfl
    case round =>
      subst hrel
      go_wp2
      go_ret
      exact ⟨rfl, G0⟩
end Go.Proofs.Ytkpdjjhkocmfoaa

/-
  Of part TwinK: what is needed here.
-/
namespace Go.Proofs.Ytkpdjjhkocmfoaa
open Go.RowKit
set_option linter.unusedVariables false
theorem made_len (z : Value) (n : Nat) : (madeCells z.cells n).toList.length = n := by simp [madeCells]
theorem Row.of_ownN {w : World} {base N size g : Nat} {e : TypeId} {xs : List Value} (h : w.ownsRow base e size (.slice (some ⟨g, 0, none⟩) N N) N xs) : Row w g e xs := by
  rcases h.2 with ⟨h1, _⟩ | ⟨g', cap, cur, h1, h2, h3, h4, h5, h6, h7⟩
  · cases h1
  · cases h1
    refine ⟨?_⟩
    rw [h3, ← h7, ← h6, ← Array.length_toList, List.take_length]
/-- keys that stand in a row -/
theorem keys_row {w : World} {g : Nat} {l : List (List Int)} {ys : List Value} {n : Nat} (hr : Row w g 46 (bv l.flatten ++ ys)) (hn : l.length = n) (h32 : ∀ k ∈ l, k.length = 32) {B : Nat} (hB : g < B) : KeysIn w B (some ⟨g, 0, none⟩) n l :=
  ⟨hn, h32, ⟨by rw [bv_length, flatten_len l h32, hn], fun i u hu => ⟨_, rfl, hB, by
    rw [addr_row, hr.cell, Nat.zero_add, List.getElem?_append_left (List.getElem?_eq_some_iff.1 hu).1]
    exact hu⟩⟩⟩
/-- the mark behind keys -/
def mk0 : List Int := [165, 90, 0, 0, 0, 0, 0, 0, 0, 0, 0, 0, 0, 0, 0, 0, 0, 0, 0, 0, 0, 0, 0, 0, 0, 0, 0, 0, 0, 0, 0, 0]
theorem built_mk0 : Try.prog.built 46 [(0, .int .u8 165), (1, .int .u8 90)] = some (bv mk0).toArray := by kernel_rfl
set_option maxRecDepth 100000 in
set_option maxHeartbeats 400000 in
theorem markKey (w : World) : Calls Try.prog 38 #[] w fun e w' => e = .returned (.agg (bv mk0).toArray) ∧ Below w.heap.size w w' := by
  go_enter Try.func38, Try.ntmps38
  go_wp2_with (first
    | ((with_reducible show wpList _ _ _ ({ dst := some 1, op := Op.build _ _, type := _, pos := _, after := _, guard := _ } :: _) _ _); go_must (refine wpList_plain rfl fun K hK => wp_built _ _ _ rfl (by simp only [List.map_toArray, List.map_cons, List.map_nil]; exact built_mk0) (hK _ _ ?_)))
    | ((with_reducible show wpList _ _ _ ({ dst := none, op := Op.store 46 _ _, type := _, pos := _, after := _, guard := _ } :: _) _ _); go_must (refine wpList_store_new rfl 46 (.tmp 0) (.tmp 1) rfl (bv mk0) size_key (bv_one _) rfl ?_ ?_ ?_; go_simp; go_simp; intro w1 hr1 hb1 hz1; have HR1 := Lib.hid hr1; have HB1 := Lib.hid hb1; clear hr1 hb1)))
  refine bodyPost_ret (results_cell_row (h := rfl) _ w1 w.heap.size 46 _ (0, 0) _ (by rfl) HR1.out.is Try.underlying46 rfl size_key) rfl ?_
  exact ⟨rfl, HB1.out⟩
end Go.Proofs.Ytkpdjjhkocmfoaa

/-
  Of part TwinR: what is needed here.
-/
namespace Go.Proofs.Ytkpdjjhkocmfoaa
open Go.RowKit
set_option linter.unusedVariables false
theorem csSetR {k : Nat} {l : List (List Value)} {x : List Value} {cs : List Value} (h : ∀ k ∈ l, k.length = 34) (hx : l[k]? = some x) :
    ((l.take k).flatten ++ cs.drop (k * 34)).take (k * 34) ++ x ++ ((l.take k).flatten ++ cs.drop (k * 34)).drop (k * 34 + x.length) = (l.take (k + 1)).flatten ++ cs.drop ((k + 1) * 34) := by
  have hk := (List.getElem?_eq_some_iff.1 hx).1
  have hl : (l.take k).flatten.length = k * 34 := by
    rw [cs_flat (sz := 34) (fun y hy => h y (List.mem_of_mem_take hy)), List.length_take]
    congr 1; omega
  have hxl := h x (List.mem_of_getElem? hx)
  rw [List.take_left' hl, hxl, show k * 34 + 34 = (l.take k).flatten.length + 34 by rw [hl], List.drop_length_add_append, List.drop_drop, List.take_add_one, hx, List.flatten_append, show k * 34 + 34 = (k + 1) * 34 by omega]
  simp
set_option maxRecDepth 100000 in
set_option maxHeartbeats 600000 in
theorem sameR (A B : Option Addr) (n c d : Nat) (l : List (List Value)) (w : World) (S T : Nat) (hx : CsIn 34 w S A n l) (hy : CsIn 34 w T B n l) (ho : ∀ k ∈ l, IsR k) (hn : n ≤ maxLen) :
    Calls Try.prog 37 #[.slice A n c, .slice B n d] w fun e w' => e = .returned (.bool true) ∧ ∃ k, w' = w.drewN k := by
  unfold maxLen at hn
  have HX := Lib.hid hx
  have HY := Lib.hid hy
  have HO := Lib.hid ho
  clear hx hy ho
  go_enter Try.func37, Try.ntmps37
  go_wp2
  go_loopw [5] (fun i wr => ∃ k j : Nat, k ≤ n ∧ i = .int .i64 k ∧ wr = w.drewN j) (fun i _ => n - (intOf i).toNat)
  case atStart => exact ⟨0, 0, Nat.zero_le _, rfl, rfl⟩
  case round =>
    obtain ⟨k, j, hk, rfl, rfl⟩ := hrel
    by_cases hlt : k < n
    · obtain ⟨a, x, rfl, ha, hxl, _, ca⟩ := HX.out.get hlt (by omega)
      obtain ⟨b, y, rfl, hb, hyl, _, cb⟩ := HY.out.get hlt (by omega)
      obtain rfl : x = y := by rw [hxl] at hyl; exact Option.some.inj hyl
      have hxo := HO.out x (List.mem_of_getElem? hxl)
      have NQ := fun w => hxo.neq w
      have HSZ := Lib.hid hxo.size
      have CA := Lib.hid ca
      have CB := Lib.hid cb
      clear ca cb hxl hyl hxo
      go_wp2
      refine wp_region_quiet_lit (by kernel_rfl) (by kernel_rfl) ?_
      repeat (first
        | ((with_reducible show wpQuiet _ _ _ _ ({ dst := some 20, op := Op.load _ _, type := _, pos := _, after := _, guard := _ } :: _) _); go_must (refine quiet_load_at (by kernel_rfl) 48 (.tmp 19) rfl (a.add (k * 34)) x _ Try.underlying48 rfl HSZ.out (by rintro _ ⟨nq, rfl⟩; exact CA.out) ?_ ?_; go_simp; go_simp))
        | ((with_reducible show wpQuiet _ _ _ _ ({ dst := some 24, op := Op.load _ _, type := _, pos := _, after := _, guard := _ } :: _) _); go_must (refine quiet_load_at (by kernel_rfl) 48 (.tmp 23) rfl (b.add (k * 34)) x _ Try.underlying48 rfl HSZ.out (by rintro _ ⟨nq, rfl⟩; exact CB.out) ?_ ?_; go_simp; go_simp))
        | go_big_quiet_step (fail))
      refine wpQuiet_nil ?_
      intro nq
      go_wp2
      go_roundw
      case rel => exact ⟨k + 1, j + nq, by omega, by go_num, by simp⟩
      case measure => simp [intOf]; omega
    · go_wp2
      go_ret
      exact ⟨rfl, j, rfl⟩
set_option maxRecDepth 100000 in
set_option maxHeartbeats 1000000 in
theorem twinR (A : Option Addr) (n c : Nat) (l : List (List Value)) (z : List Value) (w : World) (S : Nat)
    (hx : CsIn 34 w S A n l) (ho : ∀ k ∈ l, IsR k) (hS : S ≤ w.heap.size) (hn : n ≤ 1000000000) (hz : IsR z) :
    Calls Try.prog 23 #[.slice A n c, .agg z.toArray] w fun e w' => ∃ g, e = .returned (.slice (some ⟨g, 0, none⟩) n (n + 3)) ∧ w.heap.size ≤ g ∧ Row w' g 48 (l.flatten ++ rowOf 3 z) ∧ Below w.heap.size w w' := by
  have HX := Lib.hid hx
  have HO := Lib.hid ho
  have HZ := Lib.hid hz
  have RB := Lib.hid (Row.new w 48 z)
  have hb0 : Below w.heap.size w (w.alloc (Obj.cells z.toArray 48)) := (Below.refl _ _).alloc (Nat.le_refl _) _
  have HB0 := Lib.hid hb0
  have z0 : (w.alloc (Obj.cells z.toArray 48)).heap.size = w.heap.size + 1 := by simp
  clear hx hb0 ho
  go_enter Try.func23, Try.ntmps23
  go_upto_region 1 with fail
  generalize (w.alloc (Obj.cells z.toArray 48)) = W at *
  have ZW := Lib.hid z0
  clear z0
  go_wp2_with (first
    | (at_make; (obtain ⟨i0, hi, hz0, hz1, hz2⟩ := info_parts infoR); go_must (refine wpList_make_full _ rfl (.tmp 10) (.tmp 10) 22 rfl W.heap.size 48 i0 _ 34 Try.underlying22 hi hz0 hz1 .i64 .i64 _ _ (n + 3) rfl rfl (by simp) (by simp) (by rw [hz2]; omega) (by unfold maxLen; omega) (Nat.le_refl _) ?_; intro w1 hown hgrow; have hrow := Row.of_ownN hown; have hb1 := (Below.refl W.heap.size W).grown hgrow (Nat.le_refl _) (fun k hk => by cases hk))))
  have hlen := made_len zR ((n + 3) * 34)
  generalize (madeCells zR.cells ((n + 3) * 34)).toList = cs at *
  have HL := Lib.hid hlen
  have R := Lib.hid hrow
  have RB1 := Lib.hid (RB.out.below hb1 (by have := ZW.out; omega))
  have HB1 := Lib.hid (HB0.out.trans (hb1.mono (by have := ZW.out; omega)))
  have HZ1 : Hid (W.heap.size < w1.heap.size) := Lib.hid hrow.lt
  clear hlen hrow hown hgrow hb1 RB HB0
  have lenl := HX.out.len
  go_loopw [6] (fun i wr => ∃ k : Nat, k ≤ n ∧ i = .int .i64 k ∧ Row wr W.heap.size 48 ((l.take k).flatten ++ cs.drop (k * 34)) ∧ Below W.heap.size w1 wr) (fun i _ => n - (intOf i).toNat)
  case atStart => exact ⟨0, Nat.zero_le _, rfl, by simpa using R.out, Below.refl _ _⟩
  case round =>
  clear R
  obtain ⟨k, hk, rfl, hr, hb⟩ := hrel
  have RR := Lib.hid hr
  have HB := Lib.hid hb
  clear hr hb
  by_cases hlt : k < n
  · obtain ⟨a, x, rfl, hab, hxl, hxn, hat⟩ := HX.out.get hlt (by omega)
    have HX1 := Lib.hid hxl
    have HB2 := Lib.hid (HB1.out.trans (HB.out.mono (by have := ZW.out; omega)))
    have HAT : Hid (∀ j u, x[j]? = some u → wr.cell? ((a.add (k * 34)).add j) = some u) := Lib.hid fun j u hu => (HB2.out.cell (by rw [addr_block, addr_block]; omega)).trans (hat j u hu)
    have HXO := Lib.hid (HO.out x (List.mem_of_getElem? hxl))
    have HSZ := Lib.hid HXO.out.size
    have HCL : Hid (k * 34 + x.length ≤ ((l.take k).flatten ++ cs.drop (k * 34)).length) := by
      have h1 := HL.out
      have h2 : ((l.take k).flatten).length = k * 34 := by
        rw [cs_flat (sz := 34) (fun y hy => HX.out.each y (List.mem_of_mem_take hy)), List.length_take]
        congr 1; omega
      refine Lib.hid ?_
      rw [List.length_append, h2, List.length_drop, hxn]
      omega
    clear hxl hat hxn
    go_wp2_with (first
      | ((with_reducible show wpList _ _ _ ({ dst := some 23, op := Op.load _ _, type := _, pos := _, after := _, guard := _ } :: _) _ _); go_must (refine wpList_load_at rfl 48 (.tmp 22) rfl (a.add (k * 34)) x _ Try.underlying48 rfl HSZ.out HAT.out ?_ ?_; go_simp))
      | ((with_reducible show wpList _ _ _ ({ dst := none, op := Op.store 48 _ _, type := _, pos := _, after := _, guard := _ } :: _) _ _); go_must (refine wpList_store_part rfl 48 (.tmp 24) (.tmp 23) rfl W.heap.size 48 (k * 34) _ x RR.out HSZ.out HCL.out HXO.out.one ?_ ?_ ?_; go_simp; go_simp; intro w2 hr2 ht2; have HR2 := Lib.hid hr2; have HT2 := Lib.hid ht2; clear hr2 ht2)))
    go_roundw
    case rel =>
      refine ⟨k + 1, by omega, by go_num, ?_, HB.out.trans (HT2.out.below (Nat.le_refl _))⟩
      have := HR2.out
      rwa [csSetR HX.out.each HX1.out] at this
    case measure => simp [intOf]; omega
  · obtain rfl : k = n := by omega
    have R2 : Hid (Row wr W.heap.size 48 (l.flatten ++ cs.drop (k * 34))) := by
      have := RR.out
      rw [List.take_of_length_le (by omega)] at this
      exact Lib.hid this
    have HFL : Hid ((l.flatten).length = k * 34) := Lib.hid (by rw [cs_flat HX.out.each, HX.out.len])
    clear RR
    go_wp2_with fail
    go_loopw [7] (fun i wr => ∃ j : Nat, j ≤ 3 ∧ i = .int .i64 j ∧ Row wr W.heap.size 48 (l.flatten ++ (rowOf j z ++ (cs.drop (k * 34)).drop (j * 34))) ∧ Below W.heap.size w1 wr) (fun i _ => 3 - (intOf i).toNat)
    case atStart => exact ⟨0, Nat.zero_le _, rfl, by simpa [rowOf] using R2.out, HB.out⟩
    case round =>
      clear R2 HB
      obtain ⟨j, hj, rfl, hr, hb⟩ := hrel
      have RR := Lib.hid hr
      have HB := Lib.hid hb
      clear hr hb
      by_cases hlt : j < 3
      · have HBX := Lib.hid (RB1.out.below HB.out (by have := ZW.out; omega))
        have HCL : Hid ((k + j) * 34 + z.length ≤ (l.flatten ++ (rowOf j z ++ (cs.drop (k * 34)).drop (j * 34))).length) := by
          have h1 := HL.out
          have h2 := HFL.out
          have h3 := rowOf_len j HZ.out.len
          refine Lib.hid ?_
          rw [List.length_append, List.length_append, h2, h3, List.length_drop, List.length_drop, HZ.out.len]
          omega
        go_wp2_with (first
          | ((with_reducible show wpList _ _ _ ({ dst := some 34, op := Op.load _ _, type := _, pos := _, after := _, guard := _ } :: _) _ _); go_must (refine wpList_load_whole rfl 48 (.tmp 3) rfl w.heap.size 48 z _ Try.underlying48 rfl HZ.out.size HBX.out ?_ ?_; go_simp))
          | ((with_reducible show wpList _ _ _ ({ dst := none, op := Op.store 48 _ _, type := _, pos := _, after := _, guard := _ } :: _) _ _); go_must (refine wpList_store_part rfl 48 (.tmp 35) (.tmp 34) rfl W.heap.size 48 ((k + j) * 34) _ z RR.out HZ.out.size HCL.out HZ.out.one ?_ ?_ ?_; go_simp; go_simp; intro w2 hr2 ht2; have HR2 := Lib.hid hr2; have HT2 := Lib.hid ht2; clear hr2 ht2)))
        go_roundw
        case rel =>
          refine ⟨j + 1, by omega, by go_num, ?_, HB.out.trans (HT2.out.below (Nat.le_refl _))⟩
          have := HR2.out
          have e := rowSetR (k := j) HZ.out.len (l.flatten) (cs.drop (k * 34)) (by have := HL.out; rw [List.length_drop]; omega)
          rw [HFL.out, ← Nat.add_mul] at e
          rwa [e] at this
        case measure => simp [intOf]; omega
      · obtain rfl : j = 3 := by omega
        have R3 : Hid (Row wr W.heap.size 48 (l.flatten ++ rowOf 3 z)) := by
          have := RR.out
          rw [List.drop_of_length_le (by have := HL.out; rw [List.length_drop]; omega), List.append_nil] at this
          exact Lib.hid this
        clear RR
        go_wp2_with fail
        go_ret
        exact ⟨W.heap.size, rfl, by have := ZW.out; omega, R3.out, HB1.out.trans (HB.out.mono (by have := ZW.out; omega))⟩
set_option maxRecDepth 100000 in
set_option maxHeartbeats 1000000 in
theorem leftR (g : Nat) (B : Option Addr) (n d : Nat) (l : List (List Value)) (z : List Value) (w : World) (S : Nat)
    (hr : Row w g 48 (l.flatten ++ rowOf 3 z)) (hy : CsIn 34 w S B n l) (ho : ∀ k ∈ l, IsR k) (hS : S ≤ w.heap.size) (hn : n ≤ 1000000000) (hz : IsR z) :
    Calls Try.prog 29 #[.slice (some ⟨g, 0, none⟩) n (n + 3), .slice B n d, .agg z.toArray] w fun e w' => e = .returned (.bool true) ∧ Below w.heap.size w w' := by
  have hb0 : Below w.heap.size w (w.alloc (Obj.cells z.toArray 48)) := (Below.refl _ _).alloc (Nat.le_refl _) _
  have RB := Lib.hid (Row.new w 48 z)
  have R := Lib.hid (hr.alloc (Obj.cells z.toArray 48))
  have HB0 := Lib.hid hb0
  have hlen := hy.len
  have h64 := hy.each
  have HFL : Hid ((l.flatten).length = n * 34) := Lib.hid (by rw [cs_flat h64, hlen])
  have HK := Lib.hid (sameR (some ⟨g, 0, none⟩) B n (n + 3) d l _ w.heap.size w.heap.size (csIn_row R.out hlen h64 hr.lt) ((hy.more hS).below hb0) ho (by unfold maxLen; omega))
  have NQ := fun w => hz.neq w
  have HZ := Lib.hid hz
  clear hr hy hb0 h64 hlen ho
  go_enter Try.func29, Try.ntmps29
  go_upto_region 1 with fail
  generalize (w.alloc (Obj.cells z.toArray 48)) = W at *
  go_wp2_with fail
  refine HK.out.mono ?_
  rintro e w1 ⟨rfl, k, rfl⟩
  go_wp2_with fail
  go_loopw [8] (fun i wr => ∃ j q : Nat, j ≤ 3 ∧ i = .int .i64 j ∧ wr = W.drewN q) (fun i _ => 3 - (intOf i).toNat)
  case atStart => exact ⟨0, k, Nat.zero_le _, rfl, rfl⟩
  case round =>
    obtain ⟨j, q, hj, rfl, rfl⟩ := hrel
    by_cases hlt : j < 3
    · have CA := Lib.hid (show ∀ i u, z[i]? = some u → W.cell? ((⟨g, (n + j) * 34, none⟩ : Addr).add i) = some u from fun i u hu => by
        rw [addr_row, R.out.cell, List.getElem?_append_right (by rw [HFL.out]; omega), HFL.out, show (n + j) * 34 + i - n * 34 = j * 34 + i by omega]
        exact rowOf_cell HZ.out.len hlt hu)
      have CB := Lib.hid (show ∀ i u, z[i]? = some u → W.cell? ((⟨w.heap.size, 0, none⟩ : Addr).add i) = some u from fun i u hu => by
        rw [addr_row, RB.out.cell, Nat.zero_add]; exact hu)
      have HSZ := Lib.hid HZ.out.size
      go_wp2
      refine wp_region_quiet_lit (by kernel_rfl) (by kernel_rfl) ?_
      repeat (first
        | ((with_reducible show wpQuiet _ _ _ _ ({ dst := some 36, op := Op.load _ _, type := _, pos := _, after := _, guard := _ } :: _) _); go_must (refine quiet_load_at (by kernel_rfl) 48 (.tmp 35) rfl ⟨g, (n + j) * 34, none⟩ z _ Try.underlying48 rfl HSZ.out (by rintro _ ⟨nq, rfl⟩; exact CA.out) ?_ ?_; go_simp; go_simp))
        | ((with_reducible show wpQuiet _ _ _ _ ({ dst := some 37, op := Op.load _ _, type := _, pos := _, after := _, guard := _ } :: _) _); go_must (refine quiet_load_at (by kernel_rfl) 48 (.tmp 5) rfl ⟨w.heap.size, 0, none⟩ z _ Try.underlying48 rfl HSZ.out (by rintro _ ⟨nq, rfl⟩; exact CB.out) ?_ ?_; go_simp; go_simp))
        | go_big_quiet_step (fail))
      refine wpQuiet_nil ?_
      intro nq
      go_wp2
      go_roundw
      case rel => exact ⟨j + 1, q + nq, by omega, by go_num, by simp⟩
      case measure => simp [intOf]; omega
    · go_wp2
      go_ret
      exact ⟨rfl, below_drewN HB0.out q⟩
end Go.Proofs.Ytkpdjjhkocmfoaa
