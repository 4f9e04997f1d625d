/-
  Parts joined: SheetHo BookHo Pages BookGen TwinMsg Example AppendN Push12 MoreWalk OtherMem.
-/
import Derived.Below
import Derived.Laws.OwnMore
import Derived.Deep.AppendLies
import Derived.Deep.Draws
import Derived.Lib.Hide
import Derived.Laws.MakeOwn
import Derived.Laws.CopyOwn
import Derived.Laws.Rows
import Derived.Laws.BitsAllLaws
import Derived.WalkKit
import Derived.Test.YtpkkgmmcindfgaaRows
import Derived.WalkSpells
import Derived.WalkLawsBesides
import Derived.IntWalk
import Derived.Deep.MidRow
import Derived.Deep.WholeRow
import Derived.Maps.AppendAt
import Derived.OwnWalk
import Derived.Great.BuildSlice
import Derived.Recover
import Derived.Deep.RegionHeld
import Derived.Deep.QuietTactic
import Derived.BigQuiet
import Derived.ChangeKeysEq
import Derived.ProofKit
import Derived.OpenShut
import Derived.ShutString
import Derived.ChangeOld
import Derived.Lib.SmallJoins
import Derived.Deep.Slices
import Derived.Deep.Strs
import Derived.SizedLaws
import Derived.Deep.RegionHeld2
import Derived.Deep.CutBlock
import Derived.Laws.Tables
import Derived.Laws.StructEq
import Derived.Maps.OwnSet
import Derived.DeepKeys4
import Derived.WideKeyArr
import Derived.Maps.RangeWalk
import Derived.Laws.Slices
import Derived.Deep.DeepCutAuto
import Derived.Laws.EntriesVeiled
import Derived.Deep.RegionHeld3
import Derived.WalkMore
import Derived.WideKeyEntry
import Derived.Test.YtpkkgmmcindfgaaQ1
/-
  Of part SheetHo: what is needed here.
-/
namespace Go.Proofs.Ytpkkgmmcindfgaa
open Go.RowKit
set_option linter.unusedVariables false
set_option maxRecDepth 100000
/-- an element, as cells -/
structure IsHo (h : List Value) : Prop where
  len : h.length = 66
  one : ∀ u ∈ h, u.oneCell' = true
  neq : ∀ w, (binOp .neq 60 (.agg h.toArray) (.agg h.toArray)).run Try.prog w = .ok (.bool false) w
  size : (Try.prog.info? 60).map (·.size) = some h.length
theorem rowSetHo {k : Nat} {z : List Value} (hz : z.length = 66) (xs ys : List Value) (hys : (k + 1) * 66 ≤ ys.length) :
    (xs ++ (rowOf k z ++ ys.drop (k * 66))).take (xs.length + k * 66) ++ z ++ (xs ++ (rowOf k z ++ ys.drop (k * 66))).drop (xs.length + k * 66 + z.length) = xs ++ (rowOf (k + 1) z ++ ys.drop ((k + 1) * 66)) := by
  have hl := rowOf_len k hz
  have hl2 : (xs ++ rowOf k z).length = xs.length + k * 66 := by rw [List.length_append, hl]
  have e2 : xs.length + k * 66 + z.length = (xs ++ rowOf k z).length + 66 := by rw [hl2, hz]
  rw [← List.append_assoc, List.take_left' hl2, e2, List.drop_length_add_append, List.drop_drop, rowOf_succ, show k * 66 + 66 = (k + 1) * 66 by omega]
  simp only [List.append_assoc]
theorem sheet_hereHo {w : World} {g t : Nat} {l : Value} {h f : List Value} (hr : Row w g t (sheetC l h f)) (hh : h.length = 66) : ∀ j v, h[j]? = some v → w.cell? ((⟨g, 1, none⟩ : Addr).add j) = some v := fun j v hv => by
  have hj := (List.getElem?_eq_some_iff.1 hv).1
  rw [addr_row, hr.cell, show 1 + j = j + 1 by omega]
  show (h ++ f)[j]? = _
  rw [List.getElem?_append_left hj]
  exact hv
theorem sheet_farHo {w : World} {g t : Nat} {l : Value} {h f : List Value} (hr : Row w g t (sheetC l h f)) (hh : h.length = 66) : ∀ j v, f[j]? = some v → w.cell? ((⟨g, 67, none⟩ : Addr).add j) = some v := fun j v hv => by
  rw [addr_row, hr.cell, show 67 + j = (66 + j) + 1 by omega]
  show (h ++ f)[66 + j]? = _
  rw [List.getElem?_append_right (by omega), hh, show 66 + j - 66 = j by omega]
  exact hv
set_option maxHeartbeats 800000 in
theorem signHo_false (g n c : Nat) (h f : List Value) (xs : List Value) (w : World) (hr : Row w g 60 xs) (hl : c * 66 ≤ xs.length) (hnc : n ≤ c) (hc : c ≤ 9223372036854775807) (hh : IsHo h) (hf : IsHo f) :
    Calls Try.prog 73 #[.agg (sheetC (.slice (some ⟨g, 0, none⟩) n c) h f).toArray, .bool false] w fun e w' => e = .returned (.tuple #[]) ∧ Row w' g 60 (rowOf n h ++ xs.drop (n * 66)) ∧ w.grownBy w' (some g) := by
  have hlt := hr.lt
  have HL := Lib.hid hl
  have HH := Lib.hid (And.intro hh hf)
  have R := Lib.hid (hr.alloc (.cells (sheetC (.slice (some ⟨g, 0, none⟩) n c) h f).toArray 77))
  have HB := Lib.hid (Row.new w 77 (sheetC (.slice (some ⟨g, 0, none⟩) n c) h f))
  have G0 := World.grownBy_alloc w (.cells (sheetC (.slice (some ⟨g, 0, none⟩) n c) h f).toArray 77) (some g)
  clear hr hl hh hf
  generalize hC : (sheetC (.slice (some ⟨g, 0, none⟩) n c) h f).toArray = C at *
  go_enter Try.func73, Try.ntmps73
  go_wp2_with fail
  go_loopw [4] (fun i wr => ∃ k : Nat, k ≤ n ∧ i = .int .i64 k ∧ Row wr g 60 (rowOf k h ++ xs.drop (k * 66)) ∧ Row wr w.heap.size 77 (sheetC (.slice (some ⟨g, 0, none⟩) n c) h f) ∧ w.grownBy wr (some g)) (fun i _ => n - (intOf i).toNat)
  case atStart => exact ⟨0, Nat.zero_le _, rfl, by simpa [rowOf] using R.out, hC ▸ HB.out, G0⟩
  case round =>
    obtain ⟨k, hk, rfl, hr, hb, hg⟩ := hrel
    clear R HB G0
    have RR := Lib.hid hr
    have RB := Lib.hid hb
    have GG := Lib.hid hg
    have b0 : wr.cell? ⟨w.heap.size, 0, none⟩ = some (.slice (some ⟨g, 0, none⟩) n c) := hb.cell 0
    clear hr hb hg
    by_cases hlt2 : k < n
    · go_wp2_with (first
        | ((with_reducible show wpList _ _ _ ({ dst := some 20, op := Op.load _ _, type := _, pos := _, after := _, guard := _ } :: _) _ _); go_must (refine wpList_load_at rfl 60 (.tmp 19) rfl ⟨w.heap.size, 1, none⟩ h _ Try.underlying60 rfl (HH.out.1.size) (sheet_hereHo RB.out HH.out.1.len) ?_ ?_; go_simp))
        | ((with_reducible show wpList _ _ _ ({ dst := none, op := Op.store 60 _ _, type := _, pos := _, after := _, guard := _ } :: _) _ _); go_must (refine wpList_store_part rfl 60 (.tmp 21) (.tmp 20) rfl g 60 (k * 66) _ h RR.out (HH.out.1.size) (by have := HL.out; have := rowOf_len k HH.out.1.len; rw [List.length_append, List.length_drop, HH.out.1.len]; omega) HH.out.1.one ?_ ?_ ?_; go_simp; go_simp; intro w2 hr2 ht2; have HR2 := Lib.hid hr2; have HT2 := Lib.hid ht2; clear hr2 ht2)))
      go_roundw
      case rel =>
        refine ⟨k + 1, by omega, by go_num, ?_, HT2.out.row RB.out (by omega), grown_trans GG.out ⟨HT2.out.os, HT2.out.tape, HT2.out.output, by rw [HT2.out.size]; exact Nat.le_refl _, fun q hq hne => HT2.out.block q (fun e => hne (by rw [e]))⟩⟩
        have := HR2.out
        have e := rowSetHo (k := k) HH.out.1.len [] xs (by have := HL.out; omega)
        simp only [List.nil_append, List.length_nil, Nat.zero_add] at e
        rwa [e] at this
      case measure => simp [intOf]; omega
    · have hk' : k = n := by omega
      have R2 : Hid (Row wr g 60 (rowOf n h ++ xs.drop (n * 66))) := by rw [← hk']; exact RR.out
      clear hk' RR
      go_wp2_with fail
      refine bodyPost_ret (results_none rfl _ _ _) rfl ?_
      exact ⟨rfl, R2.out, GG.out⟩
set_option maxHeartbeats 800000 in
theorem signHo_true (g n c : Nat) (h f : List Value) (xs ys : List Value) (w : World) (hr : Row w g 60 (xs ++ ys)) (hn : xs.length = n * 66) (hl : (c - n) * 66 ≤ ys.length) (hnc : n ≤ c) (hc : c ≤ 9223372036854775807) (hh : IsHo h) (hf : IsHo f) :
    Calls Try.prog 73 #[.agg (sheetC (.slice (some ⟨g, 0, none⟩) n c) h f).toArray, .bool true] w fun e w' => e = .returned (.tuple #[]) ∧ Row w' g 60 (xs ++ (rowOf (c - n) f ++ ys.drop ((c - n) * 66))) ∧ w.grownBy w' (some g) := by
  have hlt := hr.lt
  have HL := Lib.hid hl
  have HN := Lib.hid hn
  have HH := Lib.hid (And.intro hh hf)
  have R := Lib.hid (hr.alloc (.cells (sheetC (.slice (some ⟨g, 0, none⟩) n c) h f).toArray 77))
  have hB := Row.new w 77 (sheetC (.slice (some ⟨g, 0, none⟩) n c) h f)
  have HB := Lib.hid hB
  have G0 := World.grownBy_alloc w (.cells (sheetC (.slice (some ⟨g, 0, none⟩) n c) h f).toArray 77) (some g)
  have b0 : (w.alloc (.cells (sheetC (.slice (some ⟨g, 0, none⟩) n c) h f).toArray 77)).cell? ⟨w.heap.size, 0, none⟩ = some (.slice (some ⟨g, 0, none⟩) n c) := hB.cell 0
  clear hr hl hn hh hf hB
  generalize hC : (sheetC (.slice (some ⟨g, 0, none⟩) n c) h f).toArray = C at *
  go_enter Try.func73, Try.ntmps73
  go_wp2_with fail
  go_loopw [6] (fun i wr => ∃ k : Nat, n + k ≤ c ∧ i = .int .i64 ((n + k : Nat) : Int) ∧ Row wr g 60 (xs ++ (rowOf k f ++ ys.drop (k * 66))) ∧ Row wr w.heap.size 77 (sheetC (.slice (some ⟨g, 0, none⟩) n c) h f) ∧ w.grownBy wr (some g)) (fun i _ => c - (intOf i).toNat)
  case atStart => exact ⟨0, by omega, rfl, by simpa [rowOf] using R.out, hC ▸ HB.out, G0⟩
  case round =>
    obtain ⟨k, hk, rfl, hr, hb, hg⟩ := hrel
    clear R HB G0
    have RR := Lib.hid hr
    have RB := Lib.hid hb
    have GG := Lib.hid hg
    clear hr hb hg b0
    by_cases hlt2 : n + k < c
    · generalize hj : n + k = j at *
      have HJ := Lib.hid hj
      clear hj
      go_wp2_with (first
        | ((with_reducible show wpList _ _ _ ({ dst := some 40, op := Op.load _ _, type := _, pos := _, after := _, guard := _ } :: _) _ _); go_must (refine wpList_load_at rfl 60 (.tmp 39) rfl ⟨w.heap.size, 67, none⟩ f _ Try.underlying60 rfl (HH.out.2.size) (sheet_farHo RB.out HH.out.1.len) ?_ ?_; go_simp))
        | ((with_reducible show wpList _ _ _ ({ dst := none, op := Op.store 60 _ _, type := _, pos := _, after := _, guard := _ } :: _) _ _); go_must (refine wpList_store_part rfl 60 (.tmp 41) (.tmp 40) rfl g 60 (j * 66) _ f RR.out (HH.out.2.size) (by have := HL.out; have := HN.out; have := HJ.out; have := rowOf_len k HH.out.2.len; simp only [List.length_append, List.length_drop, HH.out.2.len]; omega) HH.out.2.one ?_ ?_ ?_; go_simp; go_simp; intro w2 hr2 ht2; have HR2 := Lib.hid hr2; have HT2 := Lib.hid ht2; clear hr2 ht2)))
      go_roundw
      case rel =>
        refine ⟨k + 1, by have := HJ.out; omega, by rw [← HJ.out]; go_num, ?_, HT2.out.row RB.out (by omega), grown_trans GG.out ⟨HT2.out.os, HT2.out.tape, HT2.out.output, by rw [HT2.out.size]; exact Nat.le_refl _, fun q hq hne => HT2.out.block q (fun e => hne (by rw [e]))⟩⟩
        have := HR2.out
        have e := rowSetHo (k := k) HH.out.2.len xs ys (by have := HL.out; have := HJ.out; omega)
        rw [show xs.length + k * 66 = j * 66 by have := HN.out; have := HJ.out; omega] at e
        rwa [e] at this
      case measure => simp [intOf]; omega
    · have hk' : k = c - n := by omega
      have R2 : Hid (Row wr g 60 (xs ++ (rowOf (c - n) f ++ ys.drop ((c - n) * 66)))) := by
        have := RR.out
        rw [hk'] at this
        exact this
      have hj2 : ¬ (((n + k : Nat) : Int) < (c : Int)) := by omega
      clear hk' RR
      generalize n + k = j at *
      go_wp2_with fail
      go_end0
      exact ⟨rfl, R2.out, GG.out⟩
set_option maxHeartbeats 1000000 in
theorem ownHo_true (g n c : Nat) (h f : List Value) (zs : List Value) (w : World) (hr : Row w g 60 (rowOf n h ++ (rowOf (c - n) f ++ zs))) (hnc : n ≤ c) (hc : c ≤ 9223372036854775807) (hh : IsHo h) (hf : IsHo f) :
    Calls Try.prog 72 #[.agg (sheetC (.slice (some ⟨g, 0, none⟩) n c) h f).toArray] w fun e w' => e = .returned (.bool true) ∧ w.grownBy w' none := by
  have hlt := hr.lt
  have HH := Lib.hid (And.intro hh hf)
  have R0 := Lib.hid (hr.alloc (.cells (sheetC (.slice (some ⟨g, 0, none⟩) n c) h f).toArray 77))
  have HB := Lib.hid (Row.new w 77 (sheetC (.slice (some ⟨g, 0, none⟩) n c) h f))
  have b0 : (w.alloc (.cells (sheetC (.slice (some ⟨g, 0, none⟩) n c) h f).toArray 77)).cell? ⟨w.heap.size, 0, none⟩ = some (.slice (some ⟨g, 0, none⟩) n c) := HB.out.cell 0
  have G0 := World.grownBy_alloc w (.cells (sheetC (.slice (some ⟨g, 0, none⟩) n c) h f).toArray 77) none
  have NH := fun w => hh.neq w
  have NF := fun w => hf.neq w
  have C1 : Hid (∀ k, k < n → ∀ j v, h[j]? = some v → (w.alloc (.cells (sheetC (.slice (some ⟨g, 0, none⟩) n c) h f).toArray 77)).cell? ((⟨g, k * 66, none⟩ : Addr).add j) = some v) := Lib.hid fun k hk j v hv => by
    rw [addr_row, R0.out.cell, List.getElem?_append_left (by rw [rowOf_len n hh.len]; have := (List.getElem?_eq_some_iff.1 hv).1; rw [hh.len] at this; omega)]
    exact rowOf_cell hh.len hk hv
  have C2 : Hid (∀ k, k < c - n → ∀ j v, f[j]? = some v → (w.alloc (.cells (sheetC (.slice (some ⟨g, 0, none⟩) n c) h f).toArray 77)).cell? ((⟨g, (n + k) * 66, none⟩ : Addr).add j) = some v) := Lib.hid fun k hk j v hv => by
    rw [addr_row, R0.out.cell, List.getElem?_append_right (by rw [rowOf_len n hh.len]; omega), rowOf_len n hh.len, show (n + k) * 66 + j - n * 66 = k * 66 + j by omega, List.getElem?_append_left (by rw [rowOf_len _ hf.len]; have := (List.getElem?_eq_some_iff.1 hv).1; rw [hf.len] at this; omega)]
    exact rowOf_cell hf.len hk hv
  have C3 : Hid (∀ j v, h[j]? = some v → (w.alloc (.cells (sheetC (.slice (some ⟨g, 0, none⟩) n c) h f).toArray 77)).cell? ((⟨w.heap.size, 1, none⟩ : Addr).add j) = some v) := Lib.hid (sheet_hereHo HB.out hh.len)
  have C4 : Hid (∀ j v, f[j]? = some v → (w.alloc (.cells (sheetC (.slice (some ⟨g, 0, none⟩) n c) h f).toArray 77)).cell? ((⟨w.heap.size, 67, none⟩ : Addr).add j) = some v) := Lib.hid (sheet_farHo HB.out hh.len)
  have SH := Lib.hid (hh.size)
  have SF := Lib.hid (hf.size)
  clear hr hh hf R0 HB HH
  generalize hC : (sheetC (.slice (some ⟨g, 0, none⟩) n c) h f).toArray = C at *
  clear hC
  go_enter Try.func72, Try.ntmps72
  go_wp2_with fail
  generalize w.alloc (.cells C 77) = W at *
  go_loopw [3] (fun i wr => ∃ k j : Nat, k ≤ n ∧ i = .int .i64 k ∧ wr = W.drewN j) (fun i _ => n - (intOf i).toNat)
  case atStart => exact ⟨0, 0, Nat.zero_le _, rfl, rfl⟩
  case round =>
    obtain ⟨k, j, hk, rfl, rfl⟩ := hrel
    by_cases hlt2 : k < n
    · go_wp2_with fail
      refine wp_region_quiet_lit (by kernel_rfl) (by kernel_rfl) ?_
      repeat (first
        | ((with_reducible show wpQuiet _ _ _ _ ({ dst := some 17, op := Op.load _ _, type := _, pos := _, after := _, guard := _ } :: _) _); go_must (refine quiet_load_at (by kernel_rfl) 60 (.tmp 16) rfl ⟨g, k * 66, none⟩ h _ Try.underlying60 rfl SH.out (by rintro _ ⟨nq, rfl⟩; exact C1.out k hlt2) ?_ ?_; go_simp; go_simp))
        | ((with_reducible show wpQuiet _ _ _ _ ({ dst := some 19, op := Op.load _ _, type := _, pos := _, after := _, guard := _ } :: _) _); go_must (refine quiet_load_at (by kernel_rfl) 60 (.tmp 18) rfl ⟨w.heap.size, 1, none⟩ h _ Try.underlying60 rfl SH.out (by rintro _ ⟨nq, rfl⟩; exact C3.out) ?_ ?_; go_simp; go_simp))
        | go_big_quiet_step (fail))
      refine wpQuiet_nil ?_
      intro nq
      go_wp2_with fail
      go_roundw
      case rel => exact ⟨k + 1, j + nq, by omega, by go_num, by simp⟩
      case measure => simp [intOf]; omega
    · go_wp2_with fail
      go_loopw [5] (fun i wr => ∃ k j : Nat, n + k ≤ c ∧ i = .int .i64 ((n + k : Nat) : Int) ∧ wr = W.drewN j) (fun i _ => c - (intOf i).toNat)
      case atStart => exact ⟨0, j, by omega, rfl, rfl⟩
      case round =>
        obtain ⟨k, j, hk, rfl, rfl⟩ := hrel
        by_cases hlt2 : n + k < c
        · have C2k := Lib.hid (C2.out k (by omega))
          generalize hjj : n + k = t at *
          have HJ := Lib.hid hjj
          clear hjj
          go_wp2_with fail
          refine wp_region_quiet_lit (by kernel_rfl) (by kernel_rfl) ?_
          repeat (first
            | ((with_reducible show wpQuiet _ _ _ _ ({ dst := some 39, op := Op.load _ _, type := _, pos := _, after := _, guard := _ } :: _) _); go_must (refine quiet_load_at (by kernel_rfl) 60 (.tmp 38) rfl ⟨g, t * 66, none⟩ f _ Try.underlying60 rfl SF.out (by rintro _ ⟨nq, rfl⟩; exact C2k.out) ?_ ?_; go_simp; go_simp))
            | ((with_reducible show wpQuiet _ _ _ _ ({ dst := some 41, op := Op.load _ _, type := _, pos := _, after := _, guard := _ } :: _) _); go_must (refine quiet_load_at (by kernel_rfl) 60 (.tmp 40) rfl ⟨w.heap.size, 67, none⟩ f _ Try.underlying60 rfl SF.out (by rintro _ ⟨nq, rfl⟩; exact C4.out) ?_ ?_; go_simp; go_simp))
            | go_big_quiet_step (fail))
          refine wpQuiet_nil ?_
          intro nq
          go_wp2_with fail
          go_roundw
          case rel => exact ⟨k + 1, j + nq, by have := HJ.out; omega, by rw [← HJ.out]; go_num, by simp⟩
          case measure => simp [intOf]; omega
        · have hj2 : ¬ (((n + k : Nat) : Int) < (c : Int)) := by omega
          generalize n + k = t at *
          go_wp2_with fail
          go_ret
          exact ⟨rfl, grown_trans G0 ⟨rfl, rfl, rfl, Nat.le_refl _, fun _ _ _ => rfl⟩⟩
set_option maxHeartbeats 400000 in
theorem signHo_nil (b : Bool) (h f : List Value) (w : World) :
    Calls Try.prog 73 #[.agg (sheetC (.slice none 0 0) h f).toArray, .bool b] w fun e w' => e = .returned (.tuple #[]) ∧ w.grownBy w' none := by
  have G0 := World.grownBy_alloc w (.cells (sheetC (.slice none 0 0) h f).toArray 77) none
  have b0 : (w.alloc (.cells (sheetC (.slice none 0 0) h f).toArray 77)).cell? ⟨w.heap.size, 0, none⟩ = some (.slice none 0 0) := (Row.new w 77 (sheetC (.slice none 0 0) h f)).cell 0
  generalize (sheetC (.slice none 0 0) h f).toArray = C at *
  cases b
  · go_enter Try.func73, Try.ntmps73
    go_wp2
    go_loop [4] (fun i => i = .int .i64 0) (fun _ => 0)
    case atStart => rfl
    case round =>
      subst hrel
      go_wp2
      refine bodyPost_ret (results_none rfl _ _ _) rfl ?_
      exact ⟨rfl, G0⟩
  · go_enter Try.func73, Try.ntmps73
    go_wp2
    go_loop [6] (fun i => i = .int .i64 0) (fun _ => 0)
    case atStart => rfl
    case round =>
      subst hrel
      go_wp2
      go_end0
      exact ⟨rfl, G0⟩
set_option maxHeartbeats 400000 in
theorem ownHo_nil (h f : List Value) (w : World) :
    Calls Try.prog 72 #[.agg (sheetC (.slice none 0 0) h f).toArray] w fun e w' => e = .returned (.bool true) ∧ w.grownBy w' none := by
  have G0 := World.grownBy_alloc w (.cells (sheetC (.slice none 0 0) h f).toArray 77) none
  have b0 : (w.alloc (.cells (sheetC (.slice none 0 0) h f).toArray 77)).cell? ⟨w.heap.size, 0, none⟩ = some (.slice none 0 0) := (Row.new w 77 (sheetC (.slice none 0 0) h f)).cell 0
  generalize (sheetC (.slice none 0 0) h f).toArray = C at *
  go_enter Try.func72, Try.ntmps72
  go_wp2
  go_loop [3] (fun i => i = .int .i64 0) (fun _ => 0)
  case atStart => rfl
  case round =>
    subst hrel
    go_wp2
    go_loop [5] (fun i => i = .int .i64 0) (fun _ => 0)
    case atStart => rfl
    case round =>
      subst hrel
      go_wp2
      go_ret
      exact ⟨rfl, G0⟩
end Go.Proofs.Ytpkkgmmcindfgaa

/-
  Of part BookHo: what is needed here.
-/
namespace Go.Proofs.Ytpkkgmmcindfgaa
open Go.RowKit
set_option linter.unusedVariables false
set_option maxRecDepth 100000
theorem hold_is {x : LHold} (hk : x.k.length = 32) (ho : x.a.o.length = 32) : IsHo x.cells := ⟨hold_len hk ho, hold_one x, fun w => by rw [hold_neq hk hk ho ho]; simp, size_hold hk ho⟩
def hoK (z : List Int) : List Value := LHold.cells ⟨z, blank13⟩
theorem hoK_len {z : List Int} (h : z.length = 32) : (hoK z).length = 66 := hold_len (x := ⟨z, blank13⟩) h rfl
theorem built_holdK {z : List Int} (hz : z.length = 32) : Try.prog.built 60 [(0, .agg (bv z).toArray)] = some (hoK z).toArray := by
  have h : ∀ l : List Value, l.length = 32 → Try.prog.built 60 [(0, .agg l.toArray)] = some (l ++ blank13.cells).toArray := fun l hl => by
    obtain ⟨f, rfl⟩ : ∃ f : Fin 32 → Value, l = List.ofFn f := ⟨fun i => l.getD i undef, by
      refine List.ext_getElem (by simpa using hl) fun i h1 h2 => ?_
      rw [List.getElem_ofFn, List.getD_eq_getElem?_getD, List.getElem?_eq_getElem h1]
      rfl⟩
    kernel_rfl
  exact h (bv z) (by rw [bv_length, hz])
theorem holds_is {L : List LHold} (h : ∀ x ∈ L, HoldOk x) : ∀ k ∈ L.map LHold.cells, IsHo k := fun k hk => by
  obtain ⟨x, hx, rfl⟩ := List.mem_map.1 hk
  exact hold_is (h x hx).k.1 (h x hx).a.o.1
theorem built_sheetHo (B : Option Addr) (m d : Nat) (h f : List Value) (h1 : h.length = 66) (h2 : f.length = 66) : Try.prog.built 77 [(0, .slice B m d), (1, .agg h.toArray), (2, .agg f.toArray)] = some (sheetC (.slice B m d) h f).toArray := by
  obtain ⟨u, rfl⟩ : ∃ u : Fin 66 → Value, h = List.ofFn u := ⟨fun i => h.getD i undef, by
    refine List.ext_getElem (by simpa using h1) fun i h3 h4 => ?_
    rw [List.getElem_ofFn, List.getD_eq_getElem?_getD, List.getElem?_eq_getElem h3]
    rfl⟩
  obtain ⟨g, rfl⟩ : ∃ u : Fin 66 → Value, f = List.ofFn u := ⟨fun i => f.getD i undef, by
    refine List.ext_getElem (by simpa using h2) fun i h3 h4 => ?_
    rw [List.getElem_ofFn, List.getD_eq_getElem?_getD, List.getElem?_eq_getElem h3]
    rfl⟩
  kernel_rfl
set_option maxRecDepth 100000 in
set_option maxHeartbeats 4000000 in
theorem bookHoldings (p base : Nat) (A B : Option Addr) (n c m d : Nat) (ps : List Value) (w0 w : World) (h : BookW w0 p base A n c ps w) (hn : n ≤ 1000000) :
    Calls Try.prog 22 #[.pointer (some ⟨p, 0, none⟩), .slice B m d] w fun e w' => ∃ z1 z2 A' c', e = .returned (.tuple #[]) ∧ IsHo z1 ∧ IsHo z2 ∧
      BookW w0 p base A' (n + 1) c' (ps ++ [.iface 77 (.agg (sheetC (.slice B m d) z1 z2).toArray)]) w' := by
  obtain ⟨i0, hi, hz0, hz1, hz2⟩ := info_parts info_page
  have HI := Lib.hid (And.intro hi (And.intro hz0 (And.intro hz1 hz2)))
  have HM : Hid (∀ z : List Int, z.length = 32 → IsHo (hoK z)) := Lib.hid fun z hz => hold_is (x := ⟨z, blank13⟩) hz rfl
  have HN := Lib.hid (number_ p A n c w h.row hn)
  have H0 := Lib.hid (h.drewN 1)
  clear h hi hz0 hz1 hz2
  go_enter Try.func22, Try.ntmps22
  go_wp2_with fail
  refine HN.out.mono ?_
  rintro e w1 ⟨rfl, rfl⟩
  go_wp2_with fail
  refine wp_region_held (S := fun _ => True) (by kernel_rfl) ?_
  try (change wpAnyH _ _ _ _ _ _ _ _ (World.drew _))
  refine takeL (i := 0) (v := ?_) rfl (by kernel_rfl) (by kernel_rfl) (by kernel_rfl) (fun _ _ _ h => h) (Or.inl ⟨by rfl, ?_⟩) trivial ?_
  rotate_left
  · intro w _
    go_simp
    try with_reducible rfl
  try simp only [Act.put, List.setIfInBounds_toArray, List.set_cons_zero, List.set_cons_succ]
  refine takeL (i := 1) (v := ?_) rfl (by kernel_rfl) (by kernel_rfl) (by kernel_rfl) (fun _ _ _ h => h) (Or.inl ⟨by rfl, ?_⟩) trivial ?_
  rotate_left
  · intro w _
    go_simp
    try with_reducible rfl
  try simp only [Act.put, List.setIfInBounds_toArray, List.set_cons_zero, List.set_cons_succ]
  refine takeL (i := 2) (v := ?_) rfl (by kernel_rfl) (by kernel_rfl) (by kernel_rfl) (fun _ _ _ h => h) (Or.inl ⟨by rfl, ?_⟩) trivial ?_
  rotate_left
  · intro w _
    go_simp
    try with_reducible rfl
  try simp only [Act.put, List.setIfInBounds_toArray, List.set_cons_zero, List.set_cons_succ]
  refine takeL (i := 3) (v := ?_) rfl (by kernel_rfl) (by kernel_rfl) (by kernel_rfl) (fun _ _ _ h => h) (Or.inl ⟨by rfl, ?_⟩) trivial ?_
  rotate_left
  · intro w _
    go_simp
    try with_reducible rfl
  try simp only [Act.put, List.setIfInBounds_toArray, List.set_cons_zero, List.set_cons_succ]
  refine takeL (i := 5) (v := ?_) rfl (by kernel_rfl) (by kernel_rfl) (by kernel_rfl) (fun _ _ _ h => h) (Or.inl ⟨by rfl, ?_⟩) trivial ?_
  rotate_left
  · intro w _
    go_simp
    try with_reducible rfl
  try simp only [Act.put, List.setIfInBounds_toArray, List.set_cons_zero, List.set_cons_succ]
  refine takeL (i := 6) (v := ?_) rfl (by kernel_rfl) (by kernel_rfl) (by kernel_rfl) (fun _ _ _ h => h) (Or.inl ⟨by rfl, ?_⟩) trivial ?_
  rotate_left
  · intro w _
    go_simp
    try with_reducible rfl
  try simp only [Act.put, List.setIfInBounds_toArray, List.set_cons_zero, List.set_cons_succ]
  refine takeL (i := 9) (v := ?_) rfl (by kernel_rfl) (by kernel_rfl) (by kernel_rfl) (fun _ _ _ h => h) (Or.inl ⟨by rfl, ?_⟩) trivial ?_
  rotate_left
  · intro w _
    go_simp
    try with_reducible rfl
  try simp only [Act.put, List.setIfInBounds_toArray, List.set_cons_zero, List.set_cons_succ]
  refine wpAnyH_ready (rs := [4, 7]) (by kernel_rfl) (by simp) ?_
  refine allL rfl (by kernel_rfl) (fun K hK => ?_) (allL rfl (by kernel_rfl) (fun K hK => ?_) (AllReadyH.nil))
  · have c1 : w.drew.cell? ⟨p, 0, none⟩ = some (.slice A n c) := H0.out.row.cell 0
    go_simp
    clear c1
    refine hK _ _ trivial ?_
    clear hK K
    try simp only [Act.put, List.setIfInBounds_toArray, List.set_cons_zero, List.set_cons_succ]
    refine readyL (i := 7) rfl (by kernel_rfl) (by kernel_rfl) fun K hK => ?_
    go_simp
    refine (keyMark _ _ _).mono ?_
    rintro e w12 ⟨z1, rfl, hz1, hb⟩
    have H12 := Lib.hid (H0.out.below hb)
    clear hb
    simp only []
    refine hK _ _ trivial ?_
    clear hK K
    try simp only [Act.put, List.setIfInBounds_toArray, List.set_cons_zero, List.set_cons_succ]
    refine takeL (i := 8) (v := .agg (hoK z1).toArray) rfl (by kernel_rfl) (by kernel_rfl) (by kernel_rfl) (fun _ _ _ h => h) (Or.inl ⟨by rfl, fun w _ => ?_⟩) trivial ?_
    · exact exec_built w _ _ _ rfl (by simp only [List.map_toArray, List.map_cons, List.map_nil]; exact built_holdK (z := z1) hz1)
    try simp only [Act.put, List.setIfInBounds_toArray, List.set_cons_zero, List.set_cons_succ]
    refine readyL (i := 10) rfl (by kernel_rfl) (by kernel_rfl) fun K hK => ?_
    go_simp
    refine (keyMark _ _ _).mono ?_
    rintro e w23 ⟨z2, rfl, hz2, hb⟩
    have H23 := Lib.hid (H12.out.below hb)
    clear hb
    simp only []
    refine hK _ _ trivial ?_
    clear hK K
    try simp only [Act.put, List.setIfInBounds_toArray, List.set_cons_zero, List.set_cons_succ]
    refine takeL (i := 11) (v := .agg (hoK z2).toArray) rfl (by kernel_rfl) (by kernel_rfl) (by kernel_rfl) (fun _ _ _ h => h) (Or.inl ⟨by rfl, fun w _ => ?_⟩) trivial ?_
    · exact exec_built w _ _ _ rfl (by simp only [List.map_toArray, List.map_cons, List.map_nil]; exact built_holdK (z := z2) hz2)
    try simp only [Act.put, List.setIfInBounds_toArray, List.set_cons_zero, List.set_cons_succ]
    refine takeL (i := 12) (v := .agg (sheetC (.slice B m d) (hoK z1) (hoK z2)).toArray) rfl (by kernel_rfl) (by kernel_rfl) (by kernel_rfl) (fun _ _ _ h => h) (Or.inl ⟨by rfl, fun w _ => ?_⟩) trivial ?_
    · exact exec_built w _ _ _ rfl (by simp only [List.map_toArray, List.map_cons, List.map_nil]; exact built_sheetHo B m d _ _ (hoK_len hz1) (hoK_len hz2))
    try simp only [Act.put, List.setIfInBounds_toArray, List.set_cons_zero, List.set_cons_succ]
    refine takeL (i := 13) (v := ?_) rfl (by kernel_rfl) (by kernel_rfl) (by kernel_rfl) (fun _ _ _ h => h) (Or.inl ⟨by rfl, ?_⟩) trivial ?_
    rotate_left
    · intro w _
      go_simp
      try with_reducible rfl
    try simp only [Act.put, List.setIfInBounds_toArray, List.set_cons_zero, List.set_cons_succ]
    refine readyL (i := 14) rfl (by kernel_rfl) (by kernel_rfl) fun K hK => ?_
    go_simp
    refine hK _ _ trivial ?_
    clear hK K
    try simp only [Act.put, List.setIfInBounds_toArray, List.set_cons_zero, List.set_cons_succ]
    have HB4 := Lib.hid (H23.out.alloc (.cells [Value.iface 77 (.agg (sheetC (.slice B m d) (hoK z1) (hoK z2)).toArray)].toArray 79))
    have hsee := (Row.new w23 79 [Value.iface 77 (.agg (sheetC (.slice B m d) (hoK z1) (hoK z2)).toArray)]).sees0
    have HSEE := Lib.hid hsee
    clear hsee
    refine readyL (i := 15) rfl (by kernel_rfl) (by kernel_rfl) fun K hK => ?_
    refine wp_append_sees (.tmp 11) (.tmp 21) rfl Try.underlying48 HI.out.1 HI.out.2.1 HI.out.2.2.1 HI.out.2.2.2 rfl rfl HB4.out.own rfl HSEE.out (by simp [Value.oneCell']) (by unfold maxLen; omega) (by omega) HB4.out.lt ?_
    intro v5 w5 ho5 hg5 hat5
    obtain ⟨A5, c5, rfl⟩ := own_form ho5
    refine hK _ _ trivial ?_
    clear hK K
    try simp only [Act.put, List.setIfInBounds_toArray, List.set_cons_zero, List.set_cons_succ]
    have hr5 := HB4.out.row.grown hg5 (own_row_ne HB4.out.own HB4.out.row (by decide))
    have e5 : w5.cell? ⟨p, 0, none⟩ = some (.slice A n c) := hr5.cell 0
    have g5 := hr5.frozen 0
    refine takeL (i := 16) (v := ?_) rfl (by kernel_rfl) (by kernel_rfl) (by kernel_rfl) (fun _ _ _ h => h) (Or.inl ⟨by rfl, ?_⟩) trivial ?_
    rotate_left
    · intro w _
      go_simp
      try with_reducible rfl
    try simp only [Act.put, List.setIfInBounds_toArray, List.set_cons_zero, List.set_cons_succ]
    refine takeL (i := 17) (v := ?_) rfl (by kernel_rfl) (by kernel_rfl) (by kernel_rfl) (fun _ _ _ h => h) (Or.inl ⟨by rfl, ?_⟩) trivial ?_
    rotate_left
    · intro w _
      go_simp
      try with_reducible rfl
    try simp only [Act.put, List.setIfInBounds_toArray, List.set_cons_zero, List.set_cons_succ]
    refine readyL (i := 18) rfl (by kernel_rfl) (by kernel_rfl) fun K hK => ?_
    go_simp
    refine hK _ _ trivial ?_
    clear hK K
    try simp only [Act.put, List.setIfInBounds_toArray, List.set_cons_zero, List.set_cons_succ]
    refine wpAnyH_done (by kernel_rfl) ?_ _
    have HE := Lib.hid (HB4.out.last hr5 ho5 hg5)
    clear e5 g5 hr5 ho5 hg5 hat5
    go_wp2_with fail
    go_end0
    exact ⟨_, _, A5, c5, rfl, HM.out z1 hz1, HM.out z2 hz2, HE.out⟩
  · go_simp
    refine (keyMark _ _ _).mono ?_
    rintro e w11 ⟨z1, rfl, hz1, hb⟩
    have H11 := Lib.hid (H0.out.below hb)
    clear hb
    simp only []
    refine hK _ _ trivial ?_
    clear hK K
    try simp only [Act.put, List.setIfInBounds_toArray, List.set_cons_zero, List.set_cons_succ]
    refine takeL (i := 8) (v := .agg (hoK z1).toArray) rfl (by kernel_rfl) (by kernel_rfl) (by kernel_rfl) (fun _ _ _ h => h) (Or.inl ⟨by rfl, fun w _ => ?_⟩) trivial ?_
    · exact exec_built w _ _ _ rfl (by simp only [List.map_toArray, List.map_cons, List.map_nil]; exact built_holdK (z := z1) hz1)
    try simp only [Act.put, List.setIfInBounds_toArray, List.set_cons_zero, List.set_cons_succ]
    refine wpAnyH_ready (rs := [4, 10]) (by kernel_rfl) (by simp) ?_
    refine allL rfl (by kernel_rfl) (fun K hK => ?_) (allL rfl (by kernel_rfl) (fun K hK => ?_) (AllReadyH.nil))
    · have c2 : w11.cell? ⟨p, 0, none⟩ = some (.slice A n c) := H11.out.row.cell 0
      go_simp
      clear c2
      refine hK _ _ trivial ?_
      clear hK K
      try simp only [Act.put, List.setIfInBounds_toArray, List.set_cons_zero, List.set_cons_succ]
      refine readyL (i := 10) rfl (by kernel_rfl) (by kernel_rfl) fun K hK => ?_
      go_simp
      refine (keyMark _ _ _).mono ?_
      rintro e w23 ⟨z2, rfl, hz2, hb⟩
      have H23 := Lib.hid (H11.out.below hb)
      clear hb
      simp only []
      refine hK _ _ trivial ?_
      clear hK K
      try simp only [Act.put, List.setIfInBounds_toArray, List.set_cons_zero, List.set_cons_succ]
      refine takeL (i := 11) (v := .agg (hoK z2).toArray) rfl (by kernel_rfl) (by kernel_rfl) (by kernel_rfl) (fun _ _ _ h => h) (Or.inl ⟨by rfl, fun w _ => ?_⟩) trivial ?_
      · exact exec_built w _ _ _ rfl (by simp only [List.map_toArray, List.map_cons, List.map_nil]; exact built_holdK (z := z2) hz2)
      try simp only [Act.put, List.setIfInBounds_toArray, List.set_cons_zero, List.set_cons_succ]
      refine takeL (i := 12) (v := .agg (sheetC (.slice B m d) (hoK z1) (hoK z2)).toArray) rfl (by kernel_rfl) (by kernel_rfl) (by kernel_rfl) (fun _ _ _ h => h) (Or.inl ⟨by rfl, fun w _ => ?_⟩) trivial ?_
      · exact exec_built w _ _ _ rfl (by simp only [List.map_toArray, List.map_cons, List.map_nil]; exact built_sheetHo B m d _ _ (hoK_len hz1) (hoK_len hz2))
      try simp only [Act.put, List.setIfInBounds_toArray, List.set_cons_zero, List.set_cons_succ]
      refine takeL (i := 13) (v := ?_) rfl (by kernel_rfl) (by kernel_rfl) (by kernel_rfl) (fun _ _ _ h => h) (Or.inl ⟨by rfl, ?_⟩) trivial ?_
      rotate_left
      · intro w _
        go_simp
        try with_reducible rfl
      try simp only [Act.put, List.setIfInBounds_toArray, List.set_cons_zero, List.set_cons_succ]
      refine readyL (i := 14) rfl (by kernel_rfl) (by kernel_rfl) fun K hK => ?_
      go_simp
      refine hK _ _ trivial ?_
      clear hK K
      try simp only [Act.put, List.setIfInBounds_toArray, List.set_cons_zero, List.set_cons_succ]
      have HB4 := Lib.hid (H23.out.alloc (.cells [Value.iface 77 (.agg (sheetC (.slice B m d) (hoK z1) (hoK z2)).toArray)].toArray 79))
      have hsee := (Row.new w23 79 [Value.iface 77 (.agg (sheetC (.slice B m d) (hoK z1) (hoK z2)).toArray)]).sees0
      have HSEE := Lib.hid hsee
      clear hsee
      refine readyL (i := 15) rfl (by kernel_rfl) (by kernel_rfl) fun K hK => ?_
      refine wp_append_sees (.tmp 11) (.tmp 21) rfl Try.underlying48 HI.out.1 HI.out.2.1 HI.out.2.2.1 HI.out.2.2.2 rfl rfl HB4.out.own rfl HSEE.out (by simp [Value.oneCell']) (by unfold maxLen; omega) (by omega) HB4.out.lt ?_
      intro v5 w5 ho5 hg5 hat5
      obtain ⟨A5, c5, rfl⟩ := own_form ho5
      refine hK _ _ trivial ?_
      clear hK K
      try simp only [Act.put, List.setIfInBounds_toArray, List.set_cons_zero, List.set_cons_succ]
      have hr5 := HB4.out.row.grown hg5 (own_row_ne HB4.out.own HB4.out.row (by decide))
      have e5 : w5.cell? ⟨p, 0, none⟩ = some (.slice A n c) := hr5.cell 0
      have g5 := hr5.frozen 0
      refine takeL (i := 16) (v := ?_) rfl (by kernel_rfl) (by kernel_rfl) (by kernel_rfl) (fun _ _ _ h => h) (Or.inl ⟨by rfl, ?_⟩) trivial ?_
      rotate_left
      · intro w _
        go_simp
        try with_reducible rfl
      try simp only [Act.put, List.setIfInBounds_toArray, List.set_cons_zero, List.set_cons_succ]
      refine takeL (i := 17) (v := ?_) rfl (by kernel_rfl) (by kernel_rfl) (by kernel_rfl) (fun _ _ _ h => h) (Or.inl ⟨by rfl, ?_⟩) trivial ?_
      rotate_left
      · intro w _
        go_simp
        try with_reducible rfl
      try simp only [Act.put, List.setIfInBounds_toArray, List.set_cons_zero, List.set_cons_succ]
      refine readyL (i := 18) rfl (by kernel_rfl) (by kernel_rfl) fun K hK => ?_
      go_simp
      refine hK _ _ trivial ?_
      clear hK K
      try simp only [Act.put, List.setIfInBounds_toArray, List.set_cons_zero, List.set_cons_succ]
      refine wpAnyH_done (by kernel_rfl) ?_ _
      have HE := Lib.hid (HB4.out.last hr5 ho5 hg5)
      clear e5 g5 hr5 ho5 hg5 hat5
      go_wp2_with fail
      go_end0
      exact ⟨_, _, A5, c5, rfl, HM.out z1 hz1, HM.out z2 hz2, HE.out⟩
    · go_simp
      refine (keyMark _ _ _).mono ?_
      rintro e w22 ⟨z2, rfl, hz2, hb⟩
      have H22 := Lib.hid (H11.out.below hb)
      clear hb
      simp only []
      refine hK _ _ trivial ?_
      clear hK K
      try simp only [Act.put, List.setIfInBounds_toArray, List.set_cons_zero, List.set_cons_succ]
      refine takeL (i := 11) (v := .agg (hoK z2).toArray) rfl (by kernel_rfl) (by kernel_rfl) (by kernel_rfl) (fun _ _ _ h => h) (Or.inl ⟨by rfl, fun w _ => ?_⟩) trivial ?_
      · exact exec_built w _ _ _ rfl (by simp only [List.map_toArray, List.map_cons, List.map_nil]; exact built_holdK (z := z2) hz2)
      try simp only [Act.put, List.setIfInBounds_toArray, List.set_cons_zero, List.set_cons_succ]
      refine takeL (i := 12) (v := .agg (sheetC (.slice B m d) (hoK z1) (hoK z2)).toArray) rfl (by kernel_rfl) (by kernel_rfl) (by kernel_rfl) (fun _ _ _ h => h) (Or.inl ⟨by rfl, fun w _ => ?_⟩) trivial ?_
      · exact exec_built w _ _ _ rfl (by simp only [List.map_toArray, List.map_cons, List.map_nil]; exact built_sheetHo B m d _ _ (hoK_len hz1) (hoK_len hz2))
      try simp only [Act.put, List.setIfInBounds_toArray, List.set_cons_zero, List.set_cons_succ]
      refine takeL (i := 13) (v := ?_) rfl (by kernel_rfl) (by kernel_rfl) (by kernel_rfl) (fun _ _ _ h => h) (Or.inl ⟨by rfl, ?_⟩) trivial ?_
      rotate_left
      · intro w _
        go_simp
        try with_reducible rfl
      try simp only [Act.put, List.setIfInBounds_toArray, List.set_cons_zero, List.set_cons_succ]
      refine wpAnyH_ready (rs := [4, 14]) (by kernel_rfl) (by simp) ?_
      refine allL rfl (by kernel_rfl) (fun K hK => ?_) (allL rfl (by kernel_rfl) (fun K hK => ?_) (AllReadyH.nil))
      · have c3 : w22.cell? ⟨p, 0, none⟩ = some (.slice A n c) := H22.out.row.cell 0
        go_simp
        clear c3
        refine hK _ _ trivial ?_
        clear hK K
        try simp only [Act.put, List.setIfInBounds_toArray, List.set_cons_zero, List.set_cons_succ]
        refine readyL (i := 14) rfl (by kernel_rfl) (by kernel_rfl) fun K hK => ?_
        go_simp
        refine hK _ _ trivial ?_
        clear hK K
        try simp only [Act.put, List.setIfInBounds_toArray, List.set_cons_zero, List.set_cons_succ]
        have HB4 := Lib.hid (H22.out.alloc (.cells [Value.iface 77 (.agg (sheetC (.slice B m d) (hoK z1) (hoK z2)).toArray)].toArray 79))
        have hsee := (Row.new w22 79 [Value.iface 77 (.agg (sheetC (.slice B m d) (hoK z1) (hoK z2)).toArray)]).sees0
        have HSEE := Lib.hid hsee
        clear hsee
        refine readyL (i := 15) rfl (by kernel_rfl) (by kernel_rfl) fun K hK => ?_
        refine wp_append_sees (.tmp 11) (.tmp 21) rfl Try.underlying48 HI.out.1 HI.out.2.1 HI.out.2.2.1 HI.out.2.2.2 rfl rfl HB4.out.own rfl HSEE.out (by simp [Value.oneCell']) (by unfold maxLen; omega) (by omega) HB4.out.lt ?_
        intro v5 w5 ho5 hg5 hat5
        obtain ⟨A5, c5, rfl⟩ := own_form ho5
        refine hK _ _ trivial ?_
        clear hK K
        try simp only [Act.put, List.setIfInBounds_toArray, List.set_cons_zero, List.set_cons_succ]
        have hr5 := HB4.out.row.grown hg5 (own_row_ne HB4.out.own HB4.out.row (by decide))
        have e5 : w5.cell? ⟨p, 0, none⟩ = some (.slice A n c) := hr5.cell 0
        have g5 := hr5.frozen 0
        refine takeL (i := 16) (v := ?_) rfl (by kernel_rfl) (by kernel_rfl) (by kernel_rfl) (fun _ _ _ h => h) (Or.inl ⟨by rfl, ?_⟩) trivial ?_
        rotate_left
        · intro w _
          go_simp
          try with_reducible rfl
        try simp only [Act.put, List.setIfInBounds_toArray, List.set_cons_zero, List.set_cons_succ]
        refine takeL (i := 17) (v := ?_) rfl (by kernel_rfl) (by kernel_rfl) (by kernel_rfl) (fun _ _ _ h => h) (Or.inl ⟨by rfl, ?_⟩) trivial ?_
        rotate_left
        · intro w _
          go_simp
          try with_reducible rfl
        try simp only [Act.put, List.setIfInBounds_toArray, List.set_cons_zero, List.set_cons_succ]
        refine readyL (i := 18) rfl (by kernel_rfl) (by kernel_rfl) fun K hK => ?_
        go_simp
        refine hK _ _ trivial ?_
        clear hK K
        try simp only [Act.put, List.setIfInBounds_toArray, List.set_cons_zero, List.set_cons_succ]
        refine wpAnyH_done (by kernel_rfl) ?_ _
        have HE := Lib.hid (HB4.out.last hr5 ho5 hg5)
        clear e5 g5 hr5 ho5 hg5 hat5
        go_wp2_with fail
        go_end0
        exact ⟨_, _, A5, c5, rfl, HM.out z1 hz1, HM.out z2 hz2, HE.out⟩
      · go_simp
        refine hK _ _ trivial ?_
        clear hK K
        try simp only [Act.put, List.setIfInBounds_toArray, List.set_cons_zero, List.set_cons_succ]
        have HB3 := Lib.hid (H22.out.alloc (.cells [Value.iface 77 (.agg (sheetC (.slice B m d) (hoK z1) (hoK z2)).toArray)].toArray 79))
        have hsee := (Row.new w22 79 [Value.iface 77 (.agg (sheetC (.slice B m d) (hoK z1) (hoK z2)).toArray)]).sees0
        have HSEE := Lib.hid hsee
        clear hsee
        refine readyL (i := 4) rfl (by kernel_rfl) (by kernel_rfl) fun K hK => ?_
        have c4 : (w22.alloc (.cells [Value.iface 77 (.agg (sheetC (.slice B m d) (hoK z1) (hoK z2)).toArray)].toArray 79)).cell? ⟨p, 0, none⟩ = some (.slice A n c) := HB3.out.row.cell 0
        go_simp
        clear c4
        refine hK _ _ trivial ?_
        clear hK K
        try simp only [Act.put, List.setIfInBounds_toArray, List.set_cons_zero, List.set_cons_succ]
        refine readyL (i := 15) rfl (by kernel_rfl) (by kernel_rfl) fun K hK => ?_
        refine wp_append_sees (.tmp 11) (.tmp 21) rfl Try.underlying48 HI.out.1 HI.out.2.1 HI.out.2.2.1 HI.out.2.2.2 rfl rfl HB3.out.own rfl HSEE.out (by simp [Value.oneCell']) (by unfold maxLen; omega) (by omega) HB3.out.lt ?_
        intro v5 w5 ho5 hg5 hat5
        obtain ⟨A5, c5, rfl⟩ := own_form ho5
        refine hK _ _ trivial ?_
        clear hK K
        try simp only [Act.put, List.setIfInBounds_toArray, List.set_cons_zero, List.set_cons_succ]
        have hr5 := HB3.out.row.grown hg5 (own_row_ne HB3.out.own HB3.out.row (by decide))
        have e5 : w5.cell? ⟨p, 0, none⟩ = some (.slice A n c) := hr5.cell 0
        have g5 := hr5.frozen 0
        refine takeL (i := 16) (v := ?_) rfl (by kernel_rfl) (by kernel_rfl) (by kernel_rfl) (fun _ _ _ h => h) (Or.inl ⟨by rfl, ?_⟩) trivial ?_
        rotate_left
        · intro w _
          go_simp
          try with_reducible rfl
        try simp only [Act.put, List.setIfInBounds_toArray, List.set_cons_zero, List.set_cons_succ]
        refine takeL (i := 17) (v := ?_) rfl (by kernel_rfl) (by kernel_rfl) (by kernel_rfl) (fun _ _ _ h => h) (Or.inl ⟨by rfl, ?_⟩) trivial ?_
        rotate_left
        · intro w _
          go_simp
          try with_reducible rfl
        try simp only [Act.put, List.setIfInBounds_toArray, List.set_cons_zero, List.set_cons_succ]
        refine readyL (i := 18) rfl (by kernel_rfl) (by kernel_rfl) fun K hK => ?_
        go_simp
        refine hK _ _ trivial ?_
        clear hK K
        try simp only [Act.put, List.setIfInBounds_toArray, List.set_cons_zero, List.set_cons_succ]
        refine wpAnyH_done (by kernel_rfl) ?_ _
        have HE := Lib.hid (HB3.out.last hr5 ho5 hg5)
        clear e5 g5 hr5 ho5 hg5 hat5
        go_wp2_with fail
        go_end0
        exact ⟨_, _, A5, c5, rfl, HM.out z1 hz1, HM.out z2 hz2, HE.out⟩
end Go.Proofs.Ytpkkgmmcindfgaa

/-
  Of part Pages: what is needed here.
-/
namespace Go.Proofs.Ytpkkgmmcindfgaa
open Go.RowKit
set_option linter.unusedVariables false
set_option maxRecDepth 100000
/-- a page's kind -/
inductive Kd where
  | ho
/-- a page's kind, with its two signs -/
inductive Sg where
  | ho (h f : List Value)
def Sg.et : Sg → TypeId
  | .ho _ _ => 60
def Sg.sz : Sg → Nat
  | .ho _ _ => 66
def Sg.here : Sg → Nat → List Value
  | .ho h _, n => rowOf n h
def Sg.far : Sg → Nat → List Value
  | .ho _ f, n => rowOf n f
def Sg.pay : Sg → Value → Value
  | .ho h f, l => .agg (sheetC l h f).toArray
def Sg.ty : Sg → TypeId
  | .ho _ _ => 77
def Sg.Wf : Sg → Prop
  | .ho h f => IsHo h ∧ IsHo f
def Sg.signFn : Sg → FuncId
  | .ho _ _ => 73
def Sg.ownFn : Sg → FuncId
  | .ho _ _ => 72
/-- a page: where its list lies, how long it is, its room, its kind -/
structure Pg2 where
  A : Option Nat
  n : Nat
  c : Nat
  s : Sg
def Pg2.list (p : Pg2) : Value := .slice (p.A.map fun g => ⟨g, 0, none⟩) p.n p.c
def Pg2.val (p : Pg2) : Value := .iface p.s.ty (p.s.pay p.list)
/-- the page's list lies in memory; a: its cells bear its sign; b: its room bears its other one -/
def Pg2.Fit (w : World) (q : Pg2) (a b : Prop) : Prop :=
  match q.A with
  | none => q.n = 0 ∧ q.c = 0
  | some g => q.n ≤ q.c ∧ q.c ≤ 9223372036854775807 ∧ ∃ xs ys zs, Row w g q.s.et (xs ++ (ys ++ zs)) ∧ xs.length = q.n * q.s.sz ∧ ys.length = (q.c - q.n) * q.s.sz ∧ (q.s.sz = 64 → zs = []) ∧ (a → xs = q.s.here q.n) ∧ (b → ys = q.s.far (q.c - q.n))
theorem Pg2.Fit.keep {w w' : World} {q : Pg2} {a b : Prop} {r : Option Nat} (h : q.Fit w a b) (hg : w.grownBy w' r) (hne : ∀ g, q.A = some g → some g ≠ r) : q.Fit w' a b := by
  obtain ⟨A, n, c, s⟩ := q
  cases A with
  | none => exact h
  | some g =>
    obtain ⟨h1, h2, xs, ys, zs, hr, h3⟩ := h
    exact ⟨h1, h2, xs, ys, zs, hr.grown hg (hne g rfl), h3⟩
theorem sign_page2 (q : Pg2) (w : World) (a b : Prop) (h : q.Fit w a b) (hs : q.s.Wf) :
    Calls Try.prog q.s.signFn #[q.s.pay q.list, .bool false] w fun e w' => e = .returned (.tuple #[]) ∧ q.Fit w' True b ∧ w.grownBy w' q.A := by
  obtain ⟨A, n, c, s⟩ := q
  cases A with
  | none =>
    obtain ⟨rfl, rfl⟩ := h
    cases s with
    | ho hh ff =>
      refine (signHo_nil false hh ff w).mono ?_
      rintro e w' ⟨rfl, hg⟩
      exact ⟨rfl, ⟨rfl, rfl⟩, hg⟩
  | some g =>
    obtain ⟨h1, h2, xs, ys, zs, hr, h3, h4, hz, h5, h6⟩ := h
    have h1 : n ≤ c := h1
    cases s with
    | ho hh ff =>
      have h3' : xs.length = n * 66 := h3
      have h4' : ys.length = (c - n) * 66 := h4
      refine (signHo_false g n c hh ff (xs ++ (ys ++ zs)) w hr (by simp only [List.length_append]; omega) h1 h2 hs.1 hs.2).mono ?_
      rintro e w' ⟨rfl, hr', hg⟩
      refine ⟨rfl, ⟨h1, h2, rowOf n hh, ys, zs, ?_, rowOf_len n hs.1.len, h4, hz, fun _ => rfl, h6⟩, hg⟩
      rwa [List.drop_append_of_le_length (by omega), List.drop_of_length_le (by omega), List.nil_append] at hr'
theorem sign_room2 (q : Pg2) (w : World) (a b : Prop) (h : q.Fit w a b) (hs : q.s.Wf) :
    Calls Try.prog q.s.signFn #[q.s.pay q.list, .bool true] w fun e w' => e = .returned (.tuple #[]) ∧ q.Fit w' a True ∧ w.grownBy w' q.A := by
  obtain ⟨A, n, c, s⟩ := q
  cases A with
  | none =>
    obtain ⟨rfl, rfl⟩ := h
    cases s with
    | ho hh ff =>
      refine (signHo_nil true hh ff w).mono ?_
      rintro e w' ⟨rfl, hg⟩
      exact ⟨rfl, ⟨rfl, rfl⟩, hg⟩
  | some g =>
    obtain ⟨h1, h2, xs, ys, zs, hr, h3, h4, hz, h5, h6⟩ := h
    have h1 : n ≤ c := h1
    cases s with
    | ho hh ff =>
      have h4' : ys.length = (c - n) * 66 := h4
      refine (signHo_true g n c hh ff xs (ys ++ zs) w hr h3 (by rw [List.length_append]; omega) h1 h2 hs.1 hs.2).mono ?_
      rintro e w' ⟨rfl, hr', hg⟩
      rw [List.drop_append_of_le_length (by omega), List.drop_of_length_le (by omega), List.nil_append] at hr'
      exact ⟨rfl, ⟨h1, h2, xs, _, zs, hr', h3, rowOf_len _ hs.2.len, hz, h5, fun _ => rfl⟩, hg⟩
theorem own_page2 (q : Pg2) (w : World) (h : q.Fit w True True) (hs : q.s.Wf) :
    Calls Try.prog q.s.ownFn #[q.s.pay q.list] w fun e w' => e = .returned (.bool true) ∧ w.grownBy w' none := by
  obtain ⟨A, n, c, s⟩ := q
  cases A with
  | none =>
    obtain ⟨rfl, rfl⟩ := h
    cases s with
    | ho hh ff => exact ownHo_nil hh ff w
  | some g =>
    obtain ⟨h1, h2, xs, ys, zs, hr, h3, h4, hz, h5, h6⟩ := h
    rw [h5 trivial, h6 trivial] at hr
    cases s with
    | ho hh ff => exact ownHo_true g n c hh ff zs w hr h1 h2 hs.1 hs.2
/-- of the blocks of w only the pages' have been written -/
structure Touched (P : List Pg2) (w w' : World) : Prop where
  os : w'.os = w.os
  tape : w'.tape = w.tape
  output : w'.output = w.output
  size : w.heap.size ≤ w'.heap.size
  block : ∀ k, k < w.heap.size → (∀ q ∈ P, q.A ≠ some k) → w'.heap[k]? = w.heap[k]?
theorem Touched.refl (P : List Pg2) (w : World) : Touched P w w := ⟨rfl, rfl, rfl, Nat.le_refl _, fun _ _ _ => rfl⟩
theorem Touched.step {P : List Pg2} {w a b : World} {r : Option Nat} (h : Touched P w a) (hg : a.grownBy b r) (hr : ∀ g, r = some g → ∃ q ∈ P, q.A = some g) : Touched P w b :=
  ⟨hg.os.trans h.os, hg.tape.trans h.tape, hg.output.trans h.output, Nat.le_trans h.size hg.size, fun k hk hne => by
    rw [hg.block k (Nat.lt_of_lt_of_le hk h.size) (fun e => by obtain ⟨q, hq, e'⟩ := hr k e.symm; exact hne q hq e'), h.block k hk hne]⟩
theorem Touched.below {P : List Pg2} {w w' : World} {B : Nat} (h : Touched P w w') (hB : B ≤ w.heap.size) (hp : ∀ q ∈ P, ∀ g, q.A = some g → B ≤ g) : Below B w w' :=
  ⟨h.os, h.tape, h.output, h.size, fun k hk => h.block k (by omega) fun q hq e => by have := hp q hq k e; omega⟩
/-- the book, with its pages, in memory -/
structure BookAt (w : World) (p : Nat) (base : Nat) (A : Option Addr) (c : Nat) (P : List Pg2) (ka kb : Nat) : Prop where
  row : Row w p 50 [.slice A P.length c]
  own : w.ownsRow base 79 1 (.slice A P.length c) P.length (P.map Pg2.val)
  fit : ∀ i (hi : i < P.length), P[i].Fit w (i < ka) (i < kb)
def Parted (P : List Pg2) : Prop := ∀ i j (hi : i < P.length) (hj : j < P.length) g, P[i].A = some g → P[j].A = some g → i = j
theorem row_ne {w : World} {g g' t t' : Nat} {xs ys : List Value} (h : Row w g t xs) (h' : Row w g' t' ys) (hne : t ≠ t') : g ≠ g' := by
  rintro rfl
  have a := h.is
  rw [h'.is] at a
  injection a with a
  injection a with _ a
  exact hne a.symm
theorem Fit_row {w : World} {q : Pg2} {a b : Prop} {g : Nat} (h : q.Fit w a b) (hg : q.A = some g) : ∃ xs, Row w g q.s.et xs := by
  obtain ⟨A, n, c, s⟩ := q
  cases hg
  obtain ⟨_, _, xs, ys, zs, hr, _⟩ := h
  exact ⟨_, hr⟩
theorem et_book (s : Sg) : 50 ≠ s.et := by
  cases s with
  | ho => exact (by decide : (50 : Nat) ≠ 60)
theorem et_page (s : Sg) : 79 ≠ s.et := by
  cases s with
  | ho => exact (by decide : (79 : Nat) ≠ 60)
/-- a page is signed: the others stay -/
theorem BookAt.signed {w w' : World} {p base : Nat} {A : Option Addr} {c : Nat} {P : List Pg2} {ka kb : Nat} (h : BookAt w p base A c P ka kb) (hP : Parted P) {k : Nat} (hk : k < P.length) {a b : Prop}
    (hf : P[k].Fit w' a b) (hg : w.grownBy w' P[k].A) {ka' kb' : Nat} (h1 : (k < ka') → a) (h2 : (k < kb') → b) (h3 : ∀ i, i ≠ k → (i < ka' → i < ka)) (h4 : ∀ i, i ≠ k → (i < kb' → i < kb)) : BookAt w' p base A c P ka' kb' := by
  have fitk := h.fit k hk
  refine ⟨h.row.grown hg ?_, h.own.kept hg ?_, fun i hi => ?_⟩
  · intro e
    obtain ⟨xs, hr⟩ := Fit_row fitk e.symm
    exact row_ne h.row hr (et_book _) rfl
  · cases e : P[k].A with
    | none => cases (Value.slice A P.length c).ownBlock <;> simp
    | some g =>
      obtain ⟨xs, hr⟩ := Fit_row fitk e
      exact .inr (fun e' => own_row_ne h.own hr (et_page _) e'.symm)
  · by_cases hik : i = k
    · subst hik
      obtain ⟨⟨A', n', c', s'⟩, hq⟩ : ∃ q, q = P[i] := ⟨_, rfl⟩
      rw [← hq] at hf ⊢
      cases A' with
      | none => exact hf
      | some g =>
        obtain ⟨e1, e2, xs, ys, zs, hr, e3, e4, ez, e5, e6⟩ := hf
        exact ⟨e1, e2, xs, ys, zs, hr, e3, e4, ez, fun x => e5 (h1 x), fun x => e6 (h2 x)⟩
    · have := (h.fit i hi).keep hg (fun g e e' => hik (hP i k hi hk g e e'.symm))
      obtain ⟨⟨A', n', c', s'⟩, hq⟩ : ∃ q, q = P[i] := ⟨_, rfl⟩
      rw [← hq] at this ⊢
      cases A' with
      | none => exact this
      | some g =>
        obtain ⟨e1, e2, xs, ys, zs, hr, e3, e4, ez, e5, e6⟩ := this
        exact ⟨e1, e2, xs, ys, zs, hr, e3, e4, ez, fun x => e5 (h3 i hik x), fun x => e6 (h4 i hik x)⟩
theorem BookAt.page {w : World} {p base : Nat} {A : Option Addr} {c : Nat} {P : List Pg2} {ka kb : Nat} (h : BookAt w p base A c P ka kb) {k : Nat} (hk : k < P.length) : ∃ a, A = some a ∧ w.cell? (a.add k) = some P[k].val := by
  have hl := h.own
  obtain ⟨a, u, e, _, hx, hc⟩ := (Sees.of_own hl).at_ hk
  refine ⟨a, e, ?_⟩
  rw [hc]
  rw [List.getElem?_map, List.getElem?_eq_getElem hk] at hx
  exact hx.symm
theorem meth_signHo (v : Array Value) (w : World) : (method 221 77 (.agg v) "ferryhouse/ferryhouselaw01.sign").run Try.prog w = .ok (73, .agg v) w := by kernel_rfl
theorem meth_ownHo (v : Array Value) (w : World) : (method 221 77 (.agg v) "ferryhouse/ferryhouselaw01.own").run Try.prog w = .ok (72, .agg v) w := by kernel_rfl
theorem meth_sign (s : Sg) (l : Value) (w : World) : (method 221 s.ty (s.pay l) "ferryhouse/ferryhouselaw01.sign").run Try.prog w = .ok (s.signFn, s.pay l) w := by
  cases s with
  | ho h f => exact meth_signHo _ w
theorem meth_own (s : Sg) (l : Value) (w : World) : (method 221 s.ty (s.pay l) "ferryhouse/ferryhouselaw01.own").run Try.prog w = .ok (s.ownFn, s.pay l) w := by
  cases s with
  | ho h f => exact meth_ownHo _ w
theorem call_sign (s : Sg) (args : Array Value) (w : World) : (callFunc s.signFn args).run Try.prog w = .ok (.enter s.signFn args) w := by
  cases s with
  | ho => exact (by kernel_rfl : (callFunc 73 args).run Try.prog w = .ok (.enter 73 args) w)
theorem call_own (s : Sg) (args : Array Value) (w : World) : (callFunc s.ownFn args).run Try.prog w = .ok (.enter s.ownFn args) w := by
  cases s with
  | ho => exact (by kernel_rfl : (callFunc 72 args).run Try.prog w = .ok (.enter 72 args) w)
set_option maxRecDepth 100000 in
set_option maxHeartbeats 1000000 in
theorem apart_many (p : Nat) (A : Option Addr) (n c : Nat) (w : World) (h : Row w p 50 [.slice A n c]) (hn : 120 < n) :
    Calls Try.prog 23 #[.pointer (some ⟨p, 0, none⟩)] w fun e w' => e = .returned (.bool true) ∧ w = w' := by
  have c0 : w.cell? ⟨p, 0, none⟩ = some (.slice A n c) := h.cell 0
  clear h
  go_enter Try.func23, Try.ntmps23
  go_wp2_with fail
  go_ret
  exact ⟨rfl, rfl⟩
set_option maxRecDepth 100000 in
set_option maxHeartbeats 2000000 in
theorem apart (p base : Nat) (A : Option Addr) (c : Nat) (P : List Pg2) (w : World) (h : BookAt w p base A c P 0 0) (hP : Parted P) (hW : ∀ q ∈ P, q.s.Wf) (hn : P.length ≤ 120) :
    Calls Try.prog 23 #[.pointer (some ⟨p, 0, none⟩)] w fun e w' => e = .returned (.bool true) ∧ Touched P w w' := by
  have c0 : w.cell? ⟨p, 0, none⟩ = some (.slice A P.length c) := h.row.cell 0
  obtain ⟨n, hN⟩ : ∃ n, P.length = n := ⟨_, rfl⟩
  have HN := Lib.hid hN
  rw [hN] at c0
  clear hN
  have H := Lib.hid h
  have HW := Lib.hid hW
  have hn : n ≤ 120 := by rw [← HN.out]; exact hn
  clear h hW
  go_enter Try.func23, Try.ntmps23
  go_wp2_with fail
  go_loopw [3] (fun i wr => ∃ k : Nat, k ≤ n ∧ i = .int .i64 k ∧ BookAt wr p base A c P k 0 ∧ Touched P w wr) (fun i _ => n - (intOf i).toNat)
  case atStart => exact ⟨0, Nat.zero_le _, rfl, H.out, Touched.refl _ _⟩
  case round =>
    obtain ⟨k, hk, rfl, hbk, ht⟩ := hrel
    have HB := Lib.hid hbk
    clear c0 H
    have c0 : wr.cell? ⟨p, 0, none⟩ = some (.slice A P.length c) := hbk.row.cell 0
    rw [HN.out] at c0
    by_cases hlt : k < n
    · have hkP : k < P.length := by rw [HN.out]; exact hlt
      obtain ⟨a, rfl, hc⟩ := hbk.page hkP
      have HC := Lib.hid (sign_page2 P[k] wr _ _ (HB.out.fit k hkP) (HW.out _ (List.getElem_mem hkP)))
      have ms := meth_sign P[k].s P[k].list
      have cf := call_sign P[k].s
      simp only [Pg2.val] at hc
      clear hbk
      generalize P[k].s.ty = T at *
      generalize P[k].s.pay P[k].list = V at *
      generalize P[k].s.signFn = FN at *
      go_wp2_with fail
      refine HC.out.mono ?_
      rintro e w2 ⟨rfl, hf, hg⟩
      go_wp2_with fail
      go_roundw
      case rel => exact ⟨k + 1, by omega, by go_num, HB.out.signed hP hkP hf hg (fun _ => trivial) (fun h => h) (fun i hi h => by omega) (fun i _ h => h), ht.step hg (fun g e => ⟨P[k], List.getElem_mem hkP, e⟩)⟩
      case measure => simp [intOf]; omega
    · have hkn : k = n := by omega
      have HB1 : Hid (BookAt wr p base A c P n 0) := by rw [← hkn]; exact HB.out
      clear hbk HB hkn
      go_wp2_with fail
      go_loopw [4] (fun i wr => ∃ k : Nat, k ≤ n ∧ i = .int .i64 k ∧ BookAt wr p base A c P n k ∧ Touched P w wr) (fun i _ => n - (intOf i).toNat)
      case atStart => exact ⟨0, Nat.zero_le _, rfl, HB1.out, ht⟩
      case round =>
        clear c0 HB1 ht
        obtain ⟨k, hk, rfl, hbk, ht⟩ := hrel
        have HB := Lib.hid hbk
        rename World => wr0
        obtain ⟨wr, hwr⟩ : ∃ wr, wr = wr0 := ⟨_, rfl⟩
        subst hwr
        have c0 : wr.cell? ⟨p, 0, none⟩ = some (.slice A P.length c) := hbk.row.cell 0
        rw [HN.out] at c0
        by_cases hlt : k < n
        · have hkP : k < P.length := by rw [HN.out]; exact hlt
          obtain ⟨a, rfl, hc⟩ := hbk.page hkP
          have HC := Lib.hid (sign_room2 P[k] wr _ _ (HB.out.fit k hkP) (HW.out _ (List.getElem_mem hkP)))
          have ms := meth_sign P[k].s P[k].list
          have cf := call_sign P[k].s
          simp only [Pg2.val] at hc
          clear hbk
          generalize P[k].s.ty = T at *
          generalize P[k].s.pay P[k].list = V at *
          generalize P[k].s.signFn = FN at *
          go_wp2_with fail
          refine HC.out.mono ?_
          rintro e w2 ⟨rfl, hf, hg⟩
          go_wp2_with fail
          go_roundw
          case rel => exact ⟨k + 1, by omega, by go_num, HB.out.signed hP hkP hf hg (fun h => h) (fun _ => trivial) (fun i _ h => h) (fun i hi h => by omega), ht.step hg (fun g e => ⟨P[k], List.getElem_mem hkP, e⟩)⟩
          case measure => simp [intOf]; omega
        · have hkn : k = n := by omega
          have HB1 : Hid (BookAt wr p base A c P n n) := by
            have := HB.out
            rw [hkn] at this
            exact this
          clear hbk HB hkn
          go_wp2_with fail
          go_loopw [5] (fun i wr => ∃ k : Nat, k ≤ n ∧ i = .int .i64 k ∧ BookAt wr p base A c P n n ∧ Touched P w wr) (fun i _ => n - (intOf i).toNat)
          case atStart => exact ⟨0, Nat.zero_le _, rfl, HB1.out, ht⟩
          case round =>
            clear c0 HB1 ht
            obtain ⟨k, hk, rfl, hbk, ht⟩ := hrel
            have HB := Lib.hid hbk
            rename World => wr0
            obtain ⟨wr, hwr⟩ : ∃ wr, wr = wr0 := ⟨_, rfl⟩
            subst hwr
            have c0 : wr.cell? ⟨p, 0, none⟩ = some (.slice A P.length c) := hbk.row.cell 0
            rw [HN.out] at c0
            by_cases hlt : k < n
            · have hkP : k < P.length := by rw [HN.out]; exact hlt
              obtain ⟨a, rfl, hc⟩ := hbk.page hkP
              have HC := Lib.hid (own_page2 P[k] wr (by have := HB.out.fit k hkP; simpa [HN.out, hlt] using this) (HW.out _ (List.getElem_mem hkP)))
              have ms := meth_own P[k].s P[k].list
              have cf := call_own P[k].s
              simp only [Pg2.val] at hc
              clear hbk
              generalize P[k].s.ty = T at *
              generalize P[k].s.pay P[k].list = V at *
              generalize P[k].s.ownFn = FN at *
              go_wp2_with fail
              refine HC.out.mono ?_
              rintro e w2 ⟨rfl, hg⟩
              go_wp2_with fail
              go_roundw
              case rel =>
                refine ⟨k + 1, by omega, by go_num, ⟨HB.out.row.grown hg (by simp), HB.out.own.kept hg (by cases (Value.slice (some a) P.length c).ownBlock <;> simp), fun i hi => (HB.out.fit i hi).keep hg (by simp)⟩, ht.step hg (fun g e => by cases e)⟩
              case measure => simp [intOf]; omega
            · clear hbk
              go_wp2_with fail
              go_ret
              exact ⟨rfl, ht⟩
end Go.Proofs.Ytpkkgmmcindfgaa

/-
  Of part BookGen: what is needed here.
-/
namespace Go.Proofs.Ytpkkgmmcindfgaa
open Go.RowKit
set_option linter.unusedVariables false
set_option maxRecDepth 100000
/-- a list: where it lies, how long it is, its room -/
structure Sl where
  A : Option Nat
  n : Nat
  c : Nat
def Sl.val (x : Sl) : Value := .slice (x.A.map fun g => ⟨g, 0, none⟩) x.n x.c
def Sg.isK : Sg → Kd
  | .ho _ _ => .ho
def Pg2.key (q : Pg2) : Sl × Kd := (⟨q.A, q.n, q.c⟩, q.s.isK)
/-- a book of the call's own, from world w0 on, its pages' lists and kinds -/
def Bk (w0 : World) (p base : Nat) (ks : List (Sl × Kd)) (w : World) : Prop :=
  ∃ (P : List Pg2) (A : Option Addr) (c : Nat), P.map Pg2.key = ks ∧ (∀ q ∈ P, q.s.Wf) ∧ BookW w0 p base A P.length c (P.map Pg2.val) w
section
variable {w0 w w' : World} {p base B : Nat} {ks ks' : List (Sl × Kd)}
theorem Bk.start (h : Bk w0 p base ks w) : Bk w p base ks w := by
  obtain ⟨P, A, c, h1, h2, h3⟩ := h
  exact ⟨P, A, c, h1, h2, h3.start⟩
theorem Bk.trans (h : Bk w0 p base ks w) (h' : Bk w p base ks' w') : Bk w0 p base ks' w' := by
  obtain ⟨P, A, c, h1, h2, h3⟩ := h
  obtain ⟨P', A', c', h1', h2', h3'⟩ := h'
  exact ⟨P', A', c', h1', h2', h3.trans h3'⟩
theorem Bk.alloc (h : Bk w0 p base ks w) (o : Obj) : Bk w0 p base ks (w.alloc o) := by
  obtain ⟨P, A, c, h1, h2, h3⟩ := h
  exact ⟨P, A, c, h1, h2, h3.alloc o⟩
theorem Bk.one (h : Bk w0 p base ks w) : ButOne base p w0 w := by
  obtain ⟨P, A, c, h1, h2, h3⟩ := h
  exact h3.one
theorem Bk.row {g t : Nat} {xs : List Value} (h : Bk w0 p base ks w) (hr : Row w0 g t xs) (hg : g ≠ p) (ht : t ≠ 79) : Row w g t xs := by
  obtain ⟨P, A, c, h1, h2, h3⟩ := h
  exact h3.rowK hr hg ht
theorem Bk.plt (h : Bk w0 p base ks w) : p < w.heap.size := by
  obtain ⟨P, A, c, h1, h2, h3⟩ := h
  exact h3.row.lt
end
theorem bkHoldings (p base : Nat) (ks : List (Sl × Kd)) (x : Sl) (w0 w : World) (h : Bk w0 p base ks w) (hn : ks.length ≤ 1000000) :
    Calls Try.prog 22 #[.pointer (some ⟨p, 0, none⟩), x.val] w fun e w' => e = .returned (.tuple #[]) ∧ Bk w0 p base (ks ++ [(x, Kd.ho)]) w' := by
  obtain ⟨P, A, c, h1, h2, h3⟩ := h
  subst h1
  refine (bookHoldings p base A _ P.length c x.n x.c _ w0 w h3 (by simpa using hn)).mono ?_
  rintro e w' ⟨z1, z2, A', c', rfl, hz1, hz2, h4⟩
  refine ⟨rfl, P ++ [⟨x.A, x.n, x.c, .ho z1 z2⟩], A', c', by simp [Pg2.key, Sg.isK], fun q hq => ?_, ?_⟩
  · rcases List.mem_append.1 hq with hq | hq
    · exact h2 q hq
    · obtain rfl : q = _ := List.mem_singleton.1 hq
      exact ⟨hz1, hz2⟩
  · rw [List.length_append, List.map_append]
    exact h4
def ety : Kd → TypeId
  | .ho => 60
def esz : Kd → Nat
  | .ho => 66
/-- a page's list lies in memory, whole -/
def SlFit (w : World) (y : Sl × Kd) : Prop :=
  match y.1.A with
  | none => y.1.n = 0 ∧ y.1.c = 0
  | some g => y.1.n ≤ y.1.c ∧ y.1.c ≤ 9223372036854775807 ∧ ∃ xs, Row w g (ety y.2) xs ∧ y.1.c * esz y.2 ≤ xs.length ∧ (esz y.2 = 64 → xs.length = y.1.c * esz y.2)
theorem SlFit.keep {w w' : World} {y : Sl × Kd} (h : SlFit w y) (hk : ∀ g, y.1.A = some g → w'.heap[g]? = w.heap[g]?) : SlFit w' y := by
  obtain ⟨⟨A, n, c⟩, kd⟩ := y
  cases A with
  | none => exact h
  | some g =>
    obtain ⟨h1, h2, xs, hr, hl⟩ := h
    exact ⟨h1, h2, xs, ⟨(hk g rfl).trans hr.is⟩, hl⟩
/-- the blocks of some pages -/
def blocks (ks : List (Sl × Kd)) : List Nat := ks.filterMap fun y => y.1.A
theorem blocks_app (a b : List (Sl × Kd)) : blocks (a ++ b) = blocks a ++ blocks b := by simp [blocks, List.filterMap_append]
theorem blocks_one (y : Sl × Kd) : ∀ g ∈ blocks [y], y.1.A = some g := by
  intro g hg
  unfold blocks at hg
  rw [List.filterMap_cons] at hg
  split at hg
  · cases hg
  · rename_i h
    simp at hg
    rw [h, hg]
theorem pair_one (y : Sl × Kd) : (blocks [y]).Pairwise (· < ·) := by
  unfold blocks
  rw [List.filterMap_cons]
  split <;> simp
theorem pair_rel {R : Nat → Nat → Prop} : ∀ {P : List Pg2} {i j : Nat} {g g' : Nat}, (P.filterMap fun q => q.A).Pairwise R → i < j → (hi : i < P.length) → (hj : j < P.length) → P[i].A = some g → P[j].A = some g' → R g g'
  | [], i, j, g, g', _, _, hi, _, _, _ => absurd hi (by simp)
  | q :: r, i, j, g, g', h, hij, hi, hj, e, e' => by
    cases j with
    | zero => omega
    | succ j =>
      have hj' : j < r.length := by simpa using hj
      have e'' : r[j].A = some g' := by simpa using e'
      cases i with
      | zero =>
        have e0 : q.A = some g := e
        rw [List.filterMap_cons, e0] at h
        exact (List.pairwise_cons.1 h).1 g' (List.mem_filterMap.2 ⟨r[j], List.getElem_mem hj', e''⟩)
      | succ i =>
        have hr : (r.filterMap fun q => q.A).Pairwise R := by
          rw [List.filterMap_cons] at h
          split at h
          · exact h
          · exact (List.pairwise_cons.1 h).2
        exact pair_rel (i := i) (j := j) hr (by omega) (by simpa using hi) hj' (by simpa using e) e''
/-- of the blocks that there were only these have been written -/
structure OnlyIn (bs : List Nat) (w w' : World) : Prop where
  os : w'.os = w.os
  tape : w'.tape = w.tape
  output : w'.output = w.output
  size : w.heap.size ≤ w'.heap.size
  block : ∀ k, k < w.heap.size → k ∉ bs → w'.heap[k]? = w.heap[k]?
/-- a book that has just been laid -/
theorem Bk.new (w : World) : Bk (w.alloc (.cells #[.slice none 0 0] 50)) w.heap.size w.heap.size [] (w.alloc (.cells #[.slice none 0 0] 50)) := by
  refine ⟨[], none, 0, rfl, by simp, ?_⟩
  exact ⟨Row.new w 50 [.slice none 0 0], World.ownsRow_nil _ _ _ _, ButOne.refl _ _ _, by simp, fun _ _ _ _ => rfl⟩
end Go.Proofs.Ytpkkgmmcindfgaa

/-
  Of part TwinMsg: what is needed here.
-/
namespace Go.Proofs.Ytpkkgmmcindfgaa
open Go.RowKit
set_option linter.unusedVariables false
set_option maxRecDepth 100000
/-- a load of many cells yields them -/
theorem exec_load_at {P : Program} {a : Act} {o : Oper} (w : World) (ty : TypeId) (x : Operand) (ho : o.op = .load ty x) (p : Addr) (cs : List Value) (d : TypeDesc) (hu : P.underlying ty = some d) (hd : d.isRow = true) (hi : (P.info? ty).map (·.size) = some cs.length)
    (hc : ∀ j v, cs[j]? = some v → w.cell? (p.add j) = some v) (hx : a.eval x = .pointer (some p)) : (execOp a.eval o).run P w = .ok (.value (.agg cs.toArray)) w := by
  unfold execOp
  simp only [ho, hx, Sem.run_bind, Sem.run_pure, run_loadAt_at w p ty cs d hc hu hd hi, Result.andThen_ok]
end Go.Proofs.Ytpkkgmmcindfgaa

/-
  Of part Example: what is needed here.
-/
namespace Go.Proofs.Ytpkkgmmcindfgaa
open Go.RowKit
set_option linter.unusedVariables false
set_option maxRecDepth 100000
def xk (a : Int) : List Int := a :: List.replicate 31 0
end Go.Proofs.Ytpkkgmmcindfgaa

/-
  Of part AppendN: what is needed here.
-/
namespace Go.Proofs.Ytpkkgmmcindfgaa
open Go.RowKit
set_option linter.unusedVariables false
set_option maxRecDepth 100000
section
variable {P : Program} {w : World} {base : Nat} {t ty e : TypeId} {i : TypeInfo} {z : Value} {size bytes : Nat} {v : Value} {n m c B : Nat} {A : Option Addr} {xs news : List Value}
theorem run_append_nothingN (ht : P.underlying t = some (.slice e)) (hi : P.info? e = some i) (hown : w.ownsRow base e size v n xs) (c : Nat) :
    (Builtin.append_ #[t, t] ty #[v, .slice none 0 c]).run P w = .ok v w := by
  rcases hown.2 with ⟨rfl, rfl⟩ | ⟨g, cap, cur, rfl, _, _, hnc, _⟩ <;>
    simp [Builtin.append_, run_underlying ht, sizeOf, typeInfo, Builtin.lenOf, Builtin.firstCells, storeCells, *]
theorem wp_appendN {o : Oper} {a : Act} {K : Act → World → Prop} {Q : Exit → Act → World → Prop} (s x : Operand) (t e : TypeId) (z : Value) (size bytes : Nat)
    (ho : o.op = .call { callee := .builtin .append, args := #[s, x], argTypes := #[t, t] })
    (ht : P.underlying t = some (.slice e)) (hi : (P.info? e).map (fun i => (i.zero, i.size, i.bytes)) = some (some z, size, bytes)) (hzs : z.cells.size = size) (hs0 : 0 < size)
    (v : Value) (n : Nat) (xs : List Value) (base B : Nat) (A : Option Addr) (m c : Nat) (news : List Value)
    (hs : a.eval s = v) (hown : w.ownsRow base e size v n xs) (hx : a.eval x = .slice A m c) (hr : Sees w B A (m * size) news) (h1 : ∀ u ∈ news, u.oneCell' = true)
    (hnm : n + m ≤ maxLen) (hbytes : (n + m) * bytes ≤ 140737488355328) (hbase : base ≤ w.heap.size)
    (h : ∀ v' w', w'.ownsRow base e size v' (n + m) (xs ++ news) → Grew w w' v v' → K (a.put o.dst v') w') : o.wp P a w K Q := by
  obtain ⟨i0, hi, hz0, hz1, hz2⟩ := info_parts hi
  have hrun : ∃ v' w', (Builtin.append_ #[t, t] o.type #[v, .slice A m c]).run P w = .ok v' w' ∧ w'.ownsRow base e size v' (n + m) (xs ++ news) ∧ Grew w w' v v' := by
    cases A with
    | none =>
      have hn : news = [] := by
        cases news with
        | nil => rfl
        | cons u r =>
          obtain ⟨a, h, _⟩ := hr.cell 0 u rfl
          cases h
      subst hn
      have hl : m * size = 0 := by simpa using hr.len.symm
      obtain rfl : m = 0 := by
        rcases Nat.mul_eq_zero.1 hl with h | h
        · exact h
        · omega
      exact ⟨v, w, run_append_nothingN ht hi hown c, by simpa using hown, Grew.refl _ _⟩
    | some ad =>
      obtain ⟨v', w', hrun, h2, h3, _, h5⟩ := run_append_own_at (P := P) w base t o.type e i0 z size bytes ht hi hz0 hz1 hz2 hzs hs0 v n xs hown ad m c news hr.len
        (fun j u hu => by
          obtain ⟨a, h, _, hc⟩ := hr.cell j u hu
          cases h
          exact hc) h1 hnm hbytes hbase
      refine ⟨v', w', hrun, h2, ⟨h3, fun k hk => ?_⟩⟩
      rcases h5 with h5 | h5
      · exact .inl (h5 ▸ hk)
      · rw [h5] at hk
        cases hk
        exact .inr (Nat.le_refl _)
  obtain ⟨v', w', hr2, h2, h3⟩ := hrun
  unfold Oper.wp execOp
  simp only [ho, resolve, invoke, builtin, Sem.run_bind, Sem.run_pure, Result.andThen_ok, List.map_toArray, List.map_cons, List.map_nil, hs, hx, hr2]
  exact h v' w' h2 h3
theorem wpList_appendN {ops : Array Oper} {rest : List Oper} {o : Oper} {a : Act} {Q : Exit → Act → World → Prop} (hgd : o.guard = none) (s x : Operand) (t e : TypeId) (z : Value) (size bytes : Nat)
    (ho : o.op = .call { callee := .builtin .append, args := #[s, x], argTypes := #[t, t] })
    (ht : P.underlying t = some (.slice e)) (hi : (P.info? e).map (fun i => (i.zero, i.size, i.bytes)) = some (some z, size, bytes)) (hzs : z.cells.size = size) (hs0 : 0 < size)
    (v : Value) (n : Nat) (xs : List Value) (base B : Nat) (A : Option Addr) (m c : Nat) (news : List Value)
    (hs : a.eval s = v) (hown : w.ownsRow base e size v n xs) (hx : a.eval x = .slice A m c) (hr : Sees w B A (m * size) news) (h1 : ∀ u ∈ news, u.oneCell' = true)
    (hnm : n + m ≤ maxLen) (hbytes : (n + m) * bytes ≤ 140737488355328) (hbase : base ≤ w.heap.size)
    (h : ∀ v' w', w'.ownsRow base e size v' (n + m) (xs ++ news) → Grew w w' v v' → wpList P ops Q rest (a.put o.dst v') w') : wpList P ops Q (o :: rest) a w :=
  wpList_plain hgd fun _ hK => wp_appendN s x t e z size bytes ho ht hi hzs hs0 v n xs base B A m c news hs hown hx hr h1 hnm hbytes hbase fun v' w' h2 h3 => hK _ _ (h v' w' h2 h3)
end
theorem own_nilN (w : World) (base : Nat) (e : TypeId) (size : Nat) : w.ownsRow base e size (.slice none 0 0) 0 [] := World.ownsRow_nil w base e size
theorem own_form2 {w : World} {base : Nat} {e : TypeId} {size n : Nat} {v : Value} {xs : List Value} (h : w.ownsRow base e size v n xs) : ∃ A c, v = .slice A n c ∧ Sees w w.heap.size A (n * size) xs ∧ n ≤ c ∧ c ≤ maxLen ∧ (∀ g, v.ownBlock = some g → base ≤ g ∧ g < w.heap.size) := by
  have hlt := h.lt
  rcases h.2 with ⟨rfl, rfl⟩ | ⟨g, cap, cur, rfl, hg, hh, h1, h2, h3, h4⟩
  · have hx : xs = [] := List.eq_nil_of_length_eq_zero (by simpa using h.1)
    subst hx
    exact ⟨none, 0, rfl, by rw [Nat.zero_mul]; exact Sees.nil _ _ _, Nat.le_refl _, by simp [maxLen], hlt⟩
  · refine ⟨_, cap, rfl, ⟨h.1, fun j u hu => ⟨_, rfl, (Array.getElem?_eq_some_iff.1 hh).1, h.cells (g := g) rfl j u hu⟩⟩, h1, h2, hlt⟩
theorem BytesIn.one {w : World} {B : Nat} {v : Value} {l : List Int} (h : BytesIn w B v l) : v.oneCell' = true := by
  obtain ⟨A, c, rfl, _⟩ := h.is
  rfl
end Go.Proofs.Ytpkkgmmcindfgaa

/-
  Of part Push12: what is needed here.
-/
namespace Go.Proofs.Ytpkkgmmcindfgaa
open Go.RowKit
set_option linter.unusedVariables false
set_option maxRecDepth 100000
theorem gb_turned {w V V' : World} {row : Option Nat} {g : Nat} (hg : w.grownBy V row) (ht : Turned V V' g) (h : w.heap.size ≤ g ∨ row = some g) : w.grownBy V' row :=
  ⟨ht.os.trans hg.os, ht.tape.trans hg.tape, ht.output.trans hg.output, by rw [ht.size]; exact hg.size, fun k hk hr => (ht.block k (fun e => by
    subst e
    rcases h with h | h
    · omega
    · exact hr h.symm)).trans (hg.block k hk hr)⟩
theorem gb_below {w V V' : World} {row : Option Nat} (hg : w.grownBy V row) (hb : Below V.heap.size V V') : w.grownBy V' row :=
  ⟨hb.os.trans hg.os, hb.tape.trans hg.tape, hb.output.trans hg.output, Nat.le_trans hg.size hb.size, fun k hk hr => (hb.block k (Nat.lt_of_lt_of_le hk hg.size)).trans (hg.block k hk hr)⟩
theorem gb_of {w V : World} (row : Option Nat) (hb : Below w.heap.size w V) : w.grownBy V row := ⟨hb.os, hb.tape, hb.output, hb.size, fun k hk _ => hb.block k hk⟩
end Go.Proofs.Ytpkkgmmcindfgaa

/-
  Of part MoreWalk: what is needed here.
-/
namespace Go.Proofs.Ytpkkgmmcindfgaa
open Go.RowKit
set_option linter.unusedVariables false
set_option maxRecDepth 100000
theorem Sees.far {w : World} {B n : Nat} {A : Option Addr} {xs : List Value} (h : Sees w B A n xs) {p : Addr} (hp : ∀ a, A = some a → a.block ≠ p.block) (u : Value) : Sees (w.setCell p u) B A n xs :=
  ⟨h.len, fun i v hv => by
    obtain ⟨a, ha, hb, hc⟩ := h.cell i v hv
    exact ⟨a, ha, hb, (World.cell?_setCell_other w p _ u (fun e => hp a ha (by rw [e, addr_block]))).trans hc⟩⟩
end Go.Proofs.Ytpkkgmmcindfgaa

/-
  Of part OtherMem: what is needed here.
-/
namespace Go.Proofs.Ytpkkgmmcindfgaa
open Go.RowKit
set_option linter.unusedVariables false
set_option maxRecDepth 100000
theorem own_of_row {w : World} {base g c : Nat} {e : TypeId} {size n : Nat} {xs rest : List Value} (h : Row w g e (xs ++ rest)) (hl : xs.length = n * size) (hc : (xs ++ rest).length = c * size) (h1 : n ≤ c) (h2 : c ≤ maxLen) (hb : base ≤ g) :
    w.ownsRow base e size (.slice (some ⟨g, 0, none⟩) n c) n xs :=
  ⟨hl, .inr ⟨g, c, (xs ++ rest).toArray, rfl, hb, h.is, h1, h2, by simpa using hc, by rw [← hl]; simp⟩⟩
theorem own_keep {w w' : World} {base : Nat} {e : TypeId} {size n : Nat} {v : Value} {xs : List Value} (h : w.ownsRow base e size v n xs) (hk : ∀ g, v.ownBlock = some g → w'.heap[g]? = w.heap[g]?) : w'.ownsRow base e size v n xs := by
  refine ⟨h.1, ?_⟩
  rcases h.2 with h2 | ⟨g, cap, cur, hv, hg, hh, r⟩
  · exact .inl h2
  · exact .inr ⟨g, cap, cur, hv, hg, (hk g (by rw [hv]; rfl)).trans hh, r⟩
theorem own_is {w : World} {base : Nat} {e : TypeId} {size n g : Nat} {v : Value} {xs : List Value} (h : w.ownsRow base e size v n xs) (hg : v.ownBlock = some g) : ∃ cur, w.heap[g]? = some (.cells cur e (0, 0)) := by
  rcases h.2 with ⟨rfl, _⟩ | ⟨g', cap, cur, rfl, _, hh, _⟩
  · cases hg
  · cases hg
    exact ⟨cur, hh⟩
theorem own_turned {w w' : World} {base g : Nat} {e t : TypeId} {size n : Nat} {v : Value} {xs ys : List Value} (h : w.ownsRow base e size v n xs) (hr : Row w g t ys) (hne : e ≠ t) (ht : Turned w w' g) : w'.ownsRow base e size v n xs :=
  own_keep h fun k hk => ht.block k (fun e1 => by
    obtain ⟨cur, hc⟩ := own_is h hk
    rw [e1, hr.is] at hc
    injection (Option.some.inj hc) with _ h3 _
    exact hne h3.symm)
/-- what the rules see of an instruction -/
def pa (i : LIn) : Int × List Int := (i.p, i.acc)
end Go.Proofs.Ytpkkgmmcindfgaa
