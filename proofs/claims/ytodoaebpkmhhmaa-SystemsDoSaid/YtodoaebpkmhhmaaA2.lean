/-
  Parts joined: SheetAc Hold13 TwinK TwinAc BookAc Tail Sigs TxMsg GetTx TwinR BookR.
-/
import Derived.Below
import Derived.Laws.OwnMore
import Derived.Deep.AppendLies
import Derived.Deep.Draws
import Derived.Lib.Hide
import Derived.Laws.MakeOwn
import Derived.Laws.CopyOwn
import Derived.Laws.Rows
import Derived.Laws.BitsAllLaws
import Derived.WalkKit
import Derived.Test.YtodoaebpkmhhmaaRows
import Derived.WalkSpells
import Derived.WalkLawsBesides
import Derived.IntWalk
import Derived.Deep.MidRow
import Derived.Deep.WholeRow
import Derived.Maps.AppendAt
import Derived.OwnWalk
import Derived.Great.BuildSlice
import Derived.Recover
import Derived.Deep.RegionHeld
import Derived.Deep.QuietTactic
import Derived.BigQuiet
import Derived.ChangeKeysEq
import Derived.ProofKit
import Derived.OpenShut
import Derived.ShutString
import Derived.ChangeOld
import Derived.Lib.SmallJoins
import Derived.Deep.Slices
import Derived.Deep.Strs
import Derived.SizedLaws
import Derived.Deep.RegionHeld2
import Derived.Deep.CutBlock
import Derived.Laws.Tables
import Derived.Laws.StructEq
import Derived.Laws.Slices
import Derived.Test.YtodoaebpkmhhmaaA1
/-
  Of part SheetAc: what is needed here.
-/
namespace Go.Proofs.Ytodoaebpkmhhmaa
open Go.RowKit
set_option linter.unusedVariables false
set_option maxRecDepth 100000
/-- an element, as cells -/
structure IsAc (h : List Value) : Prop where
  len : h.length = 34
  one : ∀ u ∈ h, u.oneCell' = true
  neq : ∀ w, (binOp .neq 48 (.agg h.toArray) (.agg h.toArray)).run Try.prog w = .ok (.bool false) w
  size : (Try.prog.info? 48).map (·.size) = some h.length
theorem rowSetAc {k : Nat} {z : List Value} (hz : z.length = 34) (xs ys : List Value) (hys : (k + 1) * 34 ≤ ys.length) :
    (xs ++ (rowOf k z ++ ys.drop (k * 34))).take (xs.length + k * 34) ++ z ++ (xs ++ (rowOf k z ++ ys.drop (k * 34))).drop (xs.length + k * 34 + z.length) = xs ++ (rowOf (k + 1) z ++ ys.drop ((k + 1) * 34)) := by
  have hl := rowOf_len k hz
  have hl2 : (xs ++ rowOf k z).length = xs.length + k * 34 := by rw [List.length_append, hl]
  have e2 : xs.length + k * 34 + z.length = (xs ++ rowOf k z).length + 34 := by rw [hl2, hz]
  rw [← List.append_assoc, List.take_left' hl2, e2, List.drop_length_add_append, List.drop_drop, rowOf_succ, show k * 34 + 34 = (k + 1) * 34 by omega]
  simp only [List.append_assoc]
theorem sheet_hereAc {w : World} {g t : Nat} {l : Value} {h f : List Value} (hr : Row w g t (sheetC l h f)) (hh : h.length = 34) : ∀ j v, h[j]? = some v → w.cell? ((⟨g, 1, none⟩ : Addr).add j) = some v := fun j v hv => by
  have hj := (List.getElem?_eq_some_iff.1 hv).1
  rw [addr_row, hr.cell, show 1 + j = j + 1 by omega]
  show (h ++ f)[j]? = _
  rw [List.getElem?_append_left hj]
  exact hv
theorem sheet_farAc {w : World} {g t : Nat} {l : Value} {h f : List Value} (hr : Row w g t (sheetC l h f)) (hh : h.length = 34) : ∀ j v, f[j]? = some v → w.cell? ((⟨g, 35, none⟩ : Addr).add j) = some v := fun j v hv => by
  rw [addr_row, hr.cell, show 35 + j = (34 + j) + 1 by omega]
  show (h ++ f)[34 + j]? = _
  rw [List.getElem?_append_right (by omega), hh, show 34 + j - 34 = j by omega]
  exact hv
set_option maxHeartbeats 800000 in
theorem signAc_false (g n c : Nat) (h f : List Value) (xs : List Value) (w : World) (hr : Row w g 48 xs) (hl : c * 34 ≤ xs.length) (hnc : n ≤ c) (hc : c ≤ 9223372036854775807) (hh : IsAc h) (hf : IsAc f) :
    Calls Try.prog 75 #[.agg (sheetC (.slice (some ⟨g, 0, none⟩) n c) h f).toArray, .bool false] w fun e w' => e = .returned (.tuple #[]) ∧ Row w' g 48 (rowOf n h ++ xs.drop (n * 34)) ∧ w.grownBy w' (some g) := by
  have hlt := hr.lt
  have HL := Lib.hid hl
  have HH := Lib.hid (And.intro hh hf)
  have R := Lib.hid (hr.alloc (.cells (sheetC (.slice (some ⟨g, 0, none⟩) n c) h f).toArray 87))
  have HB := Lib.hid (Row.new w 87 (sheetC (.slice (some ⟨g, 0, none⟩) n c) h f))
  have G0 := World.grownBy_alloc w (.cells (sheetC (.slice (some ⟨g, 0, none⟩) n c) h f).toArray 87) (some g)
  clear hr hl hh hf
  generalize hC : (sheetC (.slice (some ⟨g, 0, none⟩) n c) h f).toArray = C at *
  go_enter Try.func75, Try.ntmps75
  go_wp2_with fail
  go_loopw [4] (fun i wr => ∃ k : Nat, k ≤ n ∧ i = .int .i64 k ∧ Row wr g 48 (rowOf k h ++ xs.drop (k * 34)) ∧ Row wr w.heap.size 87 (sheetC (.slice (some ⟨g, 0, none⟩) n c) h f) ∧ w.grownBy wr (some g)) (fun i _ => n - (intOf i).toNat)
  case atStart => exact ⟨0, Nat.zero_le _, rfl, by simpa [rowOf] using R.out, hC ▸ HB.out, G0⟩
  case round =>
    obtain ⟨k, hk, rfl, hr, hb, hg⟩ := hrel
    clear R HB G0
    have RR := Lib.hid hr
    have RB := Lib.hid hb
    have GG := Lib.hid hg
    have b0 : wr.cell? ⟨w.heap.size, 0, none⟩ = some (.slice (some ⟨g, 0, none⟩) n c) := hb.cell 0
    clear hr hb hg
    by_cases hlt2 : k < n
    · go_wp2_with (first
        | ((with_reducible show wpList _ _ _ ({ dst := some 20, op := Op.load _ _, type := _, pos := _, after := _, guard := _ } :: _) _ _); go_must (refine wpList_load_at rfl 48 (.tmp 19) rfl ⟨w.heap.size, 1, none⟩ h _ Try.underlying48 rfl (HH.out.1.size) (sheet_hereAc RB.out HH.out.1.len) ?_ ?_; go_simp))
        | ((with_reducible show wpList _ _ _ ({ dst := none, op := Op.store 48 _ _, type := _, pos := _, after := _, guard := _ } :: _) _ _); go_must (refine wpList_store_part rfl 48 (.tmp 21) (.tmp 20) rfl g 48 (k * 34) _ h RR.out (HH.out.1.size) (by have := HL.out; have := rowOf_len k HH.out.1.len; rw [List.length_append, List.length_drop, HH.out.1.len]; omega) HH.out.1.one ?_ ?_ ?_; go_simp; go_simp; intro w2 hr2 ht2; have HR2 := Lib.hid hr2; have HT2 := Lib.hid ht2; clear hr2 ht2)))
      go_roundw
      case rel =>
        refine ⟨k + 1, by omega, by go_num, ?_, HT2.out.row RB.out (by omega), grown_trans GG.out ⟨HT2.out.os, HT2.out.tape, HT2.out.output, by rw [HT2.out.size]; exact Nat.le_refl _, fun q hq hne => HT2.out.block q (fun e => hne (by rw [e]))⟩⟩
        have := HR2.out
        have e := rowSetAc (k := k) HH.out.1.len [] xs (by have := HL.out; omega)
        simp only [List.nil_append, List.length_nil, Nat.zero_add] at e
        rwa [e] at this
      case measure => simp [intOf]; omega
    · have hk' : k = n := by omega
      have R2 : Hid (Row wr g 48 (rowOf n h ++ xs.drop (n * 34))) := by rw [← hk']; exact RR.out
      clear hk' RR
      go_wp2_with fail
      refine bodyPost_ret (results_none rfl _ _ _) rfl ?_
      exact ⟨rfl, R2.out, GG.out⟩
set_option maxHeartbeats 800000 in
theorem signAc_true (g n c : Nat) (h f : List Value) (xs ys : List Value) (w : World) (hr : Row w g 48 (xs ++ ys)) (hn : xs.length = n * 34) (hl : (c - n) * 34 ≤ ys.length) (hnc : n ≤ c) (hc : c ≤ 9223372036854775807) (hh : IsAc h) (hf : IsAc f) :
    Calls Try.prog 75 #[.agg (sheetC (.slice (some ⟨g, 0, none⟩) n c) h f).toArray, .bool true] w fun e w' => e = .returned (.tuple #[]) ∧ Row w' g 48 (xs ++ (rowOf (c - n) f ++ ys.drop ((c - n) * 34))) ∧ w.grownBy w' (some g) := by
  have hlt := hr.lt
  have HL := Lib.hid hl
  have HN := Lib.hid hn
  have HH := Lib.hid (And.intro hh hf)
  have R := Lib.hid (hr.alloc (.cells (sheetC (.slice (some ⟨g, 0, none⟩) n c) h f).toArray 87))
  have hB := Row.new w 87 (sheetC (.slice (some ⟨g, 0, none⟩) n c) h f)
  have HB := Lib.hid hB
  have G0 := World.grownBy_alloc w (.cells (sheetC (.slice (some ⟨g, 0, none⟩) n c) h f).toArray 87) (some g)
  have b0 : (w.alloc (.cells (sheetC (.slice (some ⟨g, 0, none⟩) n c) h f).toArray 87)).cell? ⟨w.heap.size, 0, none⟩ = some (.slice (some ⟨g, 0, none⟩) n c) := hB.cell 0
  clear hr hl hn hh hf hB
  generalize hC : (sheetC (.slice (some ⟨g, 0, none⟩) n c) h f).toArray = C at *
  go_enter Try.func75, Try.ntmps75
  go_wp2_with fail
  go_loopw [6] (fun i wr => ∃ k : Nat, n + k ≤ c ∧ i = .int .i64 ((n + k : Nat) : Int) ∧ Row wr g 48 (xs ++ (rowOf k f ++ ys.drop (k * 34))) ∧ Row wr w.heap.size 87 (sheetC (.slice (some ⟨g, 0, none⟩) n c) h f) ∧ w.grownBy wr (some g)) (fun i _ => c - (intOf i).toNat)
  case atStart => exact ⟨0, by omega, rfl, by simpa [rowOf] using R.out, hC ▸ HB.out, G0⟩
  case round =>
    obtain ⟨k, hk, rfl, hr, hb, hg⟩ := hrel
    clear R HB G0
    have RR := Lib.hid hr
    have RB := Lib.hid hb
    have GG := Lib.hid hg
    clear hr hb hg b0
    by_cases hlt2 : n + k < c
    · generalize hj : n + k = j at *
      have HJ := Lib.hid hj
      clear hj
      go_wp2_with (first
        | ((with_reducible show wpList _ _ _ ({ dst := some 40, op := Op.load _ _, type := _, pos := _, after := _, guard := _ } :: _) _ _); go_must (refine wpList_load_at rfl 48 (.tmp 39) rfl ⟨w.heap.size, 35, none⟩ f _ Try.underlying48 rfl (HH.out.2.size) (sheet_farAc RB.out HH.out.1.len) ?_ ?_; go_simp))
        | ((with_reducible show wpList _ _ _ ({ dst := none, op := Op.store 48 _ _, type := _, pos := _, after := _, guard := _ } :: _) _ _); go_must (refine wpList_store_part rfl 48 (.tmp 41) (.tmp 40) rfl g 48 (j * 34) _ f RR.out (HH.out.2.size) (by have := HL.out; have := HN.out; have := HJ.out; have := rowOf_len k HH.out.2.len; simp only [List.length_append, List.length_drop, HH.out.2.len]; omega) HH.out.2.one ?_ ?_ ?_; go_simp; go_simp; intro w2 hr2 ht2; have HR2 := Lib.hid hr2; have HT2 := Lib.hid ht2; clear hr2 ht2)))
      go_roundw
      case rel =>
        refine ⟨k + 1, by have := HJ.out; omega, by rw [← HJ.out]; go_num, ?_, HT2.out.row RB.out (by omega), grown_trans GG.out ⟨HT2.out.os, HT2.out.tape, HT2.out.output, by rw [HT2.out.size]; exact Nat.le_refl _, fun q hq hne => HT2.out.block q (fun e => hne (by rw [e]))⟩⟩
        have := HR2.out
        have e := rowSetAc (k := k) HH.out.2.len xs ys (by have := HL.out; have := HJ.out; omega)
        rw [show xs.length + k * 34 = j * 34 by have := HN.out; have := HJ.out; omega] at e
        rwa [e] at this
      case measure => simp [intOf]; omega
    · have hk' : k = c - n := by omega
      have R2 : Hid (Row wr g 48 (xs ++ (rowOf (c - n) f ++ ys.drop ((c - n) * 34)))) := by
        have := RR.out
        rw [hk'] at this
        exact this
      have hj2 : ¬ (((n + k : Nat) : Int) < (c : Int)) := by omega
      clear hk' RR
      generalize n + k = j at *
      go_wp2_with fail
      go_end0
      exact ⟨rfl, R2.out, GG.out⟩
set_option maxHeartbeats 1000000 in
theorem ownAc_true (g n c : Nat) (h f : List Value) (zs : List Value) (w : World) (hr : Row w g 48 (rowOf n h ++ (rowOf (c - n) f ++ zs))) (hnc : n ≤ c) (hc : c ≤ 9223372036854775807) (hh : IsAc h) (hf : IsAc f) :
    Calls Try.prog 74 #[.agg (sheetC (.slice (some ⟨g, 0, none⟩) n c) h f).toArray] w fun e w' => e = .returned (.bool true) ∧ w.grownBy w' none := by
  have hlt := hr.lt
  have HH := Lib.hid (And.intro hh hf)
  have R0 := Lib.hid (hr.alloc (.cells (sheetC (.slice (some ⟨g, 0, none⟩) n c) h f).toArray 87))
  have HB := Lib.hid (Row.new w 87 (sheetC (.slice (some ⟨g, 0, none⟩) n c) h f))
  have b0 : (w.alloc (.cells (sheetC (.slice (some ⟨g, 0, none⟩) n c) h f).toArray 87)).cell? ⟨w.heap.size, 0, none⟩ = some (.slice (some ⟨g, 0, none⟩) n c) := HB.out.cell 0
  have G0 := World.grownBy_alloc w (.cells (sheetC (.slice (some ⟨g, 0, none⟩) n c) h f).toArray 87) none
  have NH := fun w => hh.neq w
  have NF := fun w => hf.neq w
  have C1 : Hid (∀ k, k < n → ∀ j v, h[j]? = some v → (w.alloc (.cells (sheetC (.slice (some ⟨g, 0, none⟩) n c) h f).toArray 87)).cell? ((⟨g, k * 34, none⟩ : Addr).add j) = some v) := Lib.hid fun k hk j v hv => by
    rw [addr_row, R0.out.cell, List.getElem?_append_left (by rw [rowOf_len n hh.len]; have := (List.getElem?_eq_some_iff.1 hv).1; rw [hh.len] at this; omega)]
    exact rowOf_cell hh.len hk hv
  have C2 : Hid (∀ k, k < c - n → ∀ j v, f[j]? = some v → (w.alloc (.cells (sheetC (.slice (some ⟨g, 0, none⟩) n c) h f).toArray 87)).cell? ((⟨g, (n + k) * 34, none⟩ : Addr).add j) = some v) := Lib.hid fun k hk j v hv => by
    rw [addr_row, R0.out.cell, List.getElem?_append_right (by rw [rowOf_len n hh.len]; omega), rowOf_len n hh.len, show (n + k) * 34 + j - n * 34 = k * 34 + j by omega, List.getElem?_append_left (by rw [rowOf_len _ hf.len]; have := (List.getElem?_eq_some_iff.1 hv).1; rw [hf.len] at this; omega)]
    exact rowOf_cell hf.len hk hv
  have C3 : Hid (∀ j v, h[j]? = some v → (w.alloc (.cells (sheetC (.slice (some ⟨g, 0, none⟩) n c) h f).toArray 87)).cell? ((⟨w.heap.size, 1, none⟩ : Addr).add j) = some v) := Lib.hid (sheet_hereAc HB.out hh.len)
  have C4 : Hid (∀ j v, f[j]? = some v → (w.alloc (.cells (sheetC (.slice (some ⟨g, 0, none⟩) n c) h f).toArray 87)).cell? ((⟨w.heap.size, 35, none⟩ : Addr).add j) = some v) := Lib.hid (sheet_farAc HB.out hh.len)
  have SH := Lib.hid (hh.size)
  have SF := Lib.hid (hf.size)
  clear hr hh hf R0 HB HH
  generalize hC : (sheetC (.slice (some ⟨g, 0, none⟩) n c) h f).toArray = C at *
  clear hC
  go_enter Try.func74, Try.ntmps74
  go_wp2_with fail
  generalize w.alloc (.cells C 87) = W at *
  go_loopw [3] (fun i wr => ∃ k j : Nat, k ≤ n ∧ i = .int .i64 k ∧ wr = W.drewN j) (fun i _ => n - (intOf i).toNat)
  case atStart => exact ⟨0, 0, Nat.zero_le _, rfl, rfl⟩
  case round =>
    obtain ⟨k, j, hk, rfl, rfl⟩ := hrel
    by_cases hlt2 : k < n
    · go_wp2_with fail
      refine wp_region_quiet_lit (by kernel_rfl) (by kernel_rfl) ?_
      repeat (first
        | ((with_reducible show wpQuiet _ _ _ _ ({ dst := some 17, op := Op.load _ _, type := _, pos := _, after := _, guard := _ } :: _) _); go_must (refine quiet_load_at (by kernel_rfl) 48 (.tmp 16) rfl ⟨g, k * 34, none⟩ h _ Try.underlying48 rfl SH.out (by rintro _ ⟨nq, rfl⟩; exact C1.out k hlt2) ?_ ?_; go_simp; go_simp))
        | ((with_reducible show wpQuiet _ _ _ _ ({ dst := some 19, op := Op.load _ _, type := _, pos := _, after := _, guard := _ } :: _) _); go_must (refine quiet_load_at (by kernel_rfl) 48 (.tmp 18) rfl ⟨w.heap.size, 1, none⟩ h _ Try.underlying48 rfl SH.out (by rintro _ ⟨nq, rfl⟩; exact C3.out) ?_ ?_; go_simp; go_simp))
        | go_big_quiet_step (fail))
      refine wpQuiet_nil ?_
      intro nq
      go_wp2_with fail
      go_roundw
      case rel => exact ⟨k + 1, j + nq, by omega, by go_num, by simp⟩
      case measure => simp [intOf]; omega
    · go_wp2_with fail
      go_loopw [5] (fun i wr => ∃ k j : Nat, n + k ≤ c ∧ i = .int .i64 ((n + k : Nat) : Int) ∧ wr = W.drewN j) (fun i _ => c - (intOf i).toNat)
      case atStart => exact ⟨0, j, by omega, rfl, rfl⟩
      case round =>
        obtain ⟨k, j, hk, rfl, rfl⟩ := hrel
        by_cases hlt2 : n + k < c
        · have C2k := Lib.hid (C2.out k (by omega))
          generalize hjj : n + k = t at *
          have HJ := Lib.hid hjj
          clear hjj
          go_wp2_with fail
          refine wp_region_quiet_lit (by kernel_rfl) (by kernel_rfl) ?_
          repeat (first
            | ((with_reducible show wpQuiet _ _ _ _ ({ dst := some 39, op := Op.load _ _, type := _, pos := _, after := _, guard := _ } :: _) _); go_must (refine quiet_load_at (by kernel_rfl) 48 (.tmp 38) rfl ⟨g, t * 34, none⟩ f _ Try.underlying48 rfl SF.out (by rintro _ ⟨nq, rfl⟩; exact C2k.out) ?_ ?_; go_simp; go_simp))
            | ((with_reducible show wpQuiet _ _ _ _ ({ dst := some 41, op := Op.load _ _, type := _, pos := _, after := _, guard := _ } :: _) _); go_must (refine quiet_load_at (by kernel_rfl) 48 (.tmp 40) rfl ⟨w.heap.size, 35, none⟩ f _ Try.underlying48 rfl SF.out (by rintro _ ⟨nq, rfl⟩; exact C4.out) ?_ ?_; go_simp; go_simp))
            | go_big_quiet_step (fail))
          refine wpQuiet_nil ?_
          intro nq
          go_wp2_with fail
          go_roundw
          case rel => exact ⟨k + 1, j + nq, by have := HJ.out; omega, by rw [← HJ.out]; go_num, by simp⟩
          case measure => simp [intOf]; omega
        · have hj2 : ¬ (((n + k : Nat) : Int) < (c : Int)) := by omega
          generalize n + k = t at *
          go_wp2_with fail
          go_ret
          exact ⟨rfl, grown_trans G0 ⟨rfl, rfl, rfl, Nat.le_refl _, fun _ _ _ => rfl⟩⟩
set_option maxHeartbeats 400000 in
theorem signAc_nil (b : Bool) (h f : List Value) (w : World) :
    Calls Try.prog 75 #[.agg (sheetC (.slice none 0 0) h f).toArray, .bool b] w fun e w' => e = .returned (.tuple #[]) ∧ w.grownBy w' none := by
  have G0 := World.grownBy_alloc w (.cells (sheetC (.slice none 0 0) h f).toArray 87) none
  have b0 : (w.alloc (.cells (sheetC (.slice none 0 0) h f).toArray 87)).cell? ⟨w.heap.size, 0, none⟩ = some (.slice none 0 0) := (Row.new w 87 (sheetC (.slice none 0 0) h f)).cell 0
  generalize (sheetC (.slice none 0 0) h f).toArray = C at *
  cases b
  · go_enter Try.func75, Try.ntmps75
    go_wp2
    go_loop [4] (fun i => i = .int .i64 0) (fun _ => 0)
    case atStart => rfl
    case round =>
      subst hrel
      go_wp2
      refine bodyPost_ret (results_none rfl _ _ _) rfl ?_
      exact ⟨rfl, G0⟩
  · go_enter Try.func75, Try.ntmps75
    go_wp2
    go_loop [6] (fun i => i = .int .i64 0) (fun _ => 0)
    case atStart => rfl
    case round =>
      subst hrel
      go_wp2
      go_end0
      exact ⟨rfl, G0⟩
set_option maxHeartbeats 400000 in
theorem ownAc_nil (h f : List Value) (w : World) :
    Calls Try.prog 74 #[.agg (sheetC (.slice none 0 0) h f).toArray] w fun e w' => e = .returned (.bool true) ∧ w.grownBy w' none := by
  have G0 := World.grownBy_alloc w (.cells (sheetC (.slice none 0 0) h f).toArray 87) none
  have b0 : (w.alloc (.cells (sheetC (.slice none 0 0) h f).toArray 87)).cell? ⟨w.heap.size, 0, none⟩ = some (.slice none 0 0) := (Row.new w 87 (sheetC (.slice none 0 0) h f)).cell 0
  generalize (sheetC (.slice none 0 0) h f).toArray = C at *
  go_enter Try.func74, Try.ntmps74
  go_wp2
  go_loop [3] (fun i => i = .int .i64 0) (fun _ => 0)
  case atStart => rfl
  case round =>
    subst hrel
    go_wp2
    go_loop [5] (fun i => i = .int .i64 0) (fun _ => 0)
    case atStart => rfl
    case round =>
      subst hrel
      go_wp2
      go_ret
      exact ⟨rfl, G0⟩
end Go.Proofs.Ytodoaebpkmhhmaa

/-
  Of part Hold13: what is needed here.
-/
namespace Go.Proofs.Ytodoaebpkmhhmaa
open Go.RowKit
set_option linter.unusedVariables false
set_option maxRecDepth 100000
def LAcc.cells (a : LAcc) : List Value := .int .u64 a.c :: (bv a.o ++ [.int .u64 a.s])
theorem acc_len {a : LAcc} (h : a.o.length = 32) : a.cells.length = 34 := by simp [LAcc.cells, bv_length, h]
theorem acc_one (a : LAcc) : ∀ u ∈ a.cells, u.oneCell' = true := by
  intro u hu
  rcases List.mem_cons.1 hu with rfl | hu
  · rfl
  rcases List.mem_append.1 hu with hu | hu
  · exact bv_one _ _ hu
  · obtain rfl := List.mem_singleton.1 hu; rfl
theorem acc_c (a : LAcc) : a.cells[0]? = some (.int .u64 a.c) := rfl
theorem acc_s {a : LAcc} (h : a.o.length = 32) : a.cells[33]? = some (.int .u64 a.s) := by
  unfold LAcc.cells
  rw [show (33 : Nat) = 32 + 1 from rfl, List.getElem?_cons_succ, List.getElem?_append_right (by rw [bv_length, h]; omega), bv_length, h]
  rfl
theorem acc_o {a : LAcc} {j : Nat} {u : Value} (h : (bv a.o)[j]? = some u) : a.cells[1 + j]? = some u := by
  unfold LAcc.cells
  rw [Nat.add_comm, List.getElem?_cons_succ, List.getElem?_append_left (List.getElem?_eq_some_iff.1 h).1]
  exact h
theorem acc_ext {a b : LAcc} : a = b ↔ a.c = b.c ∧ a.o = b.o ∧ a.s = b.s := by
  obtain ⟨x, y, z⟩ := a
  obtain ⟨x', y', z'⟩ := b
  simp
theorem size_acc {a : LAcc} (h : a.o.length = 32) : (Try.prog.info? 48).map (·.size) = some a.cells.length := by
  rw [acc_len h]
  kernel_rfl
theorem zero_acc : (Try.prog.info? 48).map (·.zero) = some (some (.agg blank13.cells.toArray)) := by kernel_rfl
theorem built_blank : Try.prog.built 48 [] = some blank13.cells.toArray := by kernel_rfl
theorem run_part_u64 (xs : Array Value) (off : Nat) (w : World) {v : Value} (h : xs[off]? = some v) : (part 33 xs off).run Try.prog w = .ok v w :=
  run_part_plain (P := Try.prog) w (by kernel_rfl) h
theorem acc_keyAt {a : LAcc} (h : a.o.length = 32) : a.cells.toArray.extract 1 (1 + 32) = (bv a.o).toArray := by
  apply Array.ext'
  unfold LAcc.cells
  rw [Array.toList_extract]
  simp [List.extract, bv_length, h]
theorem acc_held : Try.prog.stoodInHeld 48 = false := by kernel_rfl
theorem acc_under : Try.prog.underlying 48 = some (.struct (Try.prog.fieldsOf 48)) := by kernel_rfl
theorem u64_eq (e : Nat) (a b : Int) (w : World) : (Op.equalIn (e + 1) 33 (.int .u64 a) (.int .u64 b)).run Try.prog w = .ok (a == b) w :=
  run_equalIn_int w e 33 .u64 .u64 _ _ Try.underlying33
/-- the fields, one behind the other -/
theorem acc_fields (e : Nat) (X Y : Array Value) (w : World) {a b : Value} {s s' v v' : Int} {c : Bool} (pa : (part 46 X 1).run Try.prog w = .ok a w) (pb : (part 46 Y 1).run Try.prog w = .ok b w)
    (ps : (part 33 X 0).run Try.prog w = .ok (.int .u64 s) w) (ps' : (part 33 Y 0).run Try.prog w = .ok (.int .u64 s') w) (pv : (part 33 X 33).run Try.prog w = .ok (.int .u64 v) w) (pv' : (part 33 Y 33).run Try.prog w = .ok (.int .u64 v') w)
    (hk : (Op.equalIn (e + 1) 46 a b).run Try.prog w = .ok c w) : (Op.eqFields (e + 1) X Y (Try.prog.fieldsOf 48).toList).run Try.prog w = .ok ((s == s') && c && (v == v')) w := by
  simp only [Program.fieldsOf, Try.underlying48]
  have hb := u64_eq e
  simp only [Op.eqFields, ne_eq, String.reduceEq, not_false_eq_true, if_true, Sem.run_bind, ps, ps', Result.andThen_ok, hb]
  cases hs : (s == s')
  · simp
  · simp only [Bool.not_true, Bool.false_eq_true, if_false, pa, pb, Sem.run_bind, Result.andThen_ok, hk]
    cases c
    · simp
    · simp only [Bool.not_true, Bool.false_eq_true, if_false, pv, pv', Sem.run_bind, Result.andThen_ok, hb]
      cases hv : (v == v') <;> simp
theorem acc_eqIn (d : Nat) {x y : LAcc} (hx : x.o.length = 32) (hy : y.o.length = 32) (w : World) :
    (Op.equalIn (d + 1 + 1 + 1) 48 (.agg x.cells.toArray) (.agg y.cells.toArray)).run Try.prog w = .ok (decide (x = y)) w := by
  have px1 := run_part_key x.cells.toArray 1 w
  have py1 := run_part_key y.cells.toArray 1 w
  rw [acc_keyAt hx] at px1
  rw [acc_keyAt hy] at py1
  have px2 := run_part_u64 x.cells.toArray 0 w (v := .int .u64 x.c) (by rw [List.getElem?_toArray]; exact acc_c x)
  have py2 := run_part_u64 y.cells.toArray 0 w (v := .int .u64 y.c) (by rw [List.getElem?_toArray]; exact acc_c y)
  have px3 := run_part_u64 x.cells.toArray 33 w (v := .int .u64 x.s) (by rw [List.getElem?_toArray]; exact acc_s hx)
  have py3 := run_part_u64 y.cells.toArray 33 w (v := .int .u64 y.s) (by rw [List.getElem?_toArray]; exact acc_s hy)
  rw [run_equalIn_struct w (d + 1 + 1) 48 _ _ acc_under acc_held, acc_fields (d + 1) _ _ w px1 py1 px2 py2 px3 py3 (keys_eqIn d hx hy w)]
  congr 1
  rw [Bool.eq_iff_iff, Bool.and_eq_true, Bool.and_eq_true, decide_eq_true_iff, decide_eq_true_iff, beq_iff_eq, beq_iff_eq, acc_ext, and_assoc]
theorem acc_eq0 {x y : LAcc} (hx : x.o.length = 32) (hy : y.o.length = 32) (w : World) (d : Nat) (hd : d = 9997) :
    (Op.equalIn 10000 48 (.agg x.cells.toArray) (.agg y.cells.toArray)).run Try.prog w = .ok (decide (x = y)) w := by
  have h := acc_eqIn d hx hy w
  subst hd
  exact h
theorem acc_eql {x y : LAcc} (hx : x.o.length = 32) (hy : y.o.length = 32) (w : World) : (binOp .eql 48 (.agg x.cells.toArray) (.agg y.cells.toArray)).run Try.prog w = .ok (.bool (decide (x = y))) w := by
  rw [run_eql_struct, acc_eq0 hx hy w _ rfl]
  rfl
theorem acc_neq {x y : LAcc} (hx : x.o.length = 32) (hy : y.o.length = 32) (w : World) : (binOp .neq 48 (.agg x.cells.toArray) (.agg y.cells.toArray)).run Try.prog w = .ok (.bool (!decide (x = y))) w := by
  rw [run_neq_struct, acc_eq0 hx hy w _ rfl]
  rfl
theorem key_neq {x y : List Int} (hx : x.length = 32) (hy : y.length = 32) (w : World) :
    (binOp .neq 46 (.agg (bv x).toArray) (.agg (bv y).toArray)).run Try.prog w = .ok (.bool (!decide (x = y))) w := by
  obtain ⟨i, hi⟩ := infoU8
  rw [run_neq_struct, show (10000 : Nat) = 9999 + 1 from rfl, run_equalIn_array w 9999 _ _ Try.underlying46 hi, cellsOfU8, eqItems_any x y w _ (fun i hi => by simp at hi; omega), same32_iff hx hy]
  rfl
end Go.Proofs.Ytodoaebpkmhhmaa

/-
  Of part TwinK: what is needed here.
-/
namespace Go.Proofs.Ytodoaebpkmhhmaa
open Go.RowKit
set_option linter.unusedVariables false
set_option maxRecDepth 100000
theorem made_len (z : Value) (n : Nat) : (madeCells z.cells n).toList.length = n := by simp [madeCells]
theorem Row.of_ownN {w : World} {base N size g : Nat} {e : TypeId} {xs : List Value} (h : w.ownsRow base e size (.slice (some ⟨g, 0, none⟩) N N) N xs) : Row w g e xs := by
  rcases h.2 with ⟨h1, _⟩ | ⟨g', cap, cur, h1, h2, h3, h4, h5, h6, h7⟩
  · cases h1
  · cases h1
    refine ⟨?_⟩
    rw [h3, ← h7, ← h6, ← Array.length_toList, List.take_length]
/-- the mark behind keys -/
def mk0 : List Int := [165, 90, 0, 0, 0, 0, 0, 0, 0, 0, 0, 0, 0, 0, 0, 0, 0, 0, 0, 0, 0, 0, 0, 0, 0, 0, 0, 0, 0, 0, 0, 0]
theorem built_mk0 : Try.prog.built 46 [(0, .int .u8 165), (1, .int .u8 90)] = some (bv mk0).toArray := by kernel_rfl
set_option maxRecDepth 100000 in
set_option maxHeartbeats 400000 in
theorem markKey (w : World) : Calls Try.prog 41 #[] w fun e w' => e = .returned (.agg (bv mk0).toArray) ∧ Below w.heap.size w w' := by
  go_enter Try.func41, Try.ntmps41
  go_wp2_with (first
    | ((with_reducible show wpList _ _ _ ({ dst := some 1, op := Op.build _ _, type := _, pos := _, after := _, guard := _ } :: _) _ _); go_must (refine wpList_plain rfl fun K hK => wp_built _ _ _ rfl (by simp only [List.map_toArray, List.map_cons, List.map_nil]; exact built_mk0) (hK _ _ ?_)))
    | ((with_reducible show wpList _ _ _ ({ dst := none, op := Op.store 46 _ _, type := _, pos := _, after := _, guard := _ } :: _) _ _); go_must (refine wpList_store_new rfl 46 (.tmp 0) (.tmp 1) rfl (bv mk0) size_key (bv_one _) rfl ?_ ?_ ?_; go_simp; go_simp; intro w1 hr1 hb1 hz1; have HR1 := Lib.hid hr1; have HB1 := Lib.hid hb1; clear hr1 hb1)))
  refine bodyPost_ret (results_cell_row (h := rfl) _ w1 w.heap.size 46 _ (0, 0) _ (by rfl) HR1.out.is Try.underlying46 rfl size_key) rfl ?_
  exact ⟨rfl, HB1.out⟩
end Go.Proofs.Ytodoaebpkmhhmaa

/-
  Of part TwinAc: what is needed here.
-/
namespace Go.Proofs.Ytodoaebpkmhhmaa
open Go.RowKit
set_option linter.unusedVariables false
set_option maxRecDepth 100000
def zAc : Value := .agg blank13.cells.toArray
theorem infoAc : (Try.prog.info? 48).map (fun i => (i.zero, i.size, i.bytes)) = some (some zAc, 34, 48) := by kernel_rfl
theorem csSetAc {k : Nat} {l : List (List Value)} {x : List Value} {cs : List Value} (h : ∀ k ∈ l, k.length = 34) (hx : l[k]? = some x) :
    ((l.take k).flatten ++ cs.drop (k * 34)).take (k * 34) ++ x ++ ((l.take k).flatten ++ cs.drop (k * 34)).drop (k * 34 + x.length) = (l.take (k + 1)).flatten ++ cs.drop ((k + 1) * 34) := by
  have hk := (List.getElem?_eq_some_iff.1 hx).1
  have hl : (l.take k).flatten.length = k * 34 := by
    rw [cs_flat (sz := 34) (fun y hy => h y (List.mem_of_mem_take hy)), List.length_take]
    congr 1; omega
  have hxl := h x (List.mem_of_getElem? hx)
  rw [List.take_left' hl, hxl, show k * 34 + 34 = (l.take k).flatten.length + 34 by rw [hl], List.drop_length_add_append, List.drop_drop, List.take_add_one, hx, List.flatten_append, show k * 34 + 34 = (k + 1) * 34 by omega]
  simp
set_option maxRecDepth 100000 in
set_option maxHeartbeats 600000 in
theorem sameAc (A B : Option Addr) (n c d : Nat) (l : List (List Value)) (w : World) (S T : Nat) (hx : CsIn 34 w S A n l) (hy : CsIn 34 w T B n l) (ho : ∀ k ∈ l, IsAc k) (hn : n ≤ maxLen) :
    Calls Try.prog 37 #[.slice A n c, .slice B n d] w fun e w' => e = .returned (.bool true) ∧ ∃ k, w' = w.drewN k := by
  unfold maxLen at hn
  have HX := Lib.hid hx
  have HY := Lib.hid hy
  have HO := Lib.hid ho
  clear hx hy ho
  go_enter Try.func37, Try.ntmps37
  go_wp2
  go_loopw [5] (fun i wr => ∃ k j : Nat, k ≤ n ∧ i = .int .i64 k ∧ wr = w.drewN j) (fun i _ => n - (intOf i).toNat)
  case atStart => exact ⟨0, 0, Nat.zero_le _, rfl, rfl⟩
  case round =>
    obtain ⟨k, j, hk, rfl, rfl⟩ := hrel
    by_cases hlt : k < n
    · obtain ⟨a, x, rfl, ha, hxl, _, ca⟩ := HX.out.get hlt (by omega)
      obtain ⟨b, y, rfl, hb, hyl, _, cb⟩ := HY.out.get hlt (by omega)
      obtain rfl : x = y := by rw [hxl] at hyl; exact Option.some.inj hyl
      have hxo := HO.out x (List.mem_of_getElem? hxl)
      have NQ := fun w => hxo.neq w
      have HSZ := Lib.hid hxo.size
      have CA := Lib.hid ca
      have CB := Lib.hid cb
      clear ca cb hxl hyl hxo
      go_wp2
      refine wp_region_quiet_lit (by kernel_rfl) (by kernel_rfl) ?_
      repeat (first
        | ((with_reducible show wpQuiet _ _ _ _ ({ dst := some 20, op := Op.load _ _, type := _, pos := _, after := _, guard := _ } :: _) _); go_must (refine quiet_load_at (by kernel_rfl) 48 (.tmp 19) rfl (a.add (k * 34)) x _ Try.underlying48 rfl HSZ.out (by rintro _ ⟨nq, rfl⟩; exact CA.out) ?_ ?_; go_simp; go_simp))
        | ((with_reducible show wpQuiet _ _ _ _ ({ dst := some 24, op := Op.load _ _, type := _, pos := _, after := _, guard := _ } :: _) _); go_must (refine quiet_load_at (by kernel_rfl) 48 (.tmp 23) rfl (b.add (k * 34)) x _ Try.underlying48 rfl HSZ.out (by rintro _ ⟨nq, rfl⟩; exact CB.out) ?_ ?_; go_simp; go_simp))
        | go_big_quiet_step (fail))
      refine wpQuiet_nil ?_
      intro nq
      go_wp2
      go_roundw
      case rel => exact ⟨k + 1, j + nq, by omega, by go_num, by simp⟩
      case measure => simp [intOf]; omega
    · go_wp2
      go_ret
      exact ⟨rfl, j, rfl⟩
set_option maxRecDepth 100000 in
set_option maxHeartbeats 1000000 in
theorem twinAc (A : Option Addr) (n c : Nat) (l : List (List Value)) (z : List Value) (w : World) (S : Nat)
    (hx : CsIn 34 w S A n l) (ho : ∀ k ∈ l, IsAc k) (hS : S ≤ w.heap.size) (hn : n ≤ 1000000000) (hz : IsAc z) :
    Calls Try.prog 23 #[.slice A n c, .agg z.toArray] w fun e w' => ∃ g, e = .returned (.slice (some ⟨g, 0, none⟩) n (n + 3)) ∧ w.heap.size ≤ g ∧ Row w' g 48 (l.flatten ++ rowOf 3 z) ∧ Below w.heap.size w w' := by
  have HX := Lib.hid hx
  have HO := Lib.hid ho
  have HZ := Lib.hid hz
  have RB := Lib.hid (Row.new w 48 z)
  have hb0 : Below w.heap.size w (w.alloc (Obj.cells z.toArray 48)) := (Below.refl _ _).alloc (Nat.le_refl _) _
  have HB0 := Lib.hid hb0
  have z0 : (w.alloc (Obj.cells z.toArray 48)).heap.size = w.heap.size + 1 := by simp
  clear hx hb0 ho
  go_enter Try.func23, Try.ntmps23
  go_upto_region 1 with fail
  generalize (w.alloc (Obj.cells z.toArray 48)) = W at *
  have ZW := Lib.hid z0
  clear z0
  go_wp2_with (first
    | (at_make; (obtain ⟨i0, hi, hz0, hz1, hz2⟩ := info_parts infoAc); go_must (refine wpList_make_full _ rfl (.tmp 10) (.tmp 10) 22 rfl W.heap.size 48 i0 _ 34 Try.underlying22 hi hz0 hz1 .i64 .i64 _ _ (n + 3) rfl rfl (by simp) (by simp) (by rw [hz2]; omega) (by unfold maxLen; omega) (Nat.le_refl _) ?_; intro w1 hown hgrow; have hrow := Row.of_ownN hown; have hb1 := (Below.refl W.heap.size W).grown hgrow (Nat.le_refl _) (fun k hk => by cases hk))))
  have hlen := made_len zAc ((n + 3) * 34)
  generalize (madeCells zAc.cells ((n + 3) * 34)).toList = cs at *
  have HL := Lib.hid hlen
  have R := Lib.hid hrow
  have RB1 := Lib.hid (RB.out.below hb1 (by have := ZW.out; omega))
  have HB1 := Lib.hid (HB0.out.trans (hb1.mono (by have := ZW.out; omega)))
  have HZ1 : Hid (W.heap.size < w1.heap.size) := Lib.hid hrow.lt
  clear hlen hrow hown hgrow hb1 RB HB0
  have lenl := HX.out.len
  go_loopw [6] (fun i wr => ∃ k : Nat, k ≤ n ∧ i = .int .i64 k ∧ Row wr W.heap.size 48 ((l.take k).flatten ++ cs.drop (k * 34)) ∧ Below W.heap.size w1 wr) (fun i _ => n - (intOf i).toNat)
  case atStart => exact ⟨0, Nat.zero_le _, rfl, by simpa using R.out, Below.refl _ _⟩
  case round =>
  clear R
  obtain ⟨k, hk, rfl, hr, hb⟩ := hrel
  have RR := Lib.hid hr
  have HB := Lib.hid hb
  clear hr hb
  by_cases hlt : k < n
  · obtain ⟨a, x, rfl, hab, hxl, hxn, hat⟩ := HX.out.get hlt (by omega)
    have HX1 := Lib.hid hxl
    have HB2 := Lib.hid (HB1.out.trans (HB.out.mono (by have := ZW.out; omega)))
    have HAT : Hid (∀ j u, x[j]? = some u → wr.cell? ((a.add (k * 34)).add j) = some u) := Lib.hid fun j u hu => (HB2.out.cell (by rw [addr_block, addr_block]; omega)).trans (hat j u hu)
    have HXO := Lib.hid (HO.out x (List.mem_of_getElem? hxl))
    have HSZ := Lib.hid HXO.out.size
    have HCL : Hid (k * 34 + x.length ≤ ((l.take k).flatten ++ cs.drop (k * 34)).length) := by
      have h1 := HL.out
      have h2 : ((l.take k).flatten).length = k * 34 := by
        rw [cs_flat (sz := 34) (fun y hy => HX.out.each y (List.mem_of_mem_take hy)), List.length_take]
        congr 1; omega
      refine Lib.hid ?_
      rw [List.length_append, h2, List.length_drop, hxn]
      omega
    clear hxl hat hxn
    go_wp2_with (first
      | ((with_reducible show wpList _ _ _ ({ dst := some 23, op := Op.load _ _, type := _, pos := _, after := _, guard := _ } :: _) _ _); go_must (refine wpList_load_at rfl 48 (.tmp 22) rfl (a.add (k * 34)) x _ Try.underlying48 rfl HSZ.out HAT.out ?_ ?_; go_simp))
      | ((with_reducible show wpList _ _ _ ({ dst := none, op := Op.store 48 _ _, type := _, pos := _, after := _, guard := _ } :: _) _ _); go_must (refine wpList_store_part rfl 48 (.tmp 24) (.tmp 23) rfl W.heap.size 48 (k * 34) _ x RR.out HSZ.out HCL.out HXO.out.one ?_ ?_ ?_; go_simp; go_simp; intro w2 hr2 ht2; have HR2 := Lib.hid hr2; have HT2 := Lib.hid ht2; clear hr2 ht2)))
    go_roundw
    case rel =>
      refine ⟨k + 1, by omega, by go_num, ?_, HB.out.trans (HT2.out.below (Nat.le_refl _))⟩
      have := HR2.out
      rwa [csSetAc HX.out.each HX1.out] at this
    case measure => simp [intOf]; omega
  · obtain rfl : k = n := by omega
    have R2 : Hid (Row wr W.heap.size 48 (l.flatten ++ cs.drop (k * 34))) := by
      have := RR.out
      rw [List.take_of_length_le (by omega)] at this
      exact Lib.hid this
    have HFL : Hid ((l.flatten).length = k * 34) := Lib.hid (by rw [cs_flat HX.out.each, HX.out.len])
    clear RR
    go_wp2_with fail
    go_loopw [7] (fun i wr => ∃ j : Nat, j ≤ 3 ∧ i = .int .i64 j ∧ Row wr W.heap.size 48 (l.flatten ++ (rowOf j z ++ (cs.drop (k * 34)).drop (j * 34))) ∧ Below W.heap.size w1 wr) (fun i _ => 3 - (intOf i).toNat)
    case atStart => exact ⟨0, Nat.zero_le _, rfl, by simpa [rowOf] using R2.out, HB.out⟩
    case round =>
      clear R2 HB
      obtain ⟨j, hj, rfl, hr, hb⟩ := hrel
      have RR := Lib.hid hr
      have HB := Lib.hid hb
      clear hr hb
      by_cases hlt : j < 3
      · have HBX := Lib.hid (RB1.out.below HB.out (by have := ZW.out; omega))
        have HCL : Hid ((k + j) * 34 + z.length ≤ (l.flatten ++ (rowOf j z ++ (cs.drop (k * 34)).drop (j * 34))).length) := by
          have h1 := HL.out
          have h2 := HFL.out
          have h3 := rowOf_len j HZ.out.len
          refine Lib.hid ?_
          rw [List.length_append, List.length_append, h2, h3, List.length_drop, List.length_drop, HZ.out.len]
          omega
        go_wp2_with (first
          | ((with_reducible show wpList _ _ _ ({ dst := some 34, op := Op.load _ _, type := _, pos := _, after := _, guard := _ } :: _) _ _); go_must (refine wpList_load_whole rfl 48 (.tmp 3) rfl w.heap.size 48 z _ Try.underlying48 rfl HZ.out.size HBX.out ?_ ?_; go_simp))
          | ((with_reducible show wpList _ _ _ ({ dst := none, op := Op.store 48 _ _, type := _, pos := _, after := _, guard := _ } :: _) _ _); go_must (refine wpList_store_part rfl 48 (.tmp 35) (.tmp 34) rfl W.heap.size 48 ((k + j) * 34) _ z RR.out HZ.out.size HCL.out HZ.out.one ?_ ?_ ?_; go_simp; go_simp; intro w2 hr2 ht2; have HR2 := Lib.hid hr2; have HT2 := Lib.hid ht2; clear hr2 ht2)))
        go_roundw
        case rel =>
          refine ⟨j + 1, by omega, by go_num, ?_, HB.out.trans (HT2.out.below (Nat.le_refl _))⟩
          have := HR2.out
          have e := rowSetAc (k := j) HZ.out.len (l.flatten) (cs.drop (k * 34)) (by have := HL.out; rw [List.length_drop]; omega)
          rw [HFL.out, ← Nat.add_mul] at e
          rwa [e] at this
        case measure => simp [intOf]; omega
      · obtain rfl : j = 3 := by omega
        have R3 : Hid (Row wr W.heap.size 48 (l.flatten ++ rowOf 3 z)) := by
          have := RR.out
          rw [List.drop_of_length_le (by have := HL.out; rw [List.length_drop]; omega), List.append_nil] at this
          exact Lib.hid this
        clear RR
        go_wp2_with fail
        go_ret
        exact ⟨W.heap.size, rfl, by have := ZW.out; omega, R3.out, HB1.out.trans (HB.out.mono (by have := ZW.out; omega))⟩
set_option maxRecDepth 100000 in
set_option maxHeartbeats 1000000 in
theorem leftAc (g : Nat) (B : Option Addr) (n d : Nat) (l : List (List Value)) (z : List Value) (w : World) (S : Nat)
    (hr : Row w g 48 (l.flatten ++ rowOf 3 z)) (hy : CsIn 34 w S B n l) (ho : ∀ k ∈ l, IsAc k) (hS : S ≤ w.heap.size) (hn : n ≤ 1000000000) (hz : IsAc z) :
    Calls Try.prog 38 #[.slice (some ⟨g, 0, none⟩) n (n + 3), .slice B n d, .agg z.toArray] w fun e w' => e = .returned (.bool true) ∧ Below w.heap.size w w' := by
  have hb0 : Below w.heap.size w (w.alloc (Obj.cells z.toArray 48)) := (Below.refl _ _).alloc (Nat.le_refl _) _
  have RB := Lib.hid (Row.new w 48 z)
  have R := Lib.hid (hr.alloc (Obj.cells z.toArray 48))
  have HB0 := Lib.hid hb0
  have hlen := hy.len
  have h64 := hy.each
  have HFL : Hid ((l.flatten).length = n * 34) := Lib.hid (by rw [cs_flat h64, hlen])
  have HK := Lib.hid (sameAc (some ⟨g, 0, none⟩) B n (n + 3) d l _ w.heap.size w.heap.size (csIn_row R.out hlen h64 hr.lt) ((hy.more hS).below hb0) ho (by unfold maxLen; omega))
  have NQ := fun w => hz.neq w
  have HZ := Lib.hid hz
  clear hr hy hb0 h64 hlen ho
  go_enter Try.func38, Try.ntmps38
  go_upto_region 1 with fail
  generalize (w.alloc (Obj.cells z.toArray 48)) = W at *
  go_wp2_with fail
  refine HK.out.mono ?_
  rintro e w1 ⟨rfl, k, rfl⟩
  go_wp2_with fail
  go_loopw [8] (fun i wr => ∃ j q : Nat, j ≤ 3 ∧ i = .int .i64 j ∧ wr = W.drewN q) (fun i _ => 3 - (intOf i).toNat)
  case atStart => exact ⟨0, k, Nat.zero_le _, rfl, rfl⟩
  case round =>
    obtain ⟨j, q, hj, rfl, rfl⟩ := hrel
    by_cases hlt : j < 3
    · have CA := Lib.hid (show ∀ i u, z[i]? = some u → W.cell? ((⟨g, (n + j) * 34, none⟩ : Addr).add i) = some u from fun i u hu => by
        rw [addr_row, R.out.cell, List.getElem?_append_right (by rw [HFL.out]; omega), HFL.out, show (n + j) * 34 + i - n * 34 = j * 34 + i by omega]
        exact rowOf_cell HZ.out.len hlt hu)
      have CB := Lib.hid (show ∀ i u, z[i]? = some u → W.cell? ((⟨w.heap.size, 0, none⟩ : Addr).add i) = some u from fun i u hu => by
        rw [addr_row, RB.out.cell, Nat.zero_add]; exact hu)
      have HSZ := Lib.hid HZ.out.size
      go_wp2
      refine wp_region_quiet_lit (by kernel_rfl) (by kernel_rfl) ?_
      repeat (first
        | ((with_reducible show wpQuiet _ _ _ _ ({ dst := some 36, op := Op.load _ _, type := _, pos := _, after := _, guard := _ } :: _) _); go_must (refine quiet_load_at (by kernel_rfl) 48 (.tmp 35) rfl ⟨g, (n + j) * 34, none⟩ z _ Try.underlying48 rfl HSZ.out (by rintro _ ⟨nq, rfl⟩; exact CA.out) ?_ ?_; go_simp; go_simp))
        | ((with_reducible show wpQuiet _ _ _ _ ({ dst := some 37, op := Op.load _ _, type := _, pos := _, after := _, guard := _ } :: _) _); go_must (refine quiet_load_at (by kernel_rfl) 48 (.tmp 5) rfl ⟨w.heap.size, 0, none⟩ z _ Try.underlying48 rfl HSZ.out (by rintro _ ⟨nq, rfl⟩; exact CB.out) ?_ ?_; go_simp; go_simp))
        | go_big_quiet_step (fail))
      refine wpQuiet_nil ?_
      intro nq
      go_wp2
      go_roundw
      case rel => exact ⟨j + 1, q + nq, by omega, by go_num, by simp⟩
      case measure => simp [intOf]; omega
    · go_wp2
      go_ret
      exact ⟨rfl, below_drewN HB0.out q⟩
end Go.Proofs.Ytodoaebpkmhhmaa

/-
  Of part BookAc: what is needed here.
-/
namespace Go.Proofs.Ytodoaebpkmhhmaa
open Go.RowKit
set_option linter.unusedVariables false
set_option maxRecDepth 100000
theorem acc_is {x : LAcc} (ho : x.o.length = 32) : IsAc x.cells := ⟨acc_len ho, acc_one x, fun w => by rw [acc_neq ho ho]; simp, size_acc ho⟩
def acS (n s : Int) : LAcc := ⟨n, List.replicate 32 0, s⟩
theorem built_acS (n s : Int) : Try.prog.built 48 [(0, .int .u64 n), (2, .int .u64 s)] = some (acS n s).cells.toArray := by kernel_rfl
theorem built_sheetAc (B : Option Addr) (m d : Nat) (h f : List Value) (h1 : h.length = 34) (h2 : f.length = 34) : Try.prog.built 87 [(0, .slice B m d), (1, .agg h.toArray), (2, .agg f.toArray)] = some (sheetC (.slice B m d) h f).toArray := by
  obtain ⟨u, rfl⟩ : ∃ u : Fin 34 → Value, h = List.ofFn u := ⟨fun i => h.getD i undef, by
    refine List.ext_getElem (by simpa using h1) fun i h3 h4 => ?_
    rw [List.getElem_ofFn, List.getD_eq_getElem?_getD, List.getElem?_eq_getElem h3]
    rfl⟩
  obtain ⟨g, rfl⟩ : ∃ u : Fin 34 → Value, f = List.ofFn u := ⟨fun i => f.getD i undef, by
    refine List.ext_getElem (by simpa using h2) fun i h3 h4 => ?_
    rw [List.getElem_ofFn, List.getD_eq_getElem?_getD, List.getElem?_eq_getElem h3]
    rfl⟩
  kernel_rfl
set_option maxHeartbeats 2000000 in
theorem bookAccounts (p base : Nat) (A B : Option Addr) (n c m d : Nat) (ps : List Value) (w0 w : World) (h : BookW w0 p base A n c ps w) (hn : n ≤ 1000000) :
    Calls Try.prog 17 #[.pointer (some ⟨p, 0, none⟩), .slice B m d] w fun e w' => ∃ z1 z2 A' c', e = .returned (.tuple #[]) ∧ IsAc z1 ∧ IsAc z2 ∧
      BookW w0 p base A' (n + 1) c' (ps ++ [.iface 87 (.agg (sheetC (.slice B m d) z1 z2).toArray)]) w' := by
  obtain ⟨i0, hi, hz0, hz1, hz2⟩ := info_parts info_page
  have HN := Lib.hid (number_ p A n c w h.row hn)
  have hwr : IntKind.u64.wrap ((n : Int) + 1) = (n : Int) + 1 := by rw [IntKind.wrap_u64]; omega
  have z1 := acc_is (x := acS ((n : Int) + 1) 1) rfl
  have z2 := acc_is (x := acS ((n : Int) + 1) 2) rfl
  have HZ := Lib.hid (And.intro z1 z2)
  have HB := Lib.hid (built_sheetAc B m d _ _ z1.len z2.len)
  have H1 := Lib.hid (built_acS ((n : Int) + 1) 1)
  have H2 := Lib.hid (built_acS ((n : Int) + 1) 2)
  clear z1 z2
  generalize (acS ((n : Int) + 1) 1).cells = c1 at *
  generalize (acS ((n : Int) + 1) 2).cells = c2 at *
  have HA := Lib.hid (h.alloc (.cells [Value.iface 87 (.agg (sheetC (.slice B m d) c1 c2).toArray)].toArray 89))
  have hsee := (Row.new w 89 [Value.iface 87 (.agg (sheetC (.slice B m d) c1 c2).toArray)]).sees0
  have HSEE := Lib.hid hsee
  have c0 : w.cell? ⟨p, 0, none⟩ = some (.slice A n c) := h.row.cell 0
  have f0 := h.row.frozen 0
  clear hsee h
  generalize hS : (sheetC (.slice B m d) c1 c2).toArray = S at *
  have HS := Lib.hid hS
  clear hS
  go_enter Try.func17, Try.ntmps17
  go_wp2_with fail
  refine HN.out.mono ?_
  rintro e w1 ⟨rfl, rfl⟩
  go_wp2_with (first
    | ((with_reducible show wpList _ _ _ ({ dst := some 15, op := Op.build _ _, type := _, pos := _, after := _, guard := _ } :: _) _ _); go_must (refine wpList_plain rfl fun K hK => wp_built _ _ _ rfl (by simp only [List.map_toArray, List.map_cons, List.map_nil]; exact H1.out) (hK _ _ ?_)))
    | ((with_reducible show wpList _ _ _ ({ dst := some 17, op := Op.build _ _, type := _, pos := _, after := _, guard := _ } :: _) _ _); go_must (refine wpList_plain rfl fun K hK => wp_built _ _ _ rfl (by simp only [List.map_toArray, List.map_cons, List.map_nil]; exact H2.out) (hK _ _ ?_)))
    | ((with_reducible show wpList _ _ _ ({ dst := some 18, op := Op.build _ _, type := _, pos := _, after := _, guard := _ } :: _) _ _); go_must (refine wpList_plain rfl fun K hK => wp_built _ _ _ rfl (by simp only [List.map_toArray, List.map_cons, List.map_nil]; exact HB.out) (hK _ _ ?_)))
    | (at_builtin; go_must (refine wpList_append_sees rfl (.tmp 12) (.tmp 20) 39 rfl base 89 i0 _ 16 Try.underlying39 hi hz0 hz1 hz2 rfl _ n _ rfl HA.out.own _ _ 1 _ _ rfl HSEE.out (by simp [Value.oneCell']) (by unfold maxLen; omega) (by omega) HA.out.lt ?_); intro v2 w2 hown2 hg2 hat2; have hr2 := HA.out.row.grown hg2 (own_row_ne HA.out.own HA.out.row (by decide)); have c2' : w2.cell? ⟨p, 0, none⟩ = some (.slice A n c) := hr2.cell 0; have f2 := hr2.frozen 0; obtain ⟨A', c', rfl⟩ := own_form hown2; have HE := Lib.hid (HA.out.last hr2 hown2 hg2); clear hr2))
  go_end0
  exact ⟨_, _, A', c', rfl, HZ.out.1, HZ.out.2, by rw [HS.out]; exact HE.out⟩
end Go.Proofs.Ytodoaebpkmhhmaa

/-
  Of part Tail: what is needed here.
-/
namespace Go.Proofs.Ytodoaebpkmhhmaa
open Go.RowKit
set_option linter.unusedVariables false
set_option maxRecDepth 100000
section
variable {P : Program} {w : World} {o : Oper} {a : Act}
/-- where what is left of a list begins -/
def tailAt (A : Option Addr) (c k : Nat) : Option Addr := if c = k then A else A.map (·.add k)
theorem Sees.tail {B : Nat} {A : Option Addr} {n c k : Nat} {xs : List Value} (h : Sees w B A n xs) (hk : k ≤ n) (hn : n ≤ c) : Sees w B (tailAt A c k) (n - k) (xs.drop k) := by
  refine ⟨by rw [List.length_drop, h.len], fun j u hu => ?_⟩
  rw [List.getElem?_drop] at hu
  obtain ⟨ad, rfl, hb, hc⟩ := h.cell _ u hu
  have h1 := (List.getElem?_eq_some_iff.1 hu).1
  have h2 := h.len
  refine ⟨ad.add k, by unfold tailAt; rw [if_neg (by omega)]; rfl, by rw [addr_block]; exact hb, by rw [addr_add]; exact hc⟩
theorem run_tail (t e : TypeId) (x i : Operand) (ho : o.op = .slice t x (some i) none none) (ht : P.underlying t = some (.slice e)) (hsz : (P.info? e).map (·.size) = some 1)
    (A : Option Addr) (n c k : Nat) (hx : a.eval x = .slice A n c) (hi : a.eval i = .int .i64 k) (hk : k ≤ n) (hn : n ≤ c) (hc : c ≤ maxLen) :
    (execOp a.eval o).run P w = .ok (.value (.slice (tailAt A c k) (n - k) (c - k))) w := by
  unfold maxLen at hc
  obtain ⟨ie, hie, hs1⟩ : ∃ i, P.info? e = some i ∧ i.size = 1 := by
    cases h : P.info? e with
    | none => rw [h] at hsz; cases hsz
    | some i => rw [h] at hsz; exact ⟨i, rfl, by simpa using hsz⟩
  have he : P.elem t = e := by simp [Program.elem, ht]
  have ht' : P.underlying t = some (.slice (P.elem t)) := by rw [he]; exact ht
  have hso : (sizeOf e).run P w = .ok 1 w := by simp [sizeOf, typeInfo, hie, hs1]
  have h1 : (0 : Int) ≤ k := by omega
  have h2 : (k : Int) ≤ n := by omega
  unfold execOp
  simp only [ho, hx, hi, Option.map_some, Option.map_none]
  simp only [Sem.run_bind, run_sliceAt_slice w t _ _ _ _ ht', run_slice_l w t A n c ht' .i64 k h1 h2, he, hso, Result.andThen_ok, sliced, tailAt, Int.toNat_natCast, Nat.mul_one, Sem.run_pure]
theorem wpList_tail {ops : Array Oper} {rest : List Oper} {Q : Exit → Act → World → Prop} (hgd : o.guard = none) (t e : TypeId) (x i : Operand) (ho : o.op = .slice t x (some i) none none) (ht : P.underlying t = some (.slice e)) (hsz : (P.info? e).map (·.size) = some 1)
    (A : Option Addr) (n c k : Nat) (hx : a.eval x = .slice A n c) (hi : a.eval i = .int .i64 k) (hk : k ≤ n) (hn : n ≤ c) (hc : c ≤ maxLen)
    (h : wpList P ops Q rest (a.put o.dst (.slice (tailAt A c k) (n - k) (c - k))) w) : wpList P ops Q (o :: rest) a w :=
  wpList_plain hgd fun K hK => by
    unfold Oper.wp
    rw [run_tail t e x i ho ht hsz A n c k hx hi hk hn hc]
    exact hK _ _ h
end
end Go.Proofs.Ytodoaebpkmhhmaa

/-
  Of part Sigs: what is needed here.
-/
namespace Go.Proofs.Ytodoaebpkmhhmaa
open Go.RowKit
set_option linter.unusedVariables false
set_option maxRecDepth 100000
theorem wp_copy_splice {P : Program} {o : Oper} {a : Act} {w : World} {K : Act → World → Prop} {Q : Exit → Act → World → Prop} (hgd : o.guard = none) (d s : Operand) (dT sT : TypeId)
    (ho : o.op = .call { callee := .builtin .copy, args := #[d, s], argTypes := #[dT, sT] }) (elem : TypeId) (hu : P.underlying dT = some (.slice elem)) (hsz : (P.info? elem).map (·.size) = some 1)
    (dp sp : Option Addr) (dLen dCap sLen sCap : Nat) (hd : a.eval d = .slice dp dLen dCap) (hs : a.eval s = .slice sp sLen sCap)
    (g off : Nat) (cur : List Value) (t : TypeId) (hg : w.heap[g]? = some (.cells cur.toArray t (0, 0))) (cs : List Value) (hn : cs.length = Nat.min sLen dLen)
    (hpos : 0 < cs.length → dp = some ⟨g, off, none⟩ ∧ ∃ ad, sp = some ad ∧ ∀ j v, cs[j]? = some v → w.cell? (ad.add j) = some v)
    (hfit : off + cs.length ≤ cur.length) (h1 : ∀ v ∈ cs, v.oneCell' = true) (B : Nat) (w0 : World) (hb : Below B w0 w) (hBg : B ≤ g)
    (h : ∀ w', Hid (w'.heap[g]? = some (.cells (splice cur off cs).toArray t (0, 0))) → Below B w0 w' → K (a.put o.dst (goInt cs.length)) w') : Oper.wp P o a w K Q := by
  have := step_copy_splice (P := P) (ops := #[]) (E := True) (Q := Q) hgd d s dT sT ho elem hu hsz dp sp dLen dCap sLen sCap hd hs g off cur t hg cs hn hpos hfit h1 B w0 hb hBg h
  rwa [if_pos (by simp [Region.wanted, hgd])] at this
end Go.Proofs.Ytodoaebpkmhhmaa

/-
  Of part TxMsg: what is needed here.
-/
namespace Go.Proofs.Ytodoaebpkmhhmaa
open Go.RowKit
set_option linter.unusedVariables false
set_option maxRecDepth 100000
theorem wp_store_part {P : Program} {op : Oper} {a : Act} {w : World} {K : Act → World → Prop} {Q : Exit → Act → World → Prop} (ty : TypeId) (x y : Operand) (ho : op.op = .store ty x y)
    (g t o : Nat) (c cs : List Value) (hr : Row w g t c) (hi : (P.info? ty).map (·.size) = some cs.length) (hl : o + cs.length ≤ c.length) (h1 : ∀ u ∈ cs, u.oneCell' = true)
    (hx : a.eval x = .pointer (some ⟨g, o, none⟩)) (hy : a.eval y = .agg cs.toArray)
    (h : ∀ w', Row w' g t (c.take o ++ cs ++ c.drop (o + cs.length)) → Turned w w' g → K (a.put op.dst undef) w') : op.wp P a w K Q :=
  wp_store_mid ty x y ho g o cs.toArray hx hy (fun j hj => ⟨by
      have hj' : j < cs.length := by simpa using hj
      rw [hr.cell, List.getElem?_eq_getElem (by omega)]; rfl, hr.frozen _⟩) (by simpa using hi) (all_oneCell_toArray h1)
    (h _ (by simpa using row_setCells cs w o c hr hl) (turned_setCells cs w o))
end Go.Proofs.Ytodoaebpkmhhmaa

/-
  Of part GetTx: what is needed here.
-/
namespace Go.Proofs.Ytodoaebpkmhhmaa
open Go.RowKit
set_option linter.unusedVariables false
set_option maxRecDepth 100000
section
variable {P : Program}
theorem results_cell1 {fn : Func} {p0 p1 : Tmp} {t0 : TypeId} (h : fn.results = #[.cell p0 t0, .tmp p1]) (tmps : Array Value) (w : World) (a0 : Addr) (v0 v1 : Value)
    (h0 : tmps.getD p0 undef = .pointer (some a0)) (h1 : tmps.getD p1 undef = v1)
    (l0 : (loadVar t0 a0).run P w = .ok v0 w) :
    (results fn tmps).run P w = .ok (.tuple #[v0, v1]) w := by
  have h0' : tmps[p0]?.getD undef = .pointer (some a0) := by simpa using h0
  have h1' : tmps[p1]?.getD undef = v1 := by simpa using h1
  simp [results, h, h0', h1', asAddr, l0]
end
end Go.Proofs.Ytodoaebpkmhhmaa

/-
  Of part TwinR: what is needed here.
-/
namespace Go.Proofs.Ytodoaebpkmhhmaa
open Go.RowKit
set_option linter.unusedVariables false
set_option maxRecDepth 100000
theorem csSetR {k : Nat} {l : List (List Value)} {x : List Value} {cs : List Value} (h : ∀ k ∈ l, k.length = 34) (hx : l[k]? = some x) :
    ((l.take k).flatten ++ cs.drop (k * 34)).take (k * 34) ++ x ++ ((l.take k).flatten ++ cs.drop (k * 34)).drop (k * 34 + x.length) = (l.take (k + 1)).flatten ++ cs.drop ((k + 1) * 34) := by
  have hk := (List.getElem?_eq_some_iff.1 hx).1
  have hl : (l.take k).flatten.length = k * 34 := by
    rw [cs_flat (sz := 34) (fun y hy => h y (List.mem_of_mem_take hy)), List.length_take]
    congr 1; omega
  have hxl := h x (List.mem_of_getElem? hx)
  rw [List.take_left' hl, hxl, show k * 34 + 34 = (l.take k).flatten.length + 34 by rw [hl], List.drop_length_add_append, List.drop_drop, List.take_add_one, hx, List.flatten_append, show k * 34 + 34 = (k + 1) * 34 by omega]
  simp
set_option maxRecDepth 100000 in
set_option maxHeartbeats 600000 in
theorem sameR (A B : Option Addr) (n c d : Nat) (l : List (List Value)) (w : World) (S T : Nat) (hx : CsIn 34 w S A n l) (hy : CsIn 34 w T B n l) (ho : ∀ k ∈ l, IsR k) (hn : n ≤ maxLen) :
    Calls Try.prog 51 #[.slice A n c, .slice B n d] w fun e w' => e = .returned (.bool true) ∧ ∃ k, w' = w.drewN k := by
  unfold maxLen at hn
  have HX := Lib.hid hx
  have HY := Lib.hid hy
  have HO := Lib.hid ho
  clear hx hy ho
  go_enter Try.func51, Try.ntmps51
  go_wp2
  go_loopw [5] (fun i wr => ∃ k j : Nat, k ≤ n ∧ i = .int .i64 k ∧ wr = w.drewN j) (fun i _ => n - (intOf i).toNat)
  case atStart => exact ⟨0, 0, Nat.zero_le _, rfl, rfl⟩
  case round =>
    obtain ⟨k, j, hk, rfl, rfl⟩ := hrel
    by_cases hlt : k < n
    · obtain ⟨a, x, rfl, ha, hxl, _, ca⟩ := HX.out.get hlt (by omega)
      obtain ⟨b, y, rfl, hb, hyl, _, cb⟩ := HY.out.get hlt (by omega)
      obtain rfl : x = y := by rw [hxl] at hyl; exact Option.some.inj hyl
      have hxo := HO.out x (List.mem_of_getElem? hxl)
      have NQ := fun w => hxo.neq w
      have HSZ := Lib.hid hxo.size
      have CA := Lib.hid ca
      have CB := Lib.hid cb
      clear ca cb hxl hyl hxo
      go_wp2
      refine wp_region_quiet_lit (by kernel_rfl) (by kernel_rfl) ?_
      repeat (first
        | ((with_reducible show wpQuiet _ _ _ _ ({ dst := some 20, op := Op.load _ _, type := _, pos := _, after := _, guard := _ } :: _) _); go_must (refine quiet_load_at (by kernel_rfl) 50 (.tmp 19) rfl (a.add (k * 34)) x _ Try.underlying50 rfl HSZ.out (by rintro _ ⟨nq, rfl⟩; exact CA.out) ?_ ?_; go_simp; go_simp))
        | ((with_reducible show wpQuiet _ _ _ _ ({ dst := some 24, op := Op.load _ _, type := _, pos := _, after := _, guard := _ } :: _) _); go_must (refine quiet_load_at (by kernel_rfl) 50 (.tmp 23) rfl (b.add (k * 34)) x _ Try.underlying50 rfl HSZ.out (by rintro _ ⟨nq, rfl⟩; exact CB.out) ?_ ?_; go_simp; go_simp))
        | go_big_quiet_step (fail))
      refine wpQuiet_nil ?_
      intro nq
      go_wp2
      go_roundw
      case rel => exact ⟨k + 1, j + nq, by omega, by go_num, by simp⟩
      case measure => simp [intOf]; omega
    · go_wp2
      go_ret
      exact ⟨rfl, j, rfl⟩
set_option maxRecDepth 100000 in
set_option maxHeartbeats 1000000 in
theorem twinR (A : Option Addr) (n c : Nat) (l : List (List Value)) (z : List Value) (w : World) (S : Nat)
    (hx : CsIn 34 w S A n l) (ho : ∀ k ∈ l, IsR k) (hS : S ≤ w.heap.size) (hn : n ≤ 1000000000) (hz : IsR z) :
    Calls Try.prog 25 #[.slice A n c, .agg z.toArray] w fun e w' => ∃ g, e = .returned (.slice (some ⟨g, 0, none⟩) n (n + 3)) ∧ w.heap.size ≤ g ∧ Row w' g 50 (l.flatten ++ rowOf 3 z) ∧ Below w.heap.size w w' := by
  have HX := Lib.hid hx
  have HO := Lib.hid ho
  have HZ := Lib.hid hz
  have RB := Lib.hid (Row.new w 50 z)
  have hb0 : Below w.heap.size w (w.alloc (Obj.cells z.toArray 50)) := (Below.refl _ _).alloc (Nat.le_refl _) _
  have HB0 := Lib.hid hb0
  have z0 : (w.alloc (Obj.cells z.toArray 50)).heap.size = w.heap.size + 1 := by simp
  clear hx hb0 ho
  go_enter Try.func25, Try.ntmps25
  go_upto_region 1 with fail
  generalize (w.alloc (Obj.cells z.toArray 50)) = W at *
  have ZW := Lib.hid z0
  clear z0
  go_wp2_with (first
    | (at_make; (obtain ⟨i0, hi, hz0, hz1, hz2⟩ := info_parts infoR); go_must (refine wpList_make_full _ rfl (.tmp 10) (.tmp 10) 23 rfl W.heap.size 50 i0 _ 34 Try.underlying23 hi hz0 hz1 .i64 .i64 _ _ (n + 3) rfl rfl (by simp) (by simp) (by rw [hz2]; omega) (by unfold maxLen; omega) (Nat.le_refl _) ?_; intro w1 hown hgrow; have hrow := Row.of_ownN hown; have hb1 := (Below.refl W.heap.size W).grown hgrow (Nat.le_refl _) (fun k hk => by cases hk))))
  have hlen := made_len zR ((n + 3) * 34)
  generalize (madeCells zR.cells ((n + 3) * 34)).toList = cs at *
  have HL := Lib.hid hlen
  have R := Lib.hid hrow
  have RB1 := Lib.hid (RB.out.below hb1 (by have := ZW.out; omega))
  have HB1 := Lib.hid (HB0.out.trans (hb1.mono (by have := ZW.out; omega)))
  have HZ1 : Hid (W.heap.size < w1.heap.size) := Lib.hid hrow.lt
  clear hlen hrow hown hgrow hb1 RB HB0
  have lenl := HX.out.len
  go_loopw [6] (fun i wr => ∃ k : Nat, k ≤ n ∧ i = .int .i64 k ∧ Row wr W.heap.size 50 ((l.take k).flatten ++ cs.drop (k * 34)) ∧ Below W.heap.size w1 wr) (fun i _ => n - (intOf i).toNat)
  case atStart => exact ⟨0, Nat.zero_le _, rfl, by simpa using R.out, Below.refl _ _⟩
  case round =>
  clear R
  obtain ⟨k, hk, rfl, hr, hb⟩ := hrel
  have RR := Lib.hid hr
  have HB := Lib.hid hb
  clear hr hb
  by_cases hlt : k < n
  · obtain ⟨a, x, rfl, hab, hxl, hxn, hat⟩ := HX.out.get hlt (by omega)
    have HX1 := Lib.hid hxl
    have HB2 := Lib.hid (HB1.out.trans (HB.out.mono (by have := ZW.out; omega)))
    have HAT : Hid (∀ j u, x[j]? = some u → wr.cell? ((a.add (k * 34)).add j) = some u) := Lib.hid fun j u hu => (HB2.out.cell (by rw [addr_block, addr_block]; omega)).trans (hat j u hu)
    have HXO := Lib.hid (HO.out x (List.mem_of_getElem? hxl))
    have HSZ := Lib.hid HXO.out.size
    have HCL : Hid (k * 34 + x.length ≤ ((l.take k).flatten ++ cs.drop (k * 34)).length) := by
      have h1 := HL.out
      have h2 : ((l.take k).flatten).length = k * 34 := by
        rw [cs_flat (sz := 34) (fun y hy => HX.out.each y (List.mem_of_mem_take hy)), List.length_take]
        congr 1; omega
      refine Lib.hid ?_
      rw [List.length_append, h2, List.length_drop, hxn]
      omega
    clear hxl hat hxn
    go_wp2_with (first
      | ((with_reducible show wpList _ _ _ ({ dst := some 23, op := Op.load _ _, type := _, pos := _, after := _, guard := _ } :: _) _ _); go_must (refine wpList_load_at rfl 50 (.tmp 22) rfl (a.add (k * 34)) x _ Try.underlying50 rfl HSZ.out HAT.out ?_ ?_; go_simp))
      | ((with_reducible show wpList _ _ _ ({ dst := none, op := Op.store 50 _ _, type := _, pos := _, after := _, guard := _ } :: _) _ _); go_must (refine wpList_store_part rfl 50 (.tmp 24) (.tmp 23) rfl W.heap.size 50 (k * 34) _ x RR.out HSZ.out HCL.out HXO.out.one ?_ ?_ ?_; go_simp; go_simp; intro w2 hr2 ht2; have HR2 := Lib.hid hr2; have HT2 := Lib.hid ht2; clear hr2 ht2)))
    go_roundw
    case rel =>
      refine ⟨k + 1, by omega, by go_num, ?_, HB.out.trans (HT2.out.below (Nat.le_refl _))⟩
      have := HR2.out
      rwa [csSetR HX.out.each HX1.out] at this
    case measure => simp [intOf]; omega
  · obtain rfl : k = n := by omega
    have R2 : Hid (Row wr W.heap.size 50 (l.flatten ++ cs.drop (k * 34))) := by
      have := RR.out
      rw [List.take_of_length_le (by omega)] at this
      exact Lib.hid this
    have HFL : Hid ((l.flatten).length = k * 34) := Lib.hid (by rw [cs_flat HX.out.each, HX.out.len])
    clear RR
    go_wp2_with fail
    go_loopw [7] (fun i wr => ∃ j : Nat, j ≤ 3 ∧ i = .int .i64 j ∧ Row wr W.heap.size 50 (l.flatten ++ (rowOf j z ++ (cs.drop (k * 34)).drop (j * 34))) ∧ Below W.heap.size w1 wr) (fun i _ => 3 - (intOf i).toNat)
    case atStart => exact ⟨0, Nat.zero_le _, rfl, by simpa [rowOf] using R2.out, HB.out⟩
    case round =>
      clear R2 HB
      obtain ⟨j, hj, rfl, hr, hb⟩ := hrel
      have RR := Lib.hid hr
      have HB := Lib.hid hb
      clear hr hb
      by_cases hlt : j < 3
      · have HBX := Lib.hid (RB1.out.below HB.out (by have := ZW.out; omega))
        have HCL : Hid ((k + j) * 34 + z.length ≤ (l.flatten ++ (rowOf j z ++ (cs.drop (k * 34)).drop (j * 34))).length) := by
          have h1 := HL.out
          have h2 := HFL.out
          have h3 := rowOf_len j HZ.out.len
          refine Lib.hid ?_
          rw [List.length_append, List.length_append, h2, h3, List.length_drop, List.length_drop, HZ.out.len]
          omega
        go_wp2_with (first
          | ((with_reducible show wpList _ _ _ ({ dst := some 34, op := Op.load _ _, type := _, pos := _, after := _, guard := _ } :: _) _ _); go_must (refine wpList_load_whole rfl 50 (.tmp 3) rfl w.heap.size 50 z _ Try.underlying50 rfl HZ.out.size HBX.out ?_ ?_; go_simp))
          | ((with_reducible show wpList _ _ _ ({ dst := none, op := Op.store 50 _ _, type := _, pos := _, after := _, guard := _ } :: _) _ _); go_must (refine wpList_store_part rfl 50 (.tmp 35) (.tmp 34) rfl W.heap.size 50 ((k + j) * 34) _ z RR.out HZ.out.size HCL.out HZ.out.one ?_ ?_ ?_; go_simp; go_simp; intro w2 hr2 ht2; have HR2 := Lib.hid hr2; have HT2 := Lib.hid ht2; clear hr2 ht2)))
        go_roundw
        case rel =>
          refine ⟨j + 1, by omega, by go_num, ?_, HB.out.trans (HT2.out.below (Nat.le_refl _))⟩
          have := HR2.out
          have e := rowSetR (k := j) HZ.out.len (l.flatten) (cs.drop (k * 34)) (by have := HL.out; rw [List.length_drop]; omega)
          rw [HFL.out, ← Nat.add_mul] at e
          rwa [e] at this
        case measure => simp [intOf]; omega
      · obtain rfl : j = 3 := by omega
        have R3 : Hid (Row wr W.heap.size 50 (l.flatten ++ rowOf 3 z)) := by
          have := RR.out
          rw [List.drop_of_length_le (by have := HL.out; rw [List.length_drop]; omega), List.append_nil] at this
          exact Lib.hid this
        clear RR
        go_wp2_with fail
        go_ret
        exact ⟨W.heap.size, rfl, by have := ZW.out; omega, R3.out, HB1.out.trans (HB.out.mono (by have := ZW.out; omega))⟩
set_option maxRecDepth 100000 in
set_option maxHeartbeats 1000000 in
theorem leftR (g : Nat) (B : Option Addr) (n d : Nat) (l : List (List Value)) (z : List Value) (w : World) (S : Nat)
    (hr : Row w g 50 (l.flatten ++ rowOf 3 z)) (hy : CsIn 34 w S B n l) (ho : ∀ k ∈ l, IsR k) (hS : S ≤ w.heap.size) (hn : n ≤ 1000000000) (hz : IsR z) :
    Calls Try.prog 39 #[.slice (some ⟨g, 0, none⟩) n (n + 3), .slice B n d, .agg z.toArray] w fun e w' => e = .returned (.bool true) ∧ Below w.heap.size w w' := by
  have hb0 : Below w.heap.size w (w.alloc (Obj.cells z.toArray 50)) := (Below.refl _ _).alloc (Nat.le_refl _) _
  have RB := Lib.hid (Row.new w 50 z)
  have R := Lib.hid (hr.alloc (Obj.cells z.toArray 50))
  have HB0 := Lib.hid hb0
  have hlen := hy.len
  have h64 := hy.each
  have HFL : Hid ((l.flatten).length = n * 34) := Lib.hid (by rw [cs_flat h64, hlen])
  have HK := Lib.hid (sameR (some ⟨g, 0, none⟩) B n (n + 3) d l _ w.heap.size w.heap.size (csIn_row R.out hlen h64 hr.lt) ((hy.more hS).below hb0) ho (by unfold maxLen; omega))
  have NQ := fun w => hz.neq w
  have HZ := Lib.hid hz
  clear hr hy hb0 h64 hlen ho
  go_enter Try.func39, Try.ntmps39
  go_upto_region 1 with fail
  generalize (w.alloc (Obj.cells z.toArray 50)) = W at *
  go_wp2_with fail
  refine HK.out.mono ?_
  rintro e w1 ⟨rfl, k, rfl⟩
  go_wp2_with fail
  go_loopw [8] (fun i wr => ∃ j q : Nat, j ≤ 3 ∧ i = .int .i64 j ∧ wr = W.drewN q) (fun i _ => 3 - (intOf i).toNat)
  case atStart => exact ⟨0, k, Nat.zero_le _, rfl, rfl⟩
  case round =>
    obtain ⟨j, q, hj, rfl, rfl⟩ := hrel
    by_cases hlt : j < 3
    · have CA := Lib.hid (show ∀ i u, z[i]? = some u → W.cell? ((⟨g, (n + j) * 34, none⟩ : Addr).add i) = some u from fun i u hu => by
        rw [addr_row, R.out.cell, List.getElem?_append_right (by rw [HFL.out]; omega), HFL.out, show (n + j) * 34 + i - n * 34 = j * 34 + i by omega]
        exact rowOf_cell HZ.out.len hlt hu)
      have CB := Lib.hid (show ∀ i u, z[i]? = some u → W.cell? ((⟨w.heap.size, 0, none⟩ : Addr).add i) = some u from fun i u hu => by
        rw [addr_row, RB.out.cell, Nat.zero_add]; exact hu)
      have HSZ := Lib.hid HZ.out.size
      go_wp2
      refine wp_region_quiet_lit (by kernel_rfl) (by kernel_rfl) ?_
      repeat (first
        | ((with_reducible show wpQuiet _ _ _ _ ({ dst := some 36, op := Op.load _ _, type := _, pos := _, after := _, guard := _ } :: _) _); go_must (refine quiet_load_at (by kernel_rfl) 50 (.tmp 35) rfl ⟨g, (n + j) * 34, none⟩ z _ Try.underlying50 rfl HSZ.out (by rintro _ ⟨nq, rfl⟩; exact CA.out) ?_ ?_; go_simp; go_simp))
        | ((with_reducible show wpQuiet _ _ _ _ ({ dst := some 37, op := Op.load _ _, type := _, pos := _, after := _, guard := _ } :: _) _); go_must (refine quiet_load_at (by kernel_rfl) 50 (.tmp 5) rfl ⟨w.heap.size, 0, none⟩ z _ Try.underlying50 rfl HSZ.out (by rintro _ ⟨nq, rfl⟩; exact CB.out) ?_ ?_; go_simp; go_simp))
        | go_big_quiet_step (fail))
      refine wpQuiet_nil ?_
      intro nq
      go_wp2
      go_roundw
      case rel => exact ⟨j + 1, q + nq, by omega, by go_num, by simp⟩
      case measure => simp [intOf]; omega
    · go_wp2
      go_ret
      exact ⟨rfl, below_drewN HB0.out q⟩
end Go.Proofs.Ytodoaebpkmhhmaa

/-
  Of part BookR: what is needed here.
-/
namespace Go.Proofs.Ytodoaebpkmhhmaa
open Go.RowKit
set_option linter.unusedVariables false
set_option maxRecDepth 100000
theorem role_is {r : LRole} (h : r.key.length = 32) : IsR r.cells := ⟨role_len h, role_one r, fun w => by rw [role_neq h h]; simp, size_role h⟩
theorem of_fn32 {l : List Value} (hl : l.length = 32) : ∃ f : Fin 32 → Value, l = List.ofFn f := ⟨fun i => l.getD i undef, by
    refine List.ext_getElem (by simpa using hl) fun i h1 h2 => ?_
    rw [List.getElem_ofFn, List.getD_eq_getElem?_getD, List.getElem?_eq_getElem h1]
    rfl⟩
theorem built_roleS {l : List Value} (hl : l.length = 32) (b : Bool) : Try.prog.built 50 [(0, .agg l.toArray), (1, .bool b)] = some (l ++ [Value.bool b, .bool false]).toArray := by
  obtain ⟨f, rfl⟩ := of_fn32 hl
  kernel_rfl
theorem roles_is {l : List LRole} (h : ∀ r ∈ l, RoleOk r) : ∀ k ∈ l.map LRole.cells, IsR k := fun k hk => by
  obtain ⟨r, hr, rfl⟩ := List.mem_map.1 hk
  exact role_is (h r hr).1
/-- the mark behind roles -/
def mkR : LRole := ⟨mk0, true, false⟩
theorem mkR_is : IsR mkR.cells := role_is (by decide : mkR.key.length = 32)
set_option maxRecDepth 100000 in
set_option maxHeartbeats 800000 in
theorem markRole (w : World) : Calls Try.prog 26 #[] w fun e w' => e = .returned (.agg mkR.cells.toArray) ∧ Below w.heap.size w w' := by
  have rz : Row (w.alloc (.cells r0.cells.toArray 50)) w.heap.size 50 r0.cells := Row.new _ _ _
  have hb0 : Below w.heap.size w (w.alloc (.cells r0.cells.toArray 50)) := (Below.refl _ _).alloc (Nat.le_refl _) _
  have RZ := Lib.hid rz
  have HB0 := Lib.hid hb0
  have hX : ∀ c, c = r0.cells.toArray → w.alloc (.cells c 50) = w.alloc (.cells r0.cells.toArray 50) := by rintro _ rfl; rfl
  obtain ⟨W, hW⟩ : ∃ W, W = w.alloc (.cells r0.cells.toArray 50) := ⟨_, rfl⟩
  rw [← hW] at RZ HB0 hX
  have HX := Lib.hid hX
  clear rz hb0 hX hW
  go_enter Try.func26, Try.ntmps26
  go_upto_region 1 with fail
  rw [HX.out]
  rotate_left
  · kernel_rfl
  clear HX
  go_wp2_with fail
  refine (markKey W).mono ?_
  rintro e w1 ⟨rfl, hb1⟩
  have R1 := Lib.hid (RZ.out.below hb1 RZ.out.lt)
  have B1 := Lib.hid (HB0.out.trans (hb1.mono HB0.out.size))
  clear hb1 HB0 RZ
  go_wp2_with (first
    | ((with_reducible show wpList _ _ _ ({ dst := some 2, op := Op.build _ _, type := _, pos := _, after := _, guard := _ } :: _) _ _); go_must (refine wpList_plain rfl fun K hK => wp_built _ _ _ rfl (by simp only [List.map_toArray, List.map_cons, List.map_nil]; exact built_roleS (l := bv mk0) (by decide) _) (hK _ _ ?_)))
    | ((with_reducible show wpList _ _ _ ({ dst := none, op := Op.store 50 _ _, type := _, pos := _, after := _, guard := _ } :: _) _ _); go_must (refine wpList_store_whole rfl 50 (.tmp 0) (.tmp 2) rfl w.heap.size r0.cells mkR.cells R1.out mkR_is.size (by decide) mkR_is.one ?_ ?_ ?_; go_simp; (go_simp; rfl); intro w3 hr3 ht3; have R3 := Lib.hid hr3; have T3 := Lib.hid ht3; clear hr3 ht3)))
  refine bodyPost_ret (results_cell_row (h := rfl) _ w3 w.heap.size 50 _ (0, 0) _ (by rfl) R3.out.is Try.underlying50 rfl mkR_is.size) rfl ?_
  exact ⟨rfl, B1.out.trans (T3.out.below (Nat.le_refl _))⟩
set_option maxHeartbeats 400000 in
theorem twinRoles (A : Option Addr) (n c B : Nat) (l : List LRole) (w : World) (hx : RolesIn w B A n l) (hB : B ≤ w.heap.size) (hn : n ≤ 1000000) :
    Calls Try.prog 11 #[.slice A n c] w fun e w' => ∃ g, e = .returned (.slice (some ⟨g, 0, none⟩) n (n + 3)) ∧ w.heap.size ≤ g ∧ Row w' g 50 ((l.map LRole.cells).flatten ++ rowOf 3 mkR.cells) ∧ Below w.heap.size w w' := by
  have HX := Lib.hid hx
  clear hx
  go_enter Try.func11, Try.ntmps11
  go_wp2_with fail
  refine (markRole _).mono ?_
  rintro e w1 ⟨rfl, hb1⟩
  have H := Lib.hid (twinR A n c (l.map LRole.cells) mkR.cells w1 B (HX.out.cs.below (hb1.mono hB)) (roles_is HX.out.ok) (Nat.le_trans hB hb1.size) (by omega) mkR_is)
  have B1 := Lib.hid hb1
  clear hb1
  go_wp2_with fail
  refine H.out.mono ?_
  rintro e w2 ⟨g, rfl, hg, hr, hb2⟩
  have R2 := Lib.hid hr
  have HG := Lib.hid (Nat.le_trans B1.out.size hg)
  have B2 := Lib.hid (B1.out.trans (hb2.mono B1.out.size))
  clear hr hb2 hg
  go_wp2_with fail
  go_ret
  exact ⟨g, rfl, HG.out, R2.out, B2.out⟩
set_option maxHeartbeats 400000 in
theorem leftRoles (g : Nat) (A : Option Addr) (n d B : Nat) (l : List LRole) (w : World) (hr : Row w g 50 ((l.map LRole.cells).flatten ++ rowOf 3 mkR.cells)) (hx : RolesIn w B A n l) (hB : B ≤ w.heap.size) (hn : n ≤ 1000000) :
    Calls Try.prog 16 #[.slice (some ⟨g, 0, none⟩) n (n + 3), .slice A n d] w fun e w' => e = .returned (.bool true) ∧ Below w.heap.size w w' := by
  have HX := Lib.hid hx
  have HR := Lib.hid hr
  clear hx hr
  go_enter Try.func16, Try.ntmps16
  go_wp2_with fail
  refine (markRole _).mono ?_
  rintro e w1 ⟨rfl, hb1⟩
  have H := Lib.hid (leftR g A n d (l.map LRole.cells) mkR.cells w1 B (HR.out.below hb1 HR.out.lt) (HX.out.cs.below (hb1.mono hB)) (roles_is HX.out.ok) (Nat.le_trans hB hb1.size) (by omega) mkR_is)
  have B1 := Lib.hid hb1
  clear hb1
  generalize mkR.cells = M at *
  go_wp2_with fail
  refine H.out.mono ?_
  rintro e w2 ⟨rfl, hb2⟩
  have B2 := Lib.hid (B1.out.trans (hb2.mono B1.out.size))
  clear hb2
  go_wp2_with fail
  go_ret
  exact ⟨rfl, B2.out⟩
end Go.Proofs.Ytodoaebpkmhhmaa
