/-
  SameTx of transactions that are the same.
-/
import Derived.Test.YtolijdbdpnbchaaTx
import Derived.Test.YtolijdbdpnbchaaSameMsg
import Derived.Test.YtolijdbdpnbchaaGuard
namespace Go.Proofs.Ytolijdbdpnbchaa
open Go.RowKit
set_option linter.unusedVariables false

theorem same_neq64 {t : TypeId} (ht : Try.prog.underlying t = some (.array 64 5)) (z : List Int) (hz : z.length = 64) (w : World) :
    (binOp .neq t (.agg (bv z).toArray) (.agg (bv z).toArray)).run Try.prog w = .ok (.bool false) w := by
  obtain ⟨i, hi⟩ := infoU8
  rw [run_neq_struct, show (10000 : Nat) = 9999 + 1 from rfl, run_equalIn_array w 9999 _ _ ht hi, cellsOfU8, eqItems_same z w _ (fun i hi => by simp at hi; omega)]
  rfl

set_option maxRecDepth 100000 in
set_option maxHeartbeats 600000 in
theorem same_sigs (A B : Option Addr) (n c d : Nat) (l : List (List Int)) (w : World) (S T : Nat) (hx : SigsIn w S A n l) (hy : SigsIn w T B n l) (hn : n ≤ maxLen) :
    Calls Try.prog 45 #[.slice A n c, .slice B n d] w fun e w' => e = .returned (.bool true) ∧ ∃ k, w' = w.drewN k := by
  unfold maxLen at hn
  have HX := Lib.hid hx
  have HY := Lib.hid hy
  clear hx hy
  go_enter Try.func45, Try.ntmps45
  go_wp2
  go_loopw [5] (fun i wr => ∃ k j : Nat, k ≤ n ∧ i = .int .i64 k ∧ wr = w.drewN j) (fun i _ => n - (intOf i).toNat)
  case atStart => exact ⟨0, 0, Nat.zero_le _, rfl, rfl⟩
  case round =>
    obtain ⟨k, j, hk, rfl, rfl⟩ := hrel
    by_cases hlt : k < n
    · obtain ⟨a, x, rfl, ha, hxl, hxa⟩ := HX.out.get hlt
      obtain ⟨b, y, rfl, hb, hyl, hyb⟩ := HY.out.get hlt
      obtain rfl : x = y := by rw [hxl] at hyl; exact Option.some.inj hyl
      have ca := hxa.cells
      have cb := hyb.cells
      have NQ := fun w => same_neq64 Try.underlying62 x hxa.len w
      have HSZ := Lib.hid (show (Try.prog.info? 62).map (·.size) = some (bv x).length by rw [size_sig, bv_length, hxa.len])
      have CA := Lib.hid ca
      have CB := Lib.hid cb
      clear ca cb hxl hyl
      generalize bv x = X at *
      go_wp2
      refine wp_region_quiet_lit (by kernel_rfl) (by kernel_rfl) ?_
      repeat (first
        | ((with_reducible show wpQuiet _ _ _ _ ({ dst := some 20, op := Op.load _ _, type := _, pos := _, after := _, guard := _ } :: _) _); go_must (refine quiet_load_at (by kernel_rfl) 62 (.tmp 19) rfl (a.add (k * 64)) X _ Try.underlying62 rfl HSZ.out (by rintro _ ⟨nq, rfl⟩; exact CA.out) ?_ ?_; go_simp; go_simp))
        | ((with_reducible show wpQuiet _ _ _ _ ({ dst := some 24, op := Op.load _ _, type := _, pos := _, after := _, guard := _ } :: _) _); go_must (refine quiet_load_at (by kernel_rfl) 62 (.tmp 23) rfl (b.add (k * 64)) X _ Try.underlying62 rfl HSZ.out (by rintro _ ⟨nq, rfl⟩; exact CB.out) ?_ ?_; go_simp; go_simp))
        | go_big_quiet_step (fail))
      refine wpQuiet_nil ?_
      intro nq
      go_wp2
      go_roundw
      case rel => exact ⟨k + 1, j + nq, by omega, by go_num, by simp⟩
      case measure => simp [intOf]; omega
    · go_wp2
      go_ret
      exact ⟨rfl, j, rfl⟩

set_option maxRecDepth 100000 in
set_option maxHeartbeats 1000000 in
theorem same_tx (s s' : TRaw) (x : LTx) (B B' : Nat) (w : World) (h : TxIn w B s x) (hB : B ≤ w.heap.size) (h' : TxIn w B' s' x) (hB' : B' ≤ w.heap.size) :
    Calls Try.prog 23 #[.agg (s.cells x).toArray, .agg (s'.cells x).toArray] w fun e w' => e = .returned (.bool true) ∧ Below w.heap.size w w' := by
  obtain ⟨SA, sn, sc, q⟩ := s
  obtain ⟨SB, sn', sd, q'⟩ := s'
  obtain rfl : sn' = sn := h'.sigs.len.symm.trans h.sigs.len
  have hr0 := (Row.new w 33 (TRaw.cells ⟨SA, sn', sc, q⟩ x)).alloc (.cells (TRaw.cells ⟨SB, sn', sd, q'⟩ x).toArray 33)
  have hr1 : Row ((w.alloc (.cells (TRaw.cells ⟨SA, sn', sc, q⟩ x).toArray 33)).alloc (.cells (TRaw.cells ⟨SB, sn', sd, q'⟩ x).toArray 33)) (w.heap.size + 1) 33 (TRaw.cells ⟨SB, sn', sd, q'⟩ x) := Row.new' _ _ _ (by simp)
  have hbw := (((Below.refl w.heap.size w).alloc (Nat.le_refl _) (.cells (TRaw.cells ⟨SA, sn', sc, q⟩ x).toArray 33)).alloc (by simp) (.cells (TRaw.cells ⟨SB, sn', sd, q'⟩ x).toArray 33))
  have hw := h.below (hbw.mono hB)
  have hw' := h'.below (hbw.mono hB')
  have HSM := Lib.hid (show (Try.prog.info? 31).map (·.size) = some (q.cells x.m).length by rw [size_msg, cells_len h.m.recent])
  have HSM' := Lib.hid (show (Try.prog.info? 31).map (·.size) = some (q'.cells x.m).length by rw [size_msg, cells_len h.m.recent])
  have HCM := Lib.hid (tcells_m (s := ⟨SA, sn', sc, q⟩) (x := x))
  have HCM' := Lib.hid (tcells_m (s := ⟨SB, sn', sd, q'⟩) (x := x))
  have c0 : (TRaw.cells ⟨SA, sn', sc, q⟩ x)[0]? = some (.slice SA sn' sc) := rfl
  have d0 : (TRaw.cells ⟨SB, sn', sd, q'⟩ x)[0]? = some (.slice SB sn' sd) := rfl
  have hsc := h.sn
  dsimp only at hsc HCM HCM'
  generalize TRaw.cells ⟨SA, sn', sc, q⟩ x = ca at *
  generalize TRaw.cells ⟨SB, sn', sd, q'⟩ x = cb at *
  have HR0 := Lib.hid hr0
  have HR1 := Lib.hid hr1
  have HB := Lib.hid hbw
  have HW := Lib.hid hw
  have HW' := Lib.hid hw'
  have HSC := Lib.hid hsc
  have a0 := (hr0.cell 0).trans c0
  have b0 := (hr1.cell 0).trans d0
  clear hr0 hr1 hbw hw hw' h h' hsc c0 d0
  go_enter Try.func23, Try.ntmps23
  go_wp2_with fail
  refine (same_sigs SA SB sn' sc sd x.sigs _ B B' HW.out.sigs HW'.out.sigs (by have := HSC.out; omega)).mono ?_
  rintro e w5 ⟨rfl, k5, hw5⟩
  have hr5 : Row w5 w.heap.size 33 ca := by rw [hw5]; exact HR0.out.drewN k5
  have hr5' : Row w5 (w.heap.size + 1) 33 cb := by rw [hw5]; exact HR1.out.drewN k5
  have hm5 : TxIn w5 B ⟨SA, sn', sc, q⟩ x := by rw [hw5]; exact HW.out.drewN k5
  have hm5' : TxIn w5 B' ⟨SB, sn', sd, q'⟩ x := by rw [hw5]; exact HW'.out.drewN k5
  have hb5 : Below w.heap.size w w5 := by rw [hw5]; exact below_drewN HB.out k5
  have HR5 := Lib.hid hr5
  have HR5' := Lib.hid hr5'
  have HM5 := Lib.hid hm5.m
  have HM5' := Lib.hid hm5'.m
  have HB5 := Lib.hid hb5
  clear hr5 hr5' hm5 hm5' hb5 hw5 a0 b0 HR0 HR1 HB HW HW'
  go_wp2_with (first
    | ((with_reducible show wpList _ _ _ ({ dst := some 12, op := Op.load _ _, type := _, pos := _, after := _, guard := _ } :: _) _ _); go_must (refine wpList_load_atg (by kernel_rfl) 31 (.tmp 11) rfl ⟨w.heap.size, 1, none⟩ (q.cells x.m) _ Try.underlying31 rfl HSM.out (fun j u hu => by rw [addr_row, HR5.out.cell, HCM.out]; exact hu) ?_ ?_; go_simp))
    | ((with_reducible show wpList _ _ _ ({ dst := some 14, op := Op.load _ _, type := _, pos := _, after := _, guard := _ } :: _) _ _); go_must (refine wpList_load_atg (by kernel_rfl) 31 (.tmp 13) rfl ⟨w.heap.size + 1, 1, none⟩ (q'.cells x.m) _ Try.underlying31 rfl HSM'.out (fun j u hu => by rw [addr_row, HR5'.out.cell, HCM'.out]; exact hu) ?_ ?_; go_simp)))
  refine (same_msg q q' x.m B B' w5 HM5.out (Nat.le_trans hB HB5.out.size) HM5'.out (Nat.le_trans hB' HB5.out.size)).mono ?_
  rintro e w6 ⟨rfl, hb6⟩
  go_wp2_with fail
  go_ret
  exact ⟨rfl, HB5.out.trans (hb6.mono HB5.out.size)⟩
end Go.Proofs.Ytolijdbdpnbchaa
