/-
  packets.Whole.
-/
import Derived.Test.YtolijdbdpnbchaaGetTx
namespace Go.Proofs.Ytolijdbdpnbchaa
open Go.RowKit
set_option linter.unusedVariables false

/-- what Whole leaves -/
def WholeDone (w : World) (zs : List Int) (e : Ending) (w' : World) : Prop :=
  (∃ x s lo, wTx zs = .ok x ∧ e = .returned (.tuple #[.agg (TRaw.cells s x).toArray, .int .i64 0]) ∧ w.heap.size ≤ lo ∧ TxV w' lo w'.heap.size s x ∧ Below w.heap.size w w') ∨
  (∃ c, wTx zs = .error c ∧ e = .returned (.tuple #[.agg tzero.toArray, .int .i64 c]) ∧ Below w.heap.size w w')

set_option maxRecDepth 100000 in
set_option maxHeartbeats 2000000 in
theorem whole_ (A : Option Addr) (n c B : Nat) (zs : List Int) (w : World) (hs : Sees w B A n (bv zs)) (hB : B ≤ w.heap.size) (hnc : n ≤ c) (hc : c ≤ maxLen) (hz : AllBytes zs) :
    Calls Try.prog 21 #[.slice A n c] w (WholeDone w zs) := by
  have hn : zs.length = n := by have := hs.len; rwa [bv_length] at this
  subst hn
  have hmx := hc
  unfold maxLen at hmx
  have r0 := Row.new w 33 tzero
  have b0 : Below w.heap.size w (w.alloc (.cells tzero.toArray 33)) := (Below.refl _ _).alloc (Nat.le_refl _) _
  have z0 : (w.alloc (.cells tzero.toArray 33)).heap.size = w.heap.size + 1 := by simp
  have HG := Lib.hid (gettx_ A zs.length c B zs (w.alloc (.cells tzero.toArray 33)) (hs.below (b0.mono hB)) (Nat.le_trans hB b0.size) hnc hc hz)
  have R0 := Lib.hid r0
  have B0 := Lib.hid b0
  have Z0 := Lib.hid z0
  have HZ := Lib.hid hz
  clear hs r0 b0 z0 hz
  obtain ⟨W, hW⟩ : ∃ W, W = w.alloc (.cells tzero.toArray 33) := ⟨_, rfl⟩
  go_enter Try.func21, Try.ntmps21
  go_upto_region 1 with fail
  have hX : ∀ c, c = tzero.toArray → w.alloc (.cells c 33) = W := by rintro _ rfl; exact hW.symm
  rw [hX]
  rotate_left
  · kernel_rfl
  rw [← hW] at HG R0 B0 Z0
  clear hW hX
  by_cases hbig : 1232 < zs.length
  · have HP : Hid (wTx zs = .error 3) := Lib.hid (by unfold wTx; rw [if_pos hbig])
    have hbig' : (1232 : Int) < zs.length := by omega
    go_wp2_with (((with_reducible show wpList _ _ _ ({ dst := none, op := Op.store 33 _ _, type := _, pos := _, after := _, guard := _ } :: _) _ _); go_must (refine wpList_store_whole rfl 33 (.tmp 2) (.tmp 10) rfl w.heap.size tzero tzero R0.out size_tz rfl tzero_one ?_ ?_ ?_; go_simp; (go_simp; kernel_rfl); intro w3 hr3 ht3; have R3 := Lib.hid hr3; have T3 := Lib.hid ht3; clear hr3 ht3)))
    refine bodyPost_ret (results_cell1 (h := rfl) _ w3 ⟨w.heap.size, 0, none⟩ _ _ (by rfl) (by rfl) (run_loadVar_row w3 w.heap.size 33 33 tzero.toArray (0, 0) _ R3.out.is Try.underlying33 rfl (by rw [List.size_toArray]; exact size_tz))) rfl ?_
    exact .inr ⟨_, HP.out, rfl, B0.out.trans (T3.out.below (Nat.le_refl _))⟩
  have hbig' : ¬ (1232 : Int) < zs.length := by omega
  go_wp2_with fail
  refine HG.out.mono ?_
  rintro e w2 (⟨x, r, s, lo, hp, rfl, hlo, hv, hb⟩ | ⟨x, hp, rfl, hb⟩)
  rotate_left
  · have hx := pTx_err HZ.out hp
    have HP : Hid (wTx zs = .error x) := Lib.hid (by unfold wTx; rw [if_neg hbig, hp])
    have HR2 := Lib.hid (R0.out.below hb R0.out.lt)
    have HB2 := Lib.hid (B0.out.trans (hb.mono B0.out.size))
    have HLT := Lib.hid (show w.heap.size < w2.heap.size by have := HR2.out.lt; exact this)
    clear hp hb HG
    rcases hx with rfl | rfl
    all_goals
      go_wp2_with (first
        | ((with_reducible show wpList _ _ _ ({ dst := none, op := Op.store 33 (.tmp 4) _, type := _, pos := _, after := _, guard := _ } :: _) _ _); go_must (refine wpList_store_new rfl 33 (.tmp 4) (.tmp 14) rfl tzero size_tz tzero_one rfl ?_ ?_ ?_; go_simp; go_simp; intro w3 hr3 hb3 hz3; have B3 := Lib.hid hb3; clear hr3 hb3 hz3))
        | ((with_reducible show wpList _ _ _ ({ dst := none, op := Op.store 33 (.tmp 2) _, type := _, pos := _, after := _, guard := _ } :: _) _ _); go_must (refine wpList_store_whole rfl 33 (.tmp 2) (.tmp 19) rfl w.heap.size tzero tzero (HR2.out.below B3.out HLT.out) size_tz rfl tzero_one ?_ ?_ ?_; go_simp; (go_simp; kernel_rfl); intro w4 hr4 ht4; have R4 := Lib.hid hr4; have T4 := Lib.hid ht4; clear hr4 ht4)))
      refine bodyPost_ret (results_cell1 (h := rfl) _ w4 ⟨w.heap.size, 0, none⟩ _ _ (by rfl) (by rfl) (run_loadVar_row w4 w.heap.size 33 33 tzero.toArray (0, 0) _ R4.out.is Try.underlying33 rfl (by rw [List.size_toArray]; exact size_tz))) rfl ?_
      exact .inr ⟨_, HP.out, rfl, (HB2.out.trans (B3.out.mono HB2.out.size)).trans (T4.out.below (Nat.le_refl _))⟩
  have hle := (front_tx _ _ _ hp).le
  have HR2 := Lib.hid (R0.out.below hb R0.out.lt)
  have HB2 := Lib.hid (B0.out.trans (hb.mono B0.out.size))
  have HLT := Lib.hid HR2.out.lt
  have HTX := Lib.hid hv
  have HSZ := Lib.hid (show (Try.prog.info? 33).map (·.size) = some (TRaw.cells s x).length by rw [size_tx, tcells_len hv.in_.m.recent])
  have HTL := Lib.hid (tcells_len (s := s) (x := x) hv.in_.m.recent)
  have HCO := Lib.hid (tcells_one (s := s) (x := x))
  have HLO := Lib.hid hlo
  have HP2 := Lib.hid hp
  obtain ⟨T, hT⟩ : ∃ T : Int, T = (zs.length : Int) - r.length := ⟨_, rfl⟩
  rw [← hT]
  have HT := Lib.hid hT
  obtain ⟨cs, hcs⟩ : ∃ cs, cs = TRaw.cells s x := ⟨_, rfl⟩
  have HCS := Lib.hid hcs
  rw [← hcs] at HSZ HTL HCO ⊢
  clear hcs hT hp hv hlo hb HG
  by_cases h0 : r.length = 0
  · have hT0 : ¬ T < zs.length := by have := HT.out; omega
    have HP : Hid (wTx zs = .ok x) := Lib.hid (by unfold wTx; rw [if_neg hbig, HP2.out]; dsimp only; rw [if_pos h0])
    go_wp2_with (first
      | ((with_reducible show wpList _ _ _ ({ dst := none, op := Op.store 33 (.tmp 4) _, type := _, pos := _, after := _, guard := _ } :: _) _ _); go_must (refine wpList_store_new rfl 33 (.tmp 4) (.tmp 14) rfl cs HSZ.out HCO.out (by rw [HTL.out]; rfl) ?_ ?_ ?_; go_simp; go_simp; intro w3 hr3 hb3 hz3; have R3 := Lib.hid hr3; have B3 := Lib.hid hb3; clear hr3 hb3 hz3))
      | ((with_reducible show wpList _ _ _ ({ dst := some 26, op := Op.load _ _, type := _, pos := _, after := _, guard := _ } :: _) _ _); go_must (refine wpList_load_whole rfl 33 (.tmp 4) rfl w2.heap.size 33 cs _ Try.underlying33 rfl HSZ.out R3.out ?_ ?_; go_simp))
      | ((with_reducible show wpList _ _ _ ({ dst := none, op := Op.store 33 (.tmp 2) _, type := _, pos := _, after := _, guard := _ } :: _) _ _); go_must (refine wpList_store_whole rfl 33 (.tmp 2) (.tmp 26) rfl w.heap.size tzero cs (HR2.out.below B3.out HLT.out) HSZ.out (by rw [HTL.out]; rfl) HCO.out ?_ ?_ ?_; go_simp; go_simp; intro w4 hr4 ht4; have R4 := Lib.hid hr4; have T4 := Lib.hid ht4; clear hr4 ht4)))
    refine bodyPost_ret (results_cell1 (h := rfl) _ w4 ⟨w.heap.size, 0, none⟩ _ _ (by rfl) (by rfl) (run_loadVar_row w4 w.heap.size 33 33 cs.toArray (0, 0) _ R4.out.is Try.underlying33 rfl (by rw [List.size_toArray]; exact HSZ.out))) rfl ?_
    refine .inl ⟨x, s, lo, HP.out, by rw [HCS.out]; rfl, ?_, ?_, (HB2.out.trans (B3.out.mono HB2.out.size)).trans (T4.out.below (Nat.le_refl _))⟩
    · exact Nat.le_trans B0.out.size HLO.out
    · refine (HTX.out.stay (w' := w4) (by rw [T4.out.size]; exact B3.out.size) fun k a b => (T4.out.block k ?_).trans (B3.out.block k b)).more (by rw [T4.out.size]; exact B3.out.size)
      have := Z0.out
      have := HLO.out
      omega
  · have hT0 : T < zs.length := by have := HT.out; omega
    have HP : Hid (wTx zs = .error 4) := Lib.hid (by unfold wTx; rw [if_neg hbig, HP2.out]; dsimp only; rw [if_neg h0])
    go_wp2_with (first
      | ((with_reducible show wpList _ _ _ ({ dst := none, op := Op.store 33 (.tmp 4) _, type := _, pos := _, after := _, guard := _ } :: _) _ _); go_must (refine wpList_store_new rfl 33 (.tmp 4) (.tmp 14) rfl cs HSZ.out HCO.out (by rw [HTL.out]; rfl) ?_ ?_ ?_; go_simp; go_simp; intro w3 hr3 hb3 hz3; have B3 := Lib.hid hb3; clear hr3 hb3 hz3))
      | ((with_reducible show wpList _ _ _ ({ dst := none, op := Op.store 33 (.tmp 2) _, type := _, pos := _, after := _, guard := _ } :: _) _ _); go_must (refine wpList_store_whole rfl 33 (.tmp 2) (.tmp 25) rfl w.heap.size tzero tzero (HR2.out.below B3.out HLT.out) size_tz rfl tzero_one ?_ ?_ ?_; go_simp; (go_simp; kernel_rfl); intro w4 hr4 ht4; have R4 := Lib.hid hr4; have T4 := Lib.hid ht4; clear hr4 ht4)))
    refine bodyPost_ret (results_cell1 (h := rfl) _ w4 ⟨w.heap.size, 0, none⟩ _ _ (by rfl) (by rfl) (run_loadVar_row w4 w.heap.size 33 33 tzero.toArray (0, 0) _ R4.out.is Try.underlying33 rfl (by rw [List.size_toArray]; exact size_tz))) rfl ?_
    exact .inr ⟨_, HP.out, rfl, (HB2.out.trans (B3.out.mono HB2.out.size)).trans (T4.out.below (Nat.le_refl _))⟩
end Go.Proofs.Ytolijdbdpnbchaa
