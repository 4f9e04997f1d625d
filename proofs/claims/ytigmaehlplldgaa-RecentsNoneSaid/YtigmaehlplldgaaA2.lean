/-
  Parts joined: Push12 Resolve Known Bad8 RefPush12 Lives12 LastWalk12 PlayMem12 PlayWalk12.
-/
import Derived.Lib.Hide
import Derived.Below
import Derived.Laws.OwnMore
import Derived.Deep.AppendLies
import Derived.Deep.Draws
import Derived.Laws.MakeOwn
import Derived.Laws.CopyOwn
import Derived.Laws.Rows
import Derived.Laws.BitsAllLaws
import Derived.WalkKit
import Derived.Test.YtigmaehlplldgaaRows
import Derived.WalkSpells
import Derived.WalkLawsBesides
import Derived.IntWalk
import Derived.Deep.MidRow
import Derived.Deep.WholeRow
import Derived.Maps.AppendAt
import Derived.OwnWalk
import Derived.Great.BuildSlice
import Derived.Recover
import Derived.Deep.RegionHeld
import Derived.Deep.QuietTactic
import Derived.BigQuiet
import Derived.ChangeKeysEq
import Derived.ProofKit
import Derived.OpenShut
import Derived.ShutString
import Derived.ChangeOld
import Derived.Lib.SmallJoins
import Derived.Deep.Slices
import Derived.Deep.Strs
import Derived.SizedLaws
import Derived.Deep.RegionHeld2
import Derived.Deep.CutBlock
import Derived.Laws.Tables
import Derived.Laws.Slices
import Derived.WalkMore
import Derived.Laws.StructEq
import Derived.Deep.DeepCutAuto
import Derived.Laws.EntriesVeiled
import Derived.Deep.RegionHeld3
import Derived.Maps.OwnSet
import Derived.DeepKeys4
import Derived.WideKeyArr
import Derived.WideKeyEntry
import Derived.Shelf.SlMaps.Clone
import Derived.LaidMore
import Derived.Laws.Append
import Derived.Laws.AppendOwn
import Derived.Test.YtigmaehlplldgaaA1
/-
  Of part Push12: what is needed here.
-/
namespace Go.Proofs.Ytigmaehlplldgaa
open Go.RowKit
set_option linter.unusedVariables false
set_option maxRecDepth 100000
theorem gb_turned {w V V' : World} {row : Option Nat} {g : Nat} (hg : w.grownBy V row) (ht : Turned V V' g) (h : w.heap.size ≤ g ∨ row = some g) : w.grownBy V' row :=
  ⟨ht.os.trans hg.os, ht.tape.trans hg.tape, ht.output.trans hg.output, by rw [ht.size]; exact hg.size, fun k hk hr => (ht.block k (fun e => by
    subst e
    rcases h with h | h
    · omega
    · exact hr h.symm)).trans (hg.block k hk hr)⟩
theorem gb_below {w V V' : World} {row : Option Nat} (hg : w.grownBy V row) (hb : Below V.heap.size V V') : w.grownBy V' row :=
  ⟨hb.os.trans hg.os, hb.tape.trans hg.tape, hb.output.trans hg.output, Nat.le_trans hg.size hb.size, fun k hk hr => (hb.block k (Nat.lt_of_lt_of_le hk hg.size)).trans (hg.block k hk hr)⟩
theorem gb_of {w V : World} (row : Option Nat) (hb : Below w.heap.size w V) : w.grownBy V row := ⟨hb.os, hb.tape, hb.output, hb.size, fun k hk _ => hb.block k hk⟩
theorem zero_h : (Try.prog.info? 25).map (·.zero) = some (some (.agg (bv zero12).toArray)) := by kernel_rfl
theorem zero12_len : zero12.length = 32 := rfl
/-- who falls, or noughts -/
def fallL (L : List (List Int)) (h : List Int) : List Int := (fell12 L h).getD zero12
def errP (L : List (List Int)) (h : List Int) : Int := if h ∈ L then 12 else 0
def pushE (L : List (List Int)) (h : List Int) : Ending := .returned (.tuple #[.agg (bv (fallL L h)).toArray, .bool (fell12 L h).isSome, .int .i64 (errP L h)])
theorem pushE_in {L : List (List Int)} {h : List Int} (hm : h ∈ L) : pushE L h = .returned (.tuple #[.agg (bv zero12).toArray, .bool false, .int .i64 12]) := by
  unfold pushE fallL fell12 errP
  rw [if_pos hm, if_pos hm]
  rfl
theorem pushE_room {L : List (List Int)} {h : List Int} (hm : h ∉ L) (hl : L.length < 150) : pushE L h = .returned (.tuple #[.agg (bv zero12).toArray, .bool false, .int .i64 0]) := by
  unfold pushE fallL fell12 errP
  rw [if_neg hm, if_neg hm, List.getElem?_eq_none (by omega)]
  rfl
theorem pushE_full {L : List (List Int)} {h y : List Int} (hm : h ∉ L) (hy : L[149]? = some y) : pushE L h = .returned (.tuple #[.agg (bv y).toArray, .bool true, .int .i64 0]) := by
  unfold pushE fallL fell12 errP
  rw [if_neg hm, if_neg hm, hy]
  rfl
def PushDone (w : World) (rb : Nat) (L : List (List Int)) (h : List Int) (e : Ending) (w' : World) : Prop := e = pushE L h ∧ QIn w' rb (push12 L h) ∧ w.grownBy w' (some rb)
theorem run_load_row12 {P : Program} {w : World} {g : Nat} {cs : List Value} {t : TypeId} {d : TypeDesc} (hr : Row w g t cs) (hi : (P.info? t).map (·.size) = some cs.length) (hu : P.underlying t = some d := by first | exact Try.underlying25 | assumption) (hd : d.isRow = true := by rfl) : (loadVar t ⟨g, 0, none⟩).run P w = .ok (.agg cs.toArray) w := by
  have := run_loadAt_at (P := P) w ⟨g, 0, none⟩ t cs d (fun j v hv => by rw [addr_row, Nat.zero_add]; exact (hr.cell j).trans hv) hu hd hi
  simpa [Instr.loadAt, Instr.sureAddr] using this
set_option maxHeartbeats 2000000 in
theorem push_no (h : List Int) (w : World) : Calls Try.prog 9 #[.pointer none, .agg (bv h).toArray] w fun e w' => e = .returned (.tuple #[.agg (bv zero12).toArray, .bool false, .int .i64 2]) ∧ Below w.heap.size w w' := by
  have HZS := Lib.hid (size_hash' zero12_len)
  have RF0 := Lib.hid (Row.new' (w.alloc (.cells (bv h).toArray 25)) 25 (bv zero12) (g := w.heap.size + 1) (by simp))
  have RX0 := Lib.hid ((Row.new w 25 (bv h)).alloc (.cells (bv zero12).toArray 25))
  have hbw := ((Below.refl w.heap.size w).alloc (Nat.le_refl _) (.cells (bv h).toArray 25)).alloc (by simp) (.cells (bv zero12).toArray 25)
  have HB0 := Lib.hid hbw
  have HFG : Hid (w.heap.size ≤ w.heap.size + 1) := Lib.hid (Nat.le_succ _)
  have HGG := Lib.hid (Nat.le_refl w.heap.size)
  clear hbw
  obtain ⟨f, hf⟩ : ∃ f, f = w.heap.size + 1 := ⟨_, rfl⟩
  have HF : Hid (w.heap.size + 1 = f) := Lib.hid hf.symm
  rw [← hf] at RF0 HFG
  clear hf RX0
  go_enter Try.func9, Try.ntmps9
  go_wp2_with ((with_reducible show wpList _ _ _ ({ dst := some 4, op := Op.alloc _, type := _, pos := _, after := _, guard := _ } :: _) _ _); go_must (refine wpList_alloc_zero rfl 25 rfl (bv zero12) zero_h ?_))
  rw [HF.out]
  clear HF
  refine (thereQ_no _).mono ?_
  rintro e w' ⟨rfl, rfl⟩
  go_wp2_with (first
    | ((with_reducible show wpList _ _ _ ({ dst := some 12, op := Op.build _ _, type := _, pos := _, after := _, guard := _ } :: _) _ _); go_must (refine wpList_plain rfl fun K hK => wp_built _ _ _ rfl (by simp only [List.map_toArray, List.map_nil]; exact built_hash0) (hK _ _ ?_)))
    | ((with_reducible show wpList _ _ _ ({ dst := none, op := Op.store 25 _ _, type := _, pos := _, after := _, guard := _ } :: _) _ _); go_must (refine wpList_store_whole rfl 25 (.tmp 4) (.tmp 12) rfl f (bv zero12) (bv zero12) RF0.out HZS.out rfl (bv_one _) ?_ ?_ ?_; go_simp; go_simp; intro w2 hr1 ht1; have RF := Lib.hid hr1; have TF := Lib.hid ht1; clear hr1 ht1)))
  refine bodyPost_ret (results_cell2 (h := rfl) _ w2 ⟨f, 0, none⟩ (.agg (bv zero12).toArray) (.bool false) (.int .i64 2) (by rfl) (by rfl) (by rfl) (run_load_row12 RF.out HZS.out)) rfl ?_
  exact ⟨rfl, HB0.out.trans (TF.out.below HFG.out)⟩
set_option maxHeartbeats 2000000 in
theorem push_not (rb : Nat) (h : List Int) (w : World) (hc : w.cell? ⟨rb, 4802, none⟩ = some (.bool false)) : Calls Try.prog 9 #[.pointer (some ⟨rb, 0, none⟩), .agg (bv h).toArray] w fun e w' => e = .returned (.tuple #[.agg (bv zero12).toArray, .bool false, .int .i64 2]) ∧ Below w.heap.size w w' := by
  have HZS := Lib.hid (size_hash' zero12_len)
  have RF0 := Lib.hid (Row.new' (w.alloc (.cells (bv h).toArray 25)) 25 (bv zero12) (g := w.heap.size + 1) (by simp))
  have RX0 := Lib.hid ((Row.new w 25 (bv h)).alloc (.cells (bv zero12).toArray 25))
  have hbw := ((Below.refl w.heap.size w).alloc (Nat.le_refl _) (.cells (bv h).toArray 25)).alloc (by simp) (.cells (bv zero12).toArray 25)
  have HB0 := Lib.hid hbw
  have HFG : Hid (w.heap.size ≤ w.heap.size + 1) := Lib.hid (Nat.le_succ _)
  have HGG := Lib.hid (Nat.le_refl w.heap.size)
  have HT := Lib.hid (thereQ_ rb false ((w.alloc (.cells (bv h).toArray 25)).alloc (.cells (bv zero12).toArray 25)) (by rw [World.cell?_alloc_lt _ _ _ (by simp; have := World.block_lt_of_cell? w _ hc; simp at this; omega), World.cell?_alloc_lt w _ _ (World.block_lt_of_cell? w _ hc)]; exact hc))
  clear hc
  clear hbw
  obtain ⟨f, hf⟩ : ∃ f, f = w.heap.size + 1 := ⟨_, rfl⟩
  have HF : Hid (w.heap.size + 1 = f) := Lib.hid hf.symm
  rw [← hf] at RF0 HFG
  clear hf RX0
  go_enter Try.func9, Try.ntmps9
  go_wp2_with ((with_reducible show wpList _ _ _ ({ dst := some 4, op := Op.alloc _, type := _, pos := _, after := _, guard := _ } :: _) _ _); go_must (refine wpList_alloc_zero rfl 25 rfl (bv zero12) zero_h ?_))
  rw [HF.out]
  clear HF
  refine HT.out.mono ?_
  rintro e w' ⟨rfl, rfl⟩
  go_wp2_with (first
    | ((with_reducible show wpList _ _ _ ({ dst := some 12, op := Op.build _ _, type := _, pos := _, after := _, guard := _ } :: _) _ _); go_must (refine wpList_plain rfl fun K hK => wp_built _ _ _ rfl (by simp only [List.map_toArray, List.map_nil]; exact built_hash0) (hK _ _ ?_)))
    | ((with_reducible show wpList _ _ _ ({ dst := none, op := Op.store 25 _ _, type := _, pos := _, after := _, guard := _ } :: _) _ _); go_must (refine wpList_store_whole rfl 25 (.tmp 4) (.tmp 12) rfl f (bv zero12) (bv zero12) RF0.out HZS.out rfl (bv_one _) ?_ ?_ ?_; go_simp; go_simp; intro w2 hr1 ht1; have RF := Lib.hid hr1; have TF := Lib.hid ht1; clear hr1 ht1)))
  refine bodyPost_ret (results_cell2 (h := rfl) _ w2 ⟨f, 0, none⟩ (.agg (bv zero12).toArray) (.bool false) (.int .i64 2) (by rfl) (by rfl) (by rfl) (run_load_row12 RF.out HZS.out)) rfl ?_
  exact ⟨rfl, HB0.out.trans (TF.out.below HFG.out)⟩
set_option maxHeartbeats 8000000 in
theorem push_ (rb : Nat) (L : List (List Int)) (h : List Int) (w : World) (hq : QIn w rb L) (hl : h.length = 32) : Calls Try.prog 9 #[.pointer (some ⟨rb, 0, none⟩), .agg (bv h).toArray] w (PushDone w rb L h) := by
  obtain ⟨H, nx, mn, hrow, hring⟩ := hq.is
  have hrb := hrow.lt
  have HZS := Lib.hid (size_hash' zero12_len)
  have RF0 := Lib.hid (Row.new' (w.alloc (.cells (bv h).toArray 25)) 25 (bv zero12) (g := w.heap.size + 1) (by simp))
  have RX0 := Lib.hid ((Row.new w 25 (bv h)).alloc (.cells (bv zero12).toArray 25))
  have hbw := ((Below.refl w.heap.size w).alloc (Nat.le_refl _) (.cells (bv h).toArray 25)).alloc (by simp) (.cells (bv zero12).toArray 25)
  have HB0 := Lib.hid hbw
  have HFG : Hid (w.heap.size ≤ w.heap.size + 1) := Lib.hid (Nat.le_succ _)
  have HGG := Lib.hid (Nat.le_refl w.heap.size)
  have hq1 := (hq.below ((Below.refl w.heap.size w).alloc (Nat.le_refl _) (.cells (bv h).toArray 25))).below ((Below.refl _ _).alloc (Nat.le_refl _) (.cells (bv zero12).toArray 25))
  have HT := Lib.hid (thereQ_ rb true _ ((((hrow.alloc (.cells (bv h).toArray 25)).alloc (.cells (bv zero12).toArray 25)).cell 4802).trans (qcells_md hring.len hring.h32)))
  have HA := Lib.hid (age_ rb L h _ hq1 hl)
  have RQ0 := Lib.hid ((hrow.alloc (.cells (bv h).toArray 25)).alloc (.cells (bv zero12).toArray 25))
  have HRING := Lib.hid hring
  have HSZ := Lib.hid (size_hash' hl)
  have HHL : Hid ((bv h).length = 32) := Lib.hid (by rw [bv_length, hl])
  have HL := Lib.hid hl
  obtain ⟨f, hf⟩ : ∃ f, f = w.heap.size + 1 := ⟨_, rfl⟩
  obtain ⟨g, hg⟩ : ∃ g, g = w.heap.size := ⟨_, rfl⟩
  have HF : Hid (w.heap.size + 1 = f) := Lib.hid hf.symm
  have HG : Hid (w.heap.size = g) := Lib.hid hg.symm
  have HFR : Hid (f ≠ rb) := Lib.hid (by omega)
  have HGR : Hid (g ≠ rb) := Lib.hid (by omega)
  have HGF : Hid (g ≠ f) := Lib.hid (by omega)
  rw [← hf] at RF0 HFG
  have RG0 : Hid (Row ((w.alloc (.cells (bv h).toArray 25)).alloc (.cells (bv zero12).toArray 25)) g 25 (bv h)) := Lib.hid (by rw [hg]; exact RX0.out)
  clear hf hg hbw hq hq1 hrow hring hrb RX0 HGG
  generalize hWW : (w.alloc (.cells (bv h).toArray 25)).alloc (.cells (bv zero12).toArray 25) = W at *
  have HWW := Lib.hid hWW
  clear hWW
  go_enter Try.func9, Try.ntmps9
  go_wp2_with ((with_reducible show wpList _ _ _ ({ dst := some 4, op := Op.alloc _, type := _, pos := _, after := _, guard := _ } :: _) _ _); go_must (refine wpList_alloc_zero rfl 25 rfl (bv zero12) zero_h ?_))
  rw [HF.out, HG.out, HWW.out]
  clear HF HG HWW
  refine HT.out.mono ?_
  rintro e w' ⟨rfl, rfl⟩
  clear HT
  go_wp2_with ((with_reducible show wpList _ _ _ ({ dst := some 15, op := Op.load _ _, type := _, pos := _, after := _, guard := _ } :: _) _ _); go_must (refine wpList_load_whole rfl 25 (.tmp 3) rfl g 25 (bv h) _ Try.underlying25 rfl HSZ.out RG0.out ?_ ?_; go_simp))
  refine HA.out.mono ?_
  rintro e w1 ⟨rfl, hb1⟩
  have R1 := Lib.hid (RQ0.out.below hb1 RQ0.out.lt)
  have RF1 := Lib.hid (RF0.out.below hb1 RF0.out.lt)
  have RG1 := Lib.hid (RG0.out.below hb1 RG0.out.lt)
  have G1 := Lib.hid (gb_of (some rb) (HB0.out.trans (hb1.mono HB0.out.size)))
  clear hb1 HA RQ0 RF0 RG0 HB0
  by_cases hm : h ∈ L
  · have HE := Lib.hid (pushE_in hm).symm
    have HP := Lib.hid (push12_in hm)
    rw [decide_eq_true hm]
    clear hm
    go_wp2_with (first
      | ((with_reducible show wpList _ _ _ ({ dst := some 20, op := Op.build _ _, type := _, pos := _, after := _, guard := _ } :: _) _ _); go_must (refine wpList_plain rfl fun K hK => wp_built _ _ _ rfl (by simp only [List.map_toArray, List.map_nil]; exact built_hash0) (hK _ _ ?_)))
      | ((with_reducible show wpList _ _ _ ({ dst := none, op := Op.store 25 _ _, type := _, pos := _, after := _, guard := _ } :: _) _ _); go_must (refine wpList_store_whole rfl 25 (.tmp 4) (.tmp 20) rfl f (bv zero12) (bv zero12) RF1.out HZS.out rfl (bv_one _) ?_ ?_ ?_; go_simp; go_simp; intro w2 hr1 ht1; have RF := Lib.hid hr1; have TF := Lib.hid ht1; clear hr1 ht1)))
    refine bodyPost_ret (results_cell2 (h := rfl) _ w2 ⟨f, 0, none⟩ (.agg (bv zero12).toArray) (.bool false) (.int .i64 12) (by rfl) (by rfl) (by rfl) (run_load_row12 RF.out HZS.out)) rfl ?_
    exact ⟨HE.out, by rw [HP.out]; exact ⟨_, _, _, TF.out.row R1.out (fun e => HFR.out e.symm), HRING.out⟩, gb_turned G1.out TF.out (.inl HFG.out)⟩
  have HM := Lib.hid hm
  rw [decide_eq_false hm]
  have c1 : w1.cell? ⟨rb, 4801, none⟩ = some (.int .i64 mn) := (R1.out.cell 4801).trans (qcells_mn HRING.out.len HRING.out.h32)
  have f1 : w1.frozen? ⟨rb, 4801, none⟩ = false := R1.out.frozen 4801
  have hmn := HRING.out.le
  have hnx := HRING.out.lt
  have hmany := Lib.hid HRING.out.many
  have hnx' : (nx : Int) < 150 := by omega
  have HMOD : Hid (((nx : Int) + 1) % 150 = (((nx + 1) % 150 : Nat) : Int)) := Lib.hid (by omega)
  have HHI : Hid (nx < H.length) := Lib.hid (by rw [HRING.out.len]; exact hnx)
  clear hm
  by_cases hfull : mn = 150
  · have hfull' : (mn : Int) = 150 := by omega
    have hfull2 : ((mn : Int) == 150) = true := by simpa using hfull'
    obtain ⟨y, hy⟩ : ∃ y, H[nx]? = some y := ⟨_, List.getElem?_eq_getElem HHI.out⟩
    have hyl : y.length = 32 := HRING.out.h32 y (List.mem_of_getElem? hy)
    have HE := Lib.hid (pushE_full HM.out ((HRING.out.oldest hfull).trans hy)).symm
    have HRP := Lib.hid (HRING.out.push_full HL.out HM.out hfull)
    have HYZ := Lib.hid (size_hash' hyl)
    have HYL : Hid ((bv y).length = 32) := Lib.hid (by rw [bv_length, hyl])
    have HS7 : Hid (w1.drew.cell? ⟨rb, 4800, none⟩ = some (.int .i64 nx) ∧ Row w1.drew rb 43 (qcells H nx mn true)) := Lib.hid ⟨(R1.out.drew.cell 4800).trans (qcells_nx HRING.out.len HRING.out.h32), R1.out.drew⟩
    have HYC : Hid (∀ j u, (bv y)[j]? = some u → (qcells H nx mn true)[nx * 32 + j]? = some u) := Lib.hid fun j u hu => qcells_at HRING.out.h32 hy hu
    clear hy hyl hfull
    go_wp2_with fail
    clear c1 f1 hfull' hfull2
    refine wp_region_held_drew (S := (fun V => V.cell? ⟨rb, 4800, none⟩ = some (.int .i64 nx) ∧ Row V rb 43 (qcells H nx mn true))) (by kernel_rfl) HS7.out (fun _ => ?_)
    refine takeL (i := 0) (v := ?_) rfl (by kernel_rfl) (by kernel_rfl) (by kernel_rfl) (fun _ _ _ h => h) (Or.inl ⟨by rfl, ?_⟩) HS7.out ?_
    rotate_left
    · intro w hw
      try dsimp only at hw
      obtain ⟨hc, hr⟩ := hw
      go_simp
      try with_reducible rfl
    try simp only [Act.put, List.setIfInBounds_toArray, List.set_cons_zero, List.set_cons_succ]
    refine takeL (i := 1) (v := ?_) rfl (by kernel_rfl) (by kernel_rfl) (by kernel_rfl) (fun _ _ _ h => h) (Or.inl ⟨by rfl, ?_⟩) HS7.out ?_
    rotate_left
    · intro w hw
      try dsimp only at hw
      obtain ⟨hc, hr⟩ := hw
      go_simp
      try with_reducible rfl
    try simp only [Act.put, List.setIfInBounds_toArray, List.set_cons_zero, List.set_cons_succ]
    refine takeL (i := 2) (v := ?_) rfl (by kernel_rfl) (by kernel_rfl) (by kernel_rfl) (fun _ _ _ h => h) (Or.inl ⟨by rfl, ?_⟩) HS7.out ?_
    rotate_left
    · intro w hw
      try dsimp only at hw
      obtain ⟨hc, hr⟩ := hw
      go_simp
      try with_reducible rfl
    try simp only [Act.put, List.setIfInBounds_toArray, List.set_cons_zero, List.set_cons_succ]
    refine takeL (i := 3) (v := ?_) rfl (by kernel_rfl) (by kernel_rfl) (by kernel_rfl) (fun _ _ _ h => h) (Or.inl ⟨by rfl, ?_⟩) HS7.out ?_
    rotate_left
    · intro w hw
      try dsimp only at hw
      obtain ⟨hc, hr⟩ := hw
      go_simp
      try with_reducible rfl
    try simp only [Act.put, List.setIfInBounds_toArray, List.set_cons_zero, List.set_cons_succ]
    refine takeL (i := 4) (v := ?_) rfl (by kernel_rfl) (by kernel_rfl) (by kernel_rfl) (fun _ _ _ h => h) (Or.inl ⟨by rfl, ?_⟩) HS7.out ?_
    rotate_left
    · intro w hw
      try dsimp only at hw
      obtain ⟨hc, hr⟩ := hw
      go_simp
      try with_reducible rfl
    try simp only [Act.put, List.setIfInBounds_toArray, List.set_cons_zero, List.set_cons_succ]
    refine takeL (i := 5) (v := ?_) rfl (by kernel_rfl) (by kernel_rfl) (by kernel_rfl) (fun _ _ _ h => h) (Or.inl ⟨by rfl, ?_⟩) HS7.out ?_
    rotate_left
    · intro w hw
      try dsimp only at hw
      obtain ⟨hc, hr⟩ := hw
      go_simp
      try with_reducible rfl
    try simp only [Act.put, List.setIfInBounds_toArray, List.set_cons_zero, List.set_cons_succ]
    refine takeL (i := 6) (v := ?_) rfl (by kernel_rfl) (by kernel_rfl) (by kernel_rfl) (fun _ _ _ h => h) (Or.inl ⟨by rfl, ?_⟩) HS7.out ?_
    rotate_left
    · intro w hw
      try dsimp only at hw
      obtain ⟨hc, hr⟩ := hw
      go_simp
      try with_reducible rfl
    try simp only [Act.put, List.setIfInBounds_toArray, List.set_cons_zero, List.set_cons_succ]
    refine takeL (i := 7) (v := ?_) rfl (by kernel_rfl) (by kernel_rfl) (by kernel_rfl) (fun _ _ _ h => h) (Or.inl ⟨by rfl, ?_⟩) HS7.out ?_
    rotate_left
    · intro w hw
      try dsimp only at hw
      obtain ⟨hc, hr⟩ := hw
      go_simp
      try with_reducible rfl
    try simp only [Act.put, List.setIfInBounds_toArray, List.set_cons_zero, List.set_cons_succ]
    refine takeL (i := 8) (v := .agg (bv y).toArray) rfl (by kernel_rfl) (by kernel_rfl) (by kernel_rfl) (fun _ _ _ h => h) (Or.inl ⟨by rfl, fun wz hwz => exec_load_at wz 25 (.tmp 33) rfl ⟨rb, nx * 32, none⟩ (bv y) _ Try.underlying25 rfl HYZ.out (fun j u hu => by rw [addr_row]; exact (hwz.2.cell _).trans (HYC.out j u hu)) (by go_simp)⟩) HS7.out ?_
    try simp only [Act.put, List.setIfInBounds_toArray, List.set_cons_zero, List.set_cons_succ]
    refine readyL (i := 9) rfl (by kernel_rfl) (by kernel_rfl) fun K hK => ?_
    refine wp_store_part 25 (.tmp 4) (.tmp 34) rfl f 25 0 (bv zero12) (bv y) RF1.out.drew HYZ.out (by rw [HYL.out]; show 0 + 32 ≤ 32; omega) (bv_one _) (by go_simp) (by go_simp) fun V hr1 ht1 => ?_
    have e0 : (bv zero12).take 0 ++ bv y ++ (bv zero12).drop (0 + (bv y).length) = bv y := by
      rw [HYL.out]
      simp [zero12, bv, cv]
    rw [e0] at hr1
    clear e0
    have RFV := Lib.hid hr1
    have RV := Lib.hid (ht1.row R1.out.drew (fun e => HFR.out e.symm))
    have RG := Lib.hid (ht1.row RG1.out.drew HGF.out)
    have GV : Hid (w.grownBy V (some rb)) := Lib.hid (gb_turned (gb_below G1.out (Below.refl _ _).drew) ht1 (.inl HFG.out))
    clear hr1 ht1
    have HS7b : Hid (V.cell? ⟨rb, 4800, none⟩ = some (.int .i64 nx) ∧ Row V rb 43 (qcells H nx mn true)) := Lib.hid ⟨(RV.out.cell 4800).trans (qcells_nx HRING.out.len HRING.out.h32), RV.out⟩
    refine hK.out _ _ HS7b.out ?_
    clear hK K HS7 R1 RF1 RG1 G1
    try simp only [Act.put]
    refine takeL (i := 10) (v := ?_) rfl (by kernel_rfl) (by kernel_rfl) (by kernel_rfl) (fun _ _ _ h => h) (Or.inl ⟨by rfl, ?_⟩) HS7b.out ?_
    rotate_left
    · intro w hw
      try dsimp only at hw
      obtain ⟨hc, hr⟩ := hw
      go_simp
      try with_reducible rfl
    try simp only [Act.put, List.setIfInBounds_toArray, List.set_cons_zero, List.set_cons_succ]
    refine wpAnyH_done (by kernel_rfl) ?_ _
    clear HS7b
    have HC4800 : Hid ((qcells H nx mn true)[4800]? = some (.int .i64 nx)) := Lib.hid (qcells_nx HRING.out.len HRING.out.h32)
    have HC4800b : Hid ((qcells (H.set nx h) nx mn true)[4800]? = some (.int .i64 nx)) := Lib.hid (qcells_nx HRP.out.len HRP.out.h32)
    have HXL : Hid ((qcells H nx mn true).length = 4803) := Lib.hid (qcells_len HRING.out.len HRING.out.h32)
    have HSET : Hid ((qcells H nx mn true).take (nx * 32) ++ bv h ++ (qcells H nx mn true).drop (nx * 32 + 32) = qcells (H.set nx h) nx mn true) := Lib.hid (qcells_set HRING.out.h32 HL.out HHI.out)
    have HS9 : Hid (V.drew.cell? ⟨rb, 4800, none⟩ = some (.int .i64 nx) ∧ Row V.drew g 25 (bv h)) := Lib.hid ⟨(RV.out.drew.cell 4800).trans HC4800.out, RG.out.drew⟩
    go_wp2_with fail
    refine wp_region_held_drew (S := (fun V => V.cell? ⟨rb, 4800, none⟩ = some (.int .i64 nx) ∧ Row V g 25 (bv h))) (by kernel_rfl) HS9.out (fun _ => ?_)
    refine takeL (i := 0) (v := ?_) rfl (by kernel_rfl) (by kernel_rfl) (by kernel_rfl) (fun _ _ _ h => h) (Or.inl ⟨by rfl, ?_⟩) HS9.out ?_
    rotate_left
    · intro w hw
      try dsimp only at hw
      obtain ⟨hc, hr⟩ := hw
      go_simp
      try with_reducible rfl
    try simp only [Act.put, List.setIfInBounds_toArray, List.set_cons_zero, List.set_cons_succ]
    refine takeL (i := 1) (v := ?_) rfl (by kernel_rfl) (by kernel_rfl) (by kernel_rfl) (fun _ _ _ h => h) (Or.inl ⟨by rfl, ?_⟩) HS9.out ?_
    rotate_left
    · intro w hw
      try dsimp only at hw
      obtain ⟨hc, hr⟩ := hw
      go_simp
      try with_reducible rfl
    try simp only [Act.put, List.setIfInBounds_toArray, List.set_cons_zero, List.set_cons_succ]
    refine takeL (i := 2) (v := ?_) rfl (by kernel_rfl) (by kernel_rfl) (by kernel_rfl) (fun _ _ _ h => h) (Or.inl ⟨by rfl, ?_⟩) HS9.out ?_
    rotate_left
    · intro w hw
      try dsimp only at hw
      obtain ⟨hc, hr⟩ := hw
      go_simp
      try with_reducible rfl
    try simp only [Act.put, List.setIfInBounds_toArray, List.set_cons_zero, List.set_cons_succ]
    refine takeL (i := 3) (v := ?_) rfl (by kernel_rfl) (by kernel_rfl) (by kernel_rfl) (fun _ _ _ h => h) (Or.inl ⟨by rfl, ?_⟩) HS9.out ?_
    rotate_left
    · intro w hw
      try dsimp only at hw
      obtain ⟨hc, hr⟩ := hw
      go_simp
      try with_reducible rfl
    try simp only [Act.put, List.setIfInBounds_toArray, List.set_cons_zero, List.set_cons_succ]
    refine takeL (i := 4) (v := ?_) rfl (by kernel_rfl) (by kernel_rfl) (by kernel_rfl) (fun _ _ _ h => h) (Or.inl ⟨by rfl, ?_⟩) HS9.out ?_
    rotate_left
    · intro w hw
      try dsimp only at hw
      obtain ⟨hc, hr⟩ := hw
      go_simp
      try with_reducible rfl
    try simp only [Act.put, List.setIfInBounds_toArray, List.set_cons_zero, List.set_cons_succ]
    refine takeL (i := 5) (v := .agg (bv h).toArray) rfl (by kernel_rfl) (by kernel_rfl) (by kernel_rfl) (fun _ _ _ h => h) (Or.inl ⟨by rfl, fun wz hwz => exec_load_at wz 25 (.tmp 3) rfl ⟨g, 0, none⟩ (bv h) _ Try.underlying25 rfl HSZ.out (fun j u hu => by rw [addr_row, Nat.zero_add]; exact (hwz.2.cell j).trans hu) (by go_simp)⟩) HS9.out ?_
    try simp only [Act.put, List.setIfInBounds_toArray, List.set_cons_zero, List.set_cons_succ]
    refine takeL (i := 6) (v := ?_) rfl (by kernel_rfl) (by kernel_rfl) (by kernel_rfl) (fun _ _ _ h => h) (Or.inl ⟨by rfl, ?_⟩) HS9.out ?_
    rotate_left
    · intro w hw
      try dsimp only at hw
      obtain ⟨hc, hr⟩ := hw
      go_simp
      try with_reducible rfl
    try simp only [Act.put, List.setIfInBounds_toArray, List.set_cons_zero, List.set_cons_succ]
    refine takeL (i := 7) (v := ?_) rfl (by kernel_rfl) (by kernel_rfl) (by kernel_rfl) (fun _ _ _ h => h) (Or.inl ⟨by rfl, ?_⟩) HS9.out ?_
    rotate_left
    · intro w hw
      try dsimp only at hw
      obtain ⟨hc, hr⟩ := hw
      go_simp
      try with_reducible rfl
    try simp only [Act.put, List.setIfInBounds_toArray, List.set_cons_zero, List.set_cons_succ]
    refine takeL (i := 8) (v := ?_) rfl (by kernel_rfl) (by kernel_rfl) (by kernel_rfl) (fun _ _ _ h => h) (Or.inl ⟨by rfl, ?_⟩) HS9.out ?_
    rotate_left
    · intro w hw
      try dsimp only at hw
      obtain ⟨hc, hr⟩ := hw
      go_simp
      try with_reducible rfl
    try simp only [Act.put, List.setIfInBounds_toArray, List.set_cons_zero, List.set_cons_succ]
    refine readyL (i := 9) rfl (by kernel_rfl) (by kernel_rfl) fun K hK => ?_
    refine wp_store_part 25 (.tmp 50) (.tmp 47) rfl rb 43 (nx * 32) (qcells H nx mn true) (bv h) RV.out.drew HSZ.out (by rw [HXL.out, HHL.out]; omega) (bv_one _) (by go_simp) (by go_simp) fun w3 hr1 ht1 => ?_
    rw [HHL.out, HSET.out] at hr1
    have R9 := Lib.hid hr1
    have T9 := Lib.hid ht1
    have HS9b : Hid (w3.cell? ⟨rb, 4800, none⟩ = some (.int .i64 nx) ∧ Row w3 g 25 (bv h)) := Lib.hid ⟨(R9.out.cell 4800).trans HC4800b.out, T9.out.row RG.out.drew HGR.out⟩
    have RF9 := Lib.hid (T9.out.row RFV.out.drew HFR.out)
    have G9 : Hid (w.grownBy w3 (some rb)) := Lib.hid (gb_turned (gb_below GV.out (Below.refl _ _).drew) T9.out (.inr rfl))
    clear hr1 ht1
    refine hK.out _ _ HS9b.out ?_
    clear hK K HS9
    try simp only [Act.put]
    refine wpAnyH_done (by kernel_rfl) ?_ _
    have c3 : w3.cell? ⟨rb, 4800, none⟩ = some (.int .i64 nx) := HS9b.out.1
    have f3 : w3.frozen? ⟨rb, 4800, none⟩ = false := R9.out.frozen 4800
    clear HS9b
    go_upto_region 11 with fail
    have R10 := Lib.hid (R9.out.set_ 4800 (.int .i64 (((nx + 1) % 150 : Nat) : Int)))
    have T10 := Lib.hid (turned_setCell w3 ⟨rb, 4800, none⟩ (.int .i64 (((nx + 1) % 150 : Nat) : Int)))
    have RF10 := Lib.hid (T10.out.row RF9.out HFR.out)
    have G10 := Lib.hid (gb_turned G9.out T10.out (.inr rfl))
    rw [HMOD.out]
    clear c3 f3
    generalize w3.setCell ⟨rb, 4800, none⟩ (.int .i64 (((nx + 1) % 150 : Nat) : Int)) = w4 at *
    go_wp2_with (first
      | ((with_reducible show wpList _ _ _ ({ dst := some 60, op := Op.load _ _, type := _, pos := _, after := _, guard := _ } :: _) _ _); go_must (refine wpList_load_whole rfl 25 (.tmp 4) rfl f 25 (bv y) _ Try.underlying25 rfl HYZ.out RF10.out ?_ ?_; go_simp))
      | ((with_reducible show wpList _ _ _ ({ dst := none, op := Op.store 25 _ _, type := _, pos := _, after := _, guard := _ } :: _) _ _); go_must (refine wpList_store_whole rfl 25 (.tmp 4) (.tmp 60) rfl f (bv y) (bv y) RF10.out HYZ.out rfl (bv_one _) ?_ ?_ ?_; go_simp; go_simp; intro w5 hr1 ht1; have RF := Lib.hid hr1; have TF := Lib.hid ht1; clear hr1 ht1)))
    refine bodyPost_ret (results_cell2 (h := rfl) _ w5 ⟨f, 0, none⟩ (.agg (bv y).toArray) (.bool true) (.int .i64 0) (by rfl) (by rfl) (by rfl) (run_load_row12 RF.out HYZ.out)) rfl ?_
    refine ⟨HE.out, ?_, gb_turned G10.out TF.out (.inl HFG.out)⟩
    have h1 := R10.out
    rw [qcells_setNx HRP.out.len HRP.out.h32] at h1
    exact ⟨_, _, _, TF.out.row h1 (fun e => HFR.out e.symm), HRP.out⟩
  · have hfull' : ¬ (mn : Int) = 150 := by omega
    have hfull2 : ((mn : Int) == 150) = false := by simpa using hfull'
    have HE := Lib.hid (pushE_room HM.out (by rw [hmany.out]; omega)).symm
    have HRP := Lib.hid (HRING.out.push_room HL.out HM.out (by omega))
    go_upto_region 9 with fail
    have T8 := Lib.hid (turned_setCell w1 ⟨rb, 4801, none⟩ (.int .i64 ((mn + 1 : Nat) : Int)))
    have RV : Hid (Row (w1.setCell ⟨rb, 4801, none⟩ (.int .i64 ((mn + 1 : Nat) : Int))) rb 43 (qcells H nx (mn + 1) true)) := Lib.hid (by rw [← qcells_setMn (nx := nx) (mn := mn) (md := true) HRING.out.len HRING.out.h32 (mn + 1)]; exact R1.out.set_ 4801 _)
    have RFV := Lib.hid (T8.out.row RF1.out HFR.out)
    have RG := Lib.hid (T8.out.row RG1.out HGR.out)
    have GV := Lib.hid (gb_turned G1.out T8.out (.inr rfl))
    have HMN1 : Hid ((mn : Int) + 1 = ((mn + 1 : Nat) : Int)) := Lib.hid (by omega)
    rw [HMN1.out]
    clear c1 f1 R1 RF1 RG1 G1 T8 HMN1 hfull hfull' hfull2
    generalize w1.setCell ⟨rb, 4801, none⟩ (.int .i64 ((mn + 1 : Nat) : Int)) = V at *
    have HYZ := Lib.hid HZS.out
    have HC4800 : Hid ((qcells H nx (mn + 1) true)[4800]? = some (.int .i64 nx)) := Lib.hid (qcells_nx HRING.out.len HRING.out.h32)
    have HC4800b : Hid ((qcells (H.set nx h) nx (mn + 1) true)[4800]? = some (.int .i64 nx)) := Lib.hid (qcells_nx HRP.out.len HRP.out.h32)
    have HXL : Hid ((qcells H nx (mn + 1) true).length = 4803) := Lib.hid (qcells_len HRING.out.len HRING.out.h32)
    have HSET : Hid ((qcells H nx (mn + 1) true).take (nx * 32) ++ bv h ++ (qcells H nx (mn + 1) true).drop (nx * 32 + 32) = qcells (H.set nx h) nx (mn + 1) true) := Lib.hid (qcells_set HRING.out.h32 HL.out HHI.out)
    have HS9 : Hid (V.drew.cell? ⟨rb, 4800, none⟩ = some (.int .i64 nx) ∧ Row V.drew g 25 (bv h)) := Lib.hid ⟨(RV.out.drew.cell 4800).trans HC4800.out, RG.out.drew⟩
    go_wp2_with fail
    refine wp_region_held_drew (S := (fun V => V.cell? ⟨rb, 4800, none⟩ = some (.int .i64 nx) ∧ Row V g 25 (bv h))) (by kernel_rfl) HS9.out (fun _ => ?_)
    refine takeL (i := 0) (v := ?_) rfl (by kernel_rfl) (by kernel_rfl) (by kernel_rfl) (fun _ _ _ h => h) (Or.inl ⟨by rfl, ?_⟩) HS9.out ?_
    rotate_left
    · intro w hw
      try dsimp only at hw
      obtain ⟨hc, hr⟩ := hw
      go_simp
      try with_reducible rfl
    try simp only [Act.put, List.setIfInBounds_toArray, List.set_cons_zero, List.set_cons_succ]
    refine takeL (i := 1) (v := ?_) rfl (by kernel_rfl) (by kernel_rfl) (by kernel_rfl) (fun _ _ _ h => h) (Or.inl ⟨by rfl, ?_⟩) HS9.out ?_
    rotate_left
    · intro w hw
      try dsimp only at hw
      obtain ⟨hc, hr⟩ := hw
      go_simp
      try with_reducible rfl
    try simp only [Act.put, List.setIfInBounds_toArray, List.set_cons_zero, List.set_cons_succ]
    refine takeL (i := 2) (v := ?_) rfl (by kernel_rfl) (by kernel_rfl) (by kernel_rfl) (fun _ _ _ h => h) (Or.inl ⟨by rfl, ?_⟩) HS9.out ?_
    rotate_left
    · intro w hw
      try dsimp only at hw
      obtain ⟨hc, hr⟩ := hw
      go_simp
      try with_reducible rfl
    try simp only [Act.put, List.setIfInBounds_toArray, List.set_cons_zero, List.set_cons_succ]
    refine takeL (i := 3) (v := ?_) rfl (by kernel_rfl) (by kernel_rfl) (by kernel_rfl) (fun _ _ _ h => h) (Or.inl ⟨by rfl, ?_⟩) HS9.out ?_
    rotate_left
    · intro w hw
      try dsimp only at hw
      obtain ⟨hc, hr⟩ := hw
      go_simp
      try with_reducible rfl
    try simp only [Act.put, List.setIfInBounds_toArray, List.set_cons_zero, List.set_cons_succ]
    refine takeL (i := 4) (v := ?_) rfl (by kernel_rfl) (by kernel_rfl) (by kernel_rfl) (fun _ _ _ h => h) (Or.inl ⟨by rfl, ?_⟩) HS9.out ?_
    rotate_left
    · intro w hw
      try dsimp only at hw
      obtain ⟨hc, hr⟩ := hw
      go_simp
      try with_reducible rfl
    try simp only [Act.put, List.setIfInBounds_toArray, List.set_cons_zero, List.set_cons_succ]
    refine takeL (i := 5) (v := .agg (bv h).toArray) rfl (by kernel_rfl) (by kernel_rfl) (by kernel_rfl) (fun _ _ _ h => h) (Or.inl ⟨by rfl, fun wz hwz => exec_load_at wz 25 (.tmp 3) rfl ⟨g, 0, none⟩ (bv h) _ Try.underlying25 rfl HSZ.out (fun j u hu => by rw [addr_row, Nat.zero_add]; exact (hwz.2.cell j).trans hu) (by go_simp)⟩) HS9.out ?_
    try simp only [Act.put, List.setIfInBounds_toArray, List.set_cons_zero, List.set_cons_succ]
    refine takeL (i := 6) (v := ?_) rfl (by kernel_rfl) (by kernel_rfl) (by kernel_rfl) (fun _ _ _ h => h) (Or.inl ⟨by rfl, ?_⟩) HS9.out ?_
    rotate_left
    · intro w hw
      try dsimp only at hw
      obtain ⟨hc, hr⟩ := hw
      go_simp
      try with_reducible rfl
    try simp only [Act.put, List.setIfInBounds_toArray, List.set_cons_zero, List.set_cons_succ]
    refine takeL (i := 7) (v := ?_) rfl (by kernel_rfl) (by kernel_rfl) (by kernel_rfl) (fun _ _ _ h => h) (Or.inl ⟨by rfl, ?_⟩) HS9.out ?_
    rotate_left
    · intro w hw
      try dsimp only at hw
      obtain ⟨hc, hr⟩ := hw
      go_simp
      try with_reducible rfl
    try simp only [Act.put, List.setIfInBounds_toArray, List.set_cons_zero, List.set_cons_succ]
    refine takeL (i := 8) (v := ?_) rfl (by kernel_rfl) (by kernel_rfl) (by kernel_rfl) (fun _ _ _ h => h) (Or.inl ⟨by rfl, ?_⟩) HS9.out ?_
    rotate_left
    · intro w hw
      try dsimp only at hw
      obtain ⟨hc, hr⟩ := hw
      go_simp
      try with_reducible rfl
    try simp only [Act.put, List.setIfInBounds_toArray, List.set_cons_zero, List.set_cons_succ]
    refine readyL (i := 9) rfl (by kernel_rfl) (by kernel_rfl) fun K hK => ?_
    refine wp_store_part 25 (.tmp 50) (.tmp 47) rfl rb 43 (nx * 32) (qcells H nx (mn + 1) true) (bv h) RV.out.drew HSZ.out (by rw [HXL.out, HHL.out]; omega) (bv_one _) (by go_simp) (by go_simp) fun w3 hr1 ht1 => ?_
    rw [HHL.out, HSET.out] at hr1
    have R9 := Lib.hid hr1
    have T9 := Lib.hid ht1
    have HS9b : Hid (w3.cell? ⟨rb, 4800, none⟩ = some (.int .i64 nx) ∧ Row w3 g 25 (bv h)) := Lib.hid ⟨(R9.out.cell 4800).trans HC4800b.out, T9.out.row RG.out.drew HGR.out⟩
    have RF9 := Lib.hid (T9.out.row RFV.out.drew HFR.out)
    have G9 : Hid (w.grownBy w3 (some rb)) := Lib.hid (gb_turned (gb_below GV.out (Below.refl _ _).drew) T9.out (.inr rfl))
    clear hr1 ht1
    refine hK.out _ _ HS9b.out ?_
    clear hK K HS9
    try simp only [Act.put]
    refine wpAnyH_done (by kernel_rfl) ?_ _
    have c3 : w3.cell? ⟨rb, 4800, none⟩ = some (.int .i64 nx) := HS9b.out.1
    have f3 : w3.frozen? ⟨rb, 4800, none⟩ = false := R9.out.frozen 4800
    clear HS9b
    go_upto_region 11 with fail
    have R10 := Lib.hid (R9.out.set_ 4800 (.int .i64 (((nx + 1) % 150 : Nat) : Int)))
    have T10 := Lib.hid (turned_setCell w3 ⟨rb, 4800, none⟩ (.int .i64 (((nx + 1) % 150 : Nat) : Int)))
    have RF10 := Lib.hid (T10.out.row RF9.out HFR.out)
    have G10 := Lib.hid (gb_turned G9.out T10.out (.inr rfl))
    rw [HMOD.out]
    clear c3 f3
    generalize w3.setCell ⟨rb, 4800, none⟩ (.int .i64 (((nx + 1) % 150 : Nat) : Int)) = w4 at *
    go_wp2_with (first
      | ((with_reducible show wpList _ _ _ ({ dst := some 60, op := Op.load _ _, type := _, pos := _, after := _, guard := _ } :: _) _ _); go_must (refine wpList_load_whole rfl 25 (.tmp 4) rfl f 25 (bv zero12) _ Try.underlying25 rfl HYZ.out RF10.out ?_ ?_; go_simp))
      | ((with_reducible show wpList _ _ _ ({ dst := none, op := Op.store 25 _ _, type := _, pos := _, after := _, guard := _ } :: _) _ _); go_must (refine wpList_store_whole rfl 25 (.tmp 4) (.tmp 60) rfl f (bv zero12) (bv zero12) RF10.out HYZ.out rfl (bv_one _) ?_ ?_ ?_; go_simp; go_simp; intro w5 hr1 ht1; have RF := Lib.hid hr1; have TF := Lib.hid ht1; clear hr1 ht1)))
    refine bodyPost_ret (results_cell2 (h := rfl) _ w5 ⟨f, 0, none⟩ (.agg (bv zero12).toArray) (.bool false) (.int .i64 0) (by rfl) (by rfl) (by rfl) (run_load_row12 RF.out HYZ.out)) rfl ?_
    refine ⟨HE.out, ?_, gb_turned G10.out TF.out (.inl HFG.out)⟩
    have h1 := R10.out
    rw [qcells_setNx HRP.out.len HRP.out.h32] at h1
    exact ⟨_, _, _, TF.out.row h1 (fun e => HFR.out e.symm), HRP.out⟩
end Go.Proofs.Ytigmaehlplldgaa

/-
  Of part Resolve: what is needed here.
-/
namespace Go.Proofs.Ytigmaehlplldgaa
open Go.RowKit Go.Maps
set_option linter.unusedVariables false
set_option maxRecDepth 100000
section
variable {w0 V V' : World} {u v u' v' : Value} {a b a' : List (List Int)}
theorem own_row_neN {w : World} {base size n g t : Nat} {e : TypeId} {v : Value} {xs ys : List Value} (h : w.ownsRow base e size v n xs) (hr : Row w g t ys) (hne : e ≠ t) : some g ≠ v.ownBlock := by
  intro hg
  obtain ⟨cur, hc⟩ := own_is h hg.symm
  rw [hr.is] at hc
  injection hc with hc
  injection hc with _ hc
  exact hne hc.symm
end
end Go.Proofs.Ytigmaehlplldgaa

/-
  Of part Known: what is needed here.
-/
namespace Go.Proofs.Ytigmaehlplldgaa
open Go.RowKit
set_option linter.unusedVariables false
set_option maxRecDepth 100000
/-- the known programs' keys -/
def k0 : List Int := List.replicate 32 0
def k3 : List Int := 3 :: List.replicate 31 0
def kn (x : List Int) : Bool := decide (x = k0) || decide (x = k3)
end Go.Proofs.Ytigmaehlplldgaa

/-
  Of part Bad8: what is needed here.
-/
namespace Go.Proofs.Ytigmaehlplldgaa
open Go.RowKit
set_option linter.unusedVariables false
set_option maxRecDepth 100000
section
variable {P : Program} {w : World} {o : Oper} {a : Act}
theorem run_head (t e : TypeId) (x j : Operand) (sz : Nat) (ho : o.op = .slice t x none (some j) none) (ht : P.underlying t = some (.slice e)) (hsz : (P.info? e).map (·.size) = some sz)
    (A : Option Addr) (n c k : Nat) (hx : a.eval x = .slice A n c) (hj : a.eval j = .int .i64 k) (hk : k ≤ c) :
    (execOp a.eval o).run P w = .ok (.value (.slice A k c)) w := by
  obtain ⟨ie, hie, hs1⟩ : ∃ i, P.info? e = some i ∧ i.size = sz := by
    cases h : P.info? e with
    | none => rw [h] at hsz; cases hsz
    | some i => rw [h] at hsz; exact ⟨i, rfl, by simpa using hsz⟩
  have he : P.elem t = e := by simp [Program.elem, ht]
  have ht' : P.underlying t = some (.slice (P.elem t)) := by rw [he]; exact ht
  have hso : (sizeOf e).run P w = .ok sz w := by simp [sizeOf, typeInfo, hie, hs1]
  have h0 : (0 : Int) ≤ k := by omega
  have h2 : (k : Int) ≤ c := by omega
  have ha : (if c = 0 then A else A.map (·.add (0 * sz))) = A := by
    split
    · rfl
    · cases A with
      | none => rfl
      | some ad => simp [Addr.add]
  unfold execOp
  simp only [ho, hx, hj, Option.map_some, Option.map_none]
  simp only [Sem.run_bind, run_sliceAt_slice w t _ _ _ _ ht', run_slice_h w t A n c ht' .i64 k h0 h2, he, hso, Result.andThen_ok, sliced, Int.toNat_natCast, Sem.run_pure, Nat.sub_zero, ha]
theorem wpList_head {ops : Array Oper} {rest : List Oper} {Q : Exit → Act → World → Prop} (hgd : o.guard = none) (t e : TypeId) (x j : Operand) (sz : Nat) (ho : o.op = .slice t x none (some j) none) (ht : P.underlying t = some (.slice e)) (hsz : (P.info? e).map (·.size) = some sz)
    (A : Option Addr) (n c k : Nat) (hx : a.eval x = .slice A n c) (hj : a.eval j = .int .i64 k) (hk : k ≤ c)
    (h : wpList P ops Q rest (a.put o.dst (.slice A k c)) w) : wpList P ops Q (o :: rest) a w :=
  wpList_plain hgd fun K hK => by
    unfold Oper.wp
    rw [run_head t e x j sz ho ht hsz A n c k hx hj hk]
    exact hK _ _ h
end
end Go.Proofs.Ytigmaehlplldgaa

/-
  Of part RefPush12: what is needed here.
-/
namespace Go.Proofs.Ytigmaehlplldgaa
open Go.RowKit
set_option linter.unusedVariables false
set_option maxRecDepth 100000
theorem info_h12 : (Try.prog.info? 25).map (fun i => (i.zero, i.size, i.bytes)) = some (some (.agg (bv zero12).toArray), 32, 32) := by kernel_rfl
theorem own_head12 {w : World} {base g n c k size : Nat} {e : TypeId} {xs : List Value} (h : w.ownsRow base e size (.slice (some ⟨g, 0, none⟩) n c) n xs) (hk : k ≤ n) : w.ownsRow base e size (.slice (some ⟨g, 0, none⟩) k c) k (xs.take (k * size)) := by
  have hl := h.1
  have hkn : k * size ≤ n * size := Nat.mul_le_mul_right _ hk
  rcases h.2 with ⟨hv, _⟩ | ⟨g', cap, cur, hv, hg, hh, h1, h2, h3, h4⟩
  · cases hv
  · cases hv
    exact ⟨by rw [List.length_take]; omega, .inr ⟨g, c, cur, rfl, hg, hh, by omega, h2, h3, by rw [← h4, List.take_take, Nat.min_eq_left hkn]⟩⟩
theorem flat_take12 : ∀ (l : List (List Int)) (k : Nat), (∀ y ∈ l, y.length = 32) → l.flatten.take (k * 32) = (l.take k).flatten
  | [], k, _ => by simp
  | y :: r, 0, _ => by simp
  | y :: r, k + 1, h => by
    have hy := h y (by simp)
    rw [List.flatten_cons, List.take_succ_cons, List.flatten_cons, List.take_append, List.take_of_length_le (by omega), hy, show (k + 1) * 32 - 32 = k * 32 by omega, flat_take12 r k (fun z hz => h z (List.mem_cons_of_mem _ hz))]
theorem bv_take12 (l : List Int) (k : Nat) : (bv l).take k = bv (l.take k) := by simp [bv, cv, List.map_take]
theorem Row.own_hash {w : World} {g base : Nat} {x : List Value} (h : Row w g 25 x) (hx : x.length = 32) (hb : base ≤ g) : w.ownsRow base 25 32 (.slice (some ⟨g, 0, none⟩) 1 1) 1 x := by
  have := own_of_row (w := w) (base := base) (g := g) (c := 1) (e := 25) (size := 32) (n := 1) (xs := x) (rest := []) (by simpa using h) (by omega) (by simpa using hx) (Nat.le_refl _) (by unfold maxLen; omega) hb
  exact this
/-- while the list is built -/
structure CT12 (w V : World) (pb g f base n c : Nat) (A : Option Addr) (L : List (List Int)) (h : List Int) : Prop where
  row : Row V pb 32 [.slice A n c]
  rx : Row V g 25 (bv h)
  rf : Row V f 25 (bv zero12)
  gb : w.grownBy V (some pb)
  own : V.ownsRow base 25 32 (.slice A n c) n (bv L.flatten)
  pbl : pb < w.heap.size
section
variable {w V V' : World} {pb g f base n c gs : Nat} {A : Option Addr} {L : List (List Int)} {h : List Int} {v2 : Value}
theorem CT12.below (t : CT12 w V pb g f base n c A L h) (hb : Below V.heap.size V V') : CT12 w V' pb g f base n c A L h :=
  ⟨t.row.below hb t.row.lt, t.rx.below hb t.rx.lt, t.rf.below hb t.rf.lt, gb_below t.gb hb, own_below t.own hb, t.pbl⟩
theorem CT12.drew (t : CT12 w V pb g f base n c A L h) : CT12 w V.drew pb g f base n c A L h := t.below (Below.refl _ _).drew
theorem CT12.alloc (t : CT12 w V pb g f base n c A L h) (o : Obj) : CT12 w (V.alloc o) pb g f base n c A L h := t.below ((Below.refl _ _).alloc (Nat.le_refl _) o)
theorem CT12.sees (t : CT12 w V pb g f base n c A L h) : Sees V V.heap.size A (n * 32) (bv L.flatten) := by
  obtain ⟨A', c', h1, h2, _⟩ := own_form2 t.own
  cases h1
  exact h2
/-- behind the append: all but the list's new block is as it was -/
theorem CT12.grow (t : CT12 w V pb g f base n c A L h) (hg : Row V gs 25 (bv h)) (hgs : w.heap.size ≤ gs ∧ g ≠ gs ∧ f ≠ gs ∧ ∀ k, (Value.slice A n c).ownBlock = some k → k ≠ gs) (hgr : Grew V V' (.slice (some ⟨gs, 0, none⟩) 1 1) v2) : CT12 w V' pb g f base n c A L h := by
  have hb : ∀ k, k < V.heap.size → k ≠ gs → V'.heap[k]? = V.heap[k]? := fun k hk hne => hgr.grown.block k hk (fun e => hne (Option.some.inj e))
  have hpb : pb ≠ gs := by have := t.pbl; omega
  exact ⟨⟨(hb pb t.row.lt hpb).trans t.row.is⟩, ⟨(hb g t.rx.lt hgs.2.1).trans t.rx.is⟩, ⟨(hb f t.rf.lt hgs.2.2.1).trans t.rf.is⟩,
    ⟨hgr.grown.os.trans t.gb.os, hgr.grown.tape.trans t.gb.tape, hgr.grown.output.trans t.gb.output, Nat.le_trans t.gb.size hgr.size, fun k hk hne => (hb k (Nat.lt_of_lt_of_le hk t.gb.size) (by omega)).trans (t.gb.block k hk hne)⟩,
    own_keep t.own fun k hk => hb k (t.own.lt k hk).2 (hgs.2.2.2 k hk), t.pbl⟩
/-- the list is stored -/
theorem CT12.done (t : CT12 w V pb g f base n c A L h) (ho : V.ownsRow base 25 32 v2 (1 + n) (bv h ++ bv L.flatten)) (hgp : g ≠ pb) (hfp : f ≠ pb) :
    (Row (V.setCell ⟨pb, 0, none⟩ v2) pb 32 [v2] ∧ (V.setCell ⟨pb, 0, none⟩ v2).ownsRow base 25 32 v2 (n + 1) (bv (h :: L).flatten) ∧ Row (V.setCell ⟨pb, 0, none⟩ v2) f 25 (bv zero12) ∧ w.grownBy (V.setCell ⟨pb, 0, none⟩ v2) (some pb)) ∧ Row (V.setCell ⟨pb, 0, none⟩ v2) g 25 (bv h) := by
  have ht := turned_setCell V ⟨pb, 0, none⟩ v2
  have ho' := own_turned ho t.row (by decide) ht
  rw [Nat.add_comm, ← bv_append, ← List.flatten_cons] at ho'
  exact ⟨⟨t.row.set_ 0 v2, ho', ht.row t.rf hfp, gb_turned t.gb ht (.inr rfl)⟩, ht.row t.rx hgp⟩
end
def RPushDone12 (w : World) (pb base : Nat) (L : List (List Int)) (h : List Int) (e : Ending) (w' : World) : Prop := e = pushE L h ∧ ∃ v', RQ12 w' pb base v' (push12 L h) ∧ w.grownBy w' (some pb)
set_option maxHeartbeats 8000000 in
theorem refPush12 (pb base : Nat) (v : Value) (L : List (List Int)) (h : List Int) (w : World) (hq : RQ12 w pb base v L) (hl : h.length = 32) (hbase : base ≤ w.heap.size) : Calls Try.prog 11 #[.pointer (some ⟨pb, 0, none⟩), .agg (bv h).toArray] w (RPushDone12 w pb base L h) := by
  have HZS := Lib.hid (size_hash' zero12_len)
  have HSZ := Lib.hid (size_hash' hl)
  have HHL : Hid ((bv h).length = 32) := Lib.hid (by rw [bv_length, hl])
  have hbw := ((Below.refl w.heap.size w).alloc (Nat.le_refl _) (.cells (bv h).toArray 25)).alloc (by simp) (.cells (bv zero12).toArray 25)
  have hq1 := hq.below hbw
  have RG0 := Lib.hid ((Row.new w 25 (bv h)).alloc (.cells (bv zero12).toArray 25))
  have RF0 := Lib.hid (Row.new' (w.alloc (.cells (bv h).toArray 25)) 25 (bv zero12) (g := w.heap.size + 1) (by simp))
  have HA := Lib.hid (refAge pb base v L h _ hq1 hl)
  have RQ0 := Lib.hid hq1
  have HB0 := Lib.hid hbw
  have hpl := hq.row.lt
  have HPL := Lib.hid hpl
  have hvl := hq.own.lt
  have HBASE := Lib.hid hbase
  have HHQ := Lib.hid hq.q
  have HH32 := Lib.hid hq.h32
  have HL := Lib.hid hl
  obtain ⟨f, hf⟩ : ∃ f, f = w.heap.size + 1 := ⟨_, rfl⟩
  obtain ⟨g, hg⟩ : ∃ g, g = w.heap.size := ⟨_, rfl⟩
  have HF : Hid (w.heap.size + 1 = f) := Lib.hid hf.symm
  have HG : Hid (w.heap.size = g) := Lib.hid hg.symm
  have HFP : Hid (f ≠ pb) := Lib.hid (by omega)
  have HGP : Hid (g ≠ pb) := Lib.hid (by omega)
  have HFG : Hid (w.heap.size ≤ f) := Lib.hid (by omega)
  have HVF : Hid (∀ k, v.ownBlock = some k → k ≠ f) := Lib.hid fun k hk e => by
    have := (hvl k hk).2
    omega
  rw [← hf] at RF0
  rw [← hg] at RG0
  clear hf hg hbw hq hq1 hpl hbase hl hvl
  generalize hWW : (w.alloc (.cells (bv h).toArray 25)).alloc (.cells (bv zero12).toArray 25) = W at *
  have HWW := Lib.hid hWW
  clear hWW
  go_enter Try.func11, Try.ntmps11
  go_wp2_with (first
    | ((with_reducible show wpList _ _ _ ({ dst := some 4, op := Op.alloc _, type := _, pos := _, after := _, guard := _ } :: _) _ _); go_must (refine wpList_alloc_zero rfl 25 rfl (bv zero12) zero_h ?_))
    | (rw [HF.out, HG.out, HWW.out]; ((with_reducible show wpList _ _ _ ({ dst := some 12, op := Op.load 25 _, type := _, pos := _, after := _, guard := _ } :: _) _ _); go_must (refine wpList_load_whole rfl 25 (.tmp 3) rfl g 25 (bv h) _ Try.underlying25 rfl HSZ.out RG0.out ?_ ?_; go_simp))))
  clear HF HG HWW
  refine HA.out.mono ?_
  rintro e w1 ⟨rfl, hb1⟩
  have RQ1 := Lib.hid (RQ0.out.below hb1)
  have RF1 := Lib.hid (RF0.out.below hb1 RF0.out.lt)
  have RG1 := Lib.hid (RG0.out.below hb1 RG0.out.lt)
  have G1 := Lib.hid (gb_of (some pb) (HB0.out.trans (hb1.mono HB0.out.size)))
  clear hb1 HA RQ0 RF0 RG0 HB0
  by_cases hm : h ∈ L
  · have HE := Lib.hid (pushE_in hm).symm
    have HP := Lib.hid (push12_in hm)
    rw [decide_eq_true hm]
    clear hm
    go_wp2_with (first
      | ((with_reducible show wpList _ _ _ ({ dst := some 17, op := Op.build _ _, type := _, pos := _, after := _, guard := _ } :: _) _ _); go_must (refine wpList_plain rfl fun K hK => wp_built _ _ _ rfl (by simp only [List.map_toArray, List.map_nil]; exact built_hash0) (hK _ _ ?_)))
      | ((with_reducible show wpList _ _ _ ({ dst := none, op := Op.store 25 _ _, type := _, pos := _, after := _, guard := _ } :: _) _ _); go_must (refine wpList_store_whole rfl 25 (.tmp 4) (.tmp 17) rfl f (bv zero12) (bv zero12) RF1.out HZS.out rfl (bv_one _) ?_ ?_ ?_; go_simp; go_simp; intro w2 hr1 ht1; have RF := Lib.hid hr1; have TF := Lib.hid ht1; clear hr1 ht1)))
    refine bodyPost_ret (results_cell2 (h := rfl) _ w2 ⟨f, 0, none⟩ (.agg (bv zero12).toArray) (.bool false) (.int .i64 12) (by rfl) (by rfl) (by rfl) (run_load_row12 RF.out HZS.out)) rfl ?_
    refine ⟨HE.out, v, ?_, gb_turned G1.out TF.out (.inl HFG.out)⟩
    rw [HP.out]
    refine ⟨TF.out.row RQ1.out.row (fun e => HFP.out e.symm), own_keep RQ1.out.own fun k hk => TF.out.block k (HVF.out k hk), RQ1.out.h32, RQ1.out.q⟩
  have HM := Lib.hid hm
  rw [decide_eq_false hm]
  have hfew := RQ1.out.q.few
  obtain ⟨A, c, rfl, _, hlc, hcm⟩ := RQ1.out.form
  unfold maxLen at hcm
  obtain ⟨n, hn⟩ : ∃ n, n = L.length := ⟨_, rfl⟩
  have HNL : Hid (L.length = n) := Lib.hid hn.symm
  have CT1 : Hid (CT12 w w1 pb g f base n c A L h) := Lib.hid ⟨by rw [hn]; exact RQ1.out.row, RG1.out, RF1.out, G1.out, by rw [hn]; exact RQ1.out.own, HPL.out⟩
  rw [← hn] at hfew hlc
  clear hn hm RQ1 RG1 RF1 G1
  go_upto_region 4 with fail
  go_cut [25] (fun _ wx => ∃ v2, (∀ k, v2.ownBlock = some k → k ≠ f) ∧ Row wx pb 32 [v2] ∧ wx.ownsRow base 25 32 v2 (n + 1) (bv (h :: L).flatten) ∧ Row wx f 25 (bv zero12) ∧ w.grownBy wx (some pb))
  case first =>
    have CTW : Hid (CT12 w w1.drew pb g f base n c A L h) := Lib.hid CT1.out.drew
    refine wp_region_held_drew (S := (fun V => Row V g 25 (bv h))) (by kernel_rfl) CTW.out.rx (fun _ => ?_)
    obtain ⟨U0, hU0⟩ : ∃ U, U = w1.drew := ⟨_, rfl⟩
    rw [← hU0] at CTW ⊢
    clear hU0
    have CT0 := Lib.hid CTW.out
    clear CTW
    refine takeL (i := 0) (v := ?_) rfl (by kernel_rfl) (by kernel_rfl) (by kernel_rfl) (fun _ _ _ h => h) (Or.inl ⟨by rfl, ?_⟩) CT0.out.rx ?_
    rotate_left
    · intro w hw
      try dsimp only at hw
      go_simp
      try with_reducible rfl
    try simp only [Act.put, List.setIfInBounds_toArray, List.set_cons_zero, List.set_cons_succ]
    refine takeL (i := 1) (v := .agg (bv h).toArray) rfl (by kernel_rfl) (by kernel_rfl) (by kernel_rfl) (fun _ _ _ h => h) (Or.inl ⟨by rfl, fun wz hwz => exec_load_at wz 25 (.tmp 3) rfl ⟨g, 0, none⟩ (bv h) _ Try.underlying25 rfl HSZ.out (fun j u hu => by rw [addr_row, Nat.zero_add]; exact (hwz.cell j).trans hu) (by go_simp)⟩) CT0.out.rx ?_
    try simp only [Act.put, List.setIfInBounds_toArray, List.set_cons_zero, List.set_cons_succ]
    refine takeL (i := 3) (v := ?_) rfl (by kernel_rfl) (by kernel_rfl) (by kernel_rfl) (fun _ _ _ h => h) (Or.inl ⟨by rfl, ?_⟩) CT0.out.rx ?_
    rotate_left
    · intro w hw
      try dsimp only at hw
      go_simp
      try with_reducible rfl
    try simp only [Act.put, List.setIfInBounds_toArray, List.set_cons_zero, List.set_cons_succ]
    refine takeL (i := 4) (v := ?_) rfl (by kernel_rfl) (by kernel_rfl) (by kernel_rfl) (fun _ _ _ h => h) (Or.inl ⟨by rfl, ?_⟩) CT0.out.rx ?_
    rotate_left
    · intro w hw
      try dsimp only at hw
      go_simp
      try with_reducible rfl
    try simp only [Act.put, List.setIfInBounds_toArray, List.set_cons_zero, List.set_cons_succ]
    refine takeL (i := 5) (v := ?_) rfl (by kernel_rfl) (by kernel_rfl) (by kernel_rfl) (fun _ _ _ h => h) (Or.inl ⟨by rfl, ?_⟩) CT0.out.rx ?_
    rotate_left
    · intro w hw
      try dsimp only at hw
      go_simp
      try with_reducible rfl
    try simp only [Act.put, List.setIfInBounds_toArray, List.set_cons_zero, List.set_cons_succ]
    refine readyL2 (i := 2) (j := 6) rfl rfl (by kernel_rfl) (by kernel_rfl) (by kernel_rfl) (fun K hK => ?_) (fun K hK => ?_)
    · have CT := Lib.hid (CT0.out.alloc (.cells (bv h).toArray 25))
      have GS := Lib.hid (Row.new U0 25 (bv h))
      have HGS : Hid (w.heap.size ≤ U0.heap.size ∧ g ≠ U0.heap.size ∧ f ≠ U0.heap.size ∧ ∀ k, (Value.slice A n c).ownBlock = some k → k ≠ U0.heap.size) := Lib.hid ⟨CT0.out.gb.size, Nat.ne_of_lt CT0.out.rx.lt, Nat.ne_of_lt CT0.out.rf.lt, fun k hk => Nat.ne_of_lt (CT0.out.own.lt k hk).2⟩
      have HB1 : Hid (base ≤ U0.heap.size) := Lib.hid (Nat.le_trans HBASE.out CT0.out.gb.size)
      have HB2 : Hid (base ≤ (U0.alloc (.cells (bv h).toArray 25)).heap.size) := Lib.hid (Nat.le_trans HBASE.out CT.out.gb.size)
      refine wp_buildOne 30 25 (.tmp 19) rfl (bv h) _ 32 32 Try.underlying30 info_h12 (by kernel_rfl) (by omega) (by omega) HHL.out (by go_simp) ?_
      refine hK.out _ _ CT.out.rx ?_
      clear hK K
      try simp only [Act.put, List.setIfInBounds_toArray, List.set_cons_zero, List.set_cons_succ]
      refine readyL (i := 6) rfl (by kernel_rfl) (by kernel_rfl) fun K hK => ?_
      have hc6 := CT.out.row.cell 0
      go_simp
      clear hc6
      refine hK.out _ _ CT.out.rx ?_
      clear hK K
      try simp only [Act.put, List.setIfInBounds_toArray, List.set_cons_zero, List.set_cons_succ]
      refine readyL (i := 7) rfl (by kernel_rfl) (by kernel_rfl) fun K hK => ?_
      refine wp_appendN (P := Try.prog) (.tmp 20) (.tmp 24) 30 25 _ 32 32 rfl Try.underlying30 info_h12 (by kernel_rfl) (by omega) (.slice (some ⟨U0.heap.size, 0, none⟩) 1 1) 1 (bv h) base _ A n c (bv L.flatten) (by go_simp) (GS.out.own_hash HHL.out HB1.out) (by go_simp) CT.out.sees (bv_one _) (by unfold maxLen; omega) (by omega) HB2.out fun v2 U2 hob hgr => ?_
      obtain ⟨A4, c4, hv2, _⟩ := own_form2 hob
      subst hv2
      have CT2 := Lib.hid (CT.out.grow GS.out HGS.out hgr)
      have OB := Lib.hid hob
      have HOF : Hid (∀ k, (Value.slice A4 (1 + n) c4).ownBlock = some k → k ≠ f) := Lib.hid fun k hk e => by
        subst e
        rcases hgr.fresh k hk with h1 | h1
        · cases h1
          exact absurd CT0.out.rf.lt (Nat.lt_irrefl _)
        · exact absurd CT.out.rf.lt (Nat.not_lt_of_le h1)
      clear hob hgr
      refine hK.out _ _ CT2.out.rx ?_
      clear hK K
      try simp only [Act.put, List.setIfInBounds_toArray, List.set_cons_zero, List.set_cons_succ]
      refine takeL (i := 8) (v := ?_) rfl (by kernel_rfl) (by kernel_rfl) (by kernel_rfl) (fun _ _ _ h => h) (Or.inl ⟨by rfl, ?_⟩) CT2.out.rx ?_
      rotate_left
      · intro w hw
        try dsimp only at hw
        go_simp
        try with_reducible rfl
      try simp only [Act.put, List.setIfInBounds_toArray, List.set_cons_zero, List.set_cons_succ]
      refine takeL (i := 9) (v := ?_) rfl (by kernel_rfl) (by kernel_rfl) (by kernel_rfl) (fun _ _ _ h => h) (Or.inl ⟨by rfl, ?_⟩) CT2.out.rx ?_
      rotate_left
      · intro w hw
        try dsimp only at hw
        go_simp
        try with_reducible rfl
      try simp only [Act.put, List.setIfInBounds_toArray, List.set_cons_zero, List.set_cons_succ]
      refine readyL (i := 10) rfl (by kernel_rfl) (by kernel_rfl) fun K hK => ?_
      have hc10 : U2.cell? ⟨pb, 0, none⟩ = some (.slice A n c) := CT2.out.row.cell 0
      have hf10 := CT2.out.row.frozen 0
      go_simp
      clear hc10 hf10
      have CE := Lib.hid (CT2.out.done OB.out HGP.out HFP.out)
      refine hK.out _ _ CE.out.2 ?_
      clear hK K
      try simp only [Act.put]
      refine wpAnyH_done (by kernel_rfl) ?_ _
      go_wp2_with fail
      go_meet
      exact ⟨_, HOF.out, CE.out.1⟩
    · have hc6 := CT0.out.row.cell 0
      go_simp
      clear hc6
      refine hK.out _ _ CT0.out.rx ?_
      clear hK K
      try simp only [Act.put, List.setIfInBounds_toArray, List.set_cons_zero, List.set_cons_succ]
      refine readyL (i := 2) rfl (by kernel_rfl) (by kernel_rfl) fun K hK => ?_
      have CT := Lib.hid (CT0.out.alloc (.cells (bv h).toArray 25))
      have GS := Lib.hid (Row.new U0 25 (bv h))
      have HGS : Hid (w.heap.size ≤ U0.heap.size ∧ g ≠ U0.heap.size ∧ f ≠ U0.heap.size ∧ ∀ k, (Value.slice A n c).ownBlock = some k → k ≠ U0.heap.size) := Lib.hid ⟨CT0.out.gb.size, Nat.ne_of_lt CT0.out.rx.lt, Nat.ne_of_lt CT0.out.rf.lt, fun k hk => Nat.ne_of_lt (CT0.out.own.lt k hk).2⟩
      have HB1 : Hid (base ≤ U0.heap.size) := Lib.hid (Nat.le_trans HBASE.out CT0.out.gb.size)
      have HB2 : Hid (base ≤ (U0.alloc (.cells (bv h).toArray 25)).heap.size) := Lib.hid (Nat.le_trans HBASE.out CT.out.gb.size)
      refine wp_buildOne 30 25 (.tmp 19) rfl (bv h) _ 32 32 Try.underlying30 info_h12 (by kernel_rfl) (by omega) (by omega) HHL.out (by go_simp) ?_
      refine hK.out _ _ CT.out.rx ?_
      clear hK K
      try simp only [Act.put, List.setIfInBounds_toArray, List.set_cons_zero, List.set_cons_succ]
      refine readyL (i := 7) rfl (by kernel_rfl) (by kernel_rfl) fun K hK => ?_
      refine wp_appendN (P := Try.prog) (.tmp 20) (.tmp 24) 30 25 _ 32 32 rfl Try.underlying30 info_h12 (by kernel_rfl) (by omega) (.slice (some ⟨U0.heap.size, 0, none⟩) 1 1) 1 (bv h) base _ A n c (bv L.flatten) (by go_simp) (GS.out.own_hash HHL.out HB1.out) (by go_simp) CT.out.sees (bv_one _) (by unfold maxLen; omega) (by omega) HB2.out fun v2 U2 hob hgr => ?_
      obtain ⟨A4, c4, hv2, _⟩ := own_form2 hob
      subst hv2
      have CT2 := Lib.hid (CT.out.grow GS.out HGS.out hgr)
      have OB := Lib.hid hob
      have HOF : Hid (∀ k, (Value.slice A4 (1 + n) c4).ownBlock = some k → k ≠ f) := Lib.hid fun k hk e => by
        subst e
        rcases hgr.fresh k hk with h1 | h1
        · cases h1
          exact absurd CT0.out.rf.lt (Nat.lt_irrefl _)
        · exact absurd CT.out.rf.lt (Nat.not_lt_of_le h1)
      clear hob hgr
      refine hK.out _ _ CT2.out.rx ?_
      clear hK K
      try simp only [Act.put, List.setIfInBounds_toArray, List.set_cons_zero, List.set_cons_succ]
      refine takeL (i := 8) (v := ?_) rfl (by kernel_rfl) (by kernel_rfl) (by kernel_rfl) (fun _ _ _ h => h) (Or.inl ⟨by rfl, ?_⟩) CT2.out.rx ?_
      rotate_left
      · intro w hw
        try dsimp only at hw
        go_simp
        try with_reducible rfl
      try simp only [Act.put, List.setIfInBounds_toArray, List.set_cons_zero, List.set_cons_succ]
      refine takeL (i := 9) (v := ?_) rfl (by kernel_rfl) (by kernel_rfl) (by kernel_rfl) (fun _ _ _ h => h) (Or.inl ⟨by rfl, ?_⟩) CT2.out.rx ?_
      rotate_left
      · intro w hw
        try dsimp only at hw
        go_simp
        try with_reducible rfl
      try simp only [Act.put, List.setIfInBounds_toArray, List.set_cons_zero, List.set_cons_succ]
      refine readyL (i := 10) rfl (by kernel_rfl) (by kernel_rfl) fun K hK => ?_
      have hc10 : U2.cell? ⟨pb, 0, none⟩ = some (.slice A n c) := CT2.out.row.cell 0
      have hf10 := CT2.out.row.frozen 0
      go_simp
      clear hc10 hf10
      have CE := Lib.hid (CT2.out.done OB.out HGP.out HFP.out)
      refine hK.out _ _ CE.out.2 ?_
      clear hK K
      try simp only [Act.put]
      refine wpAnyH_done (by kernel_rfl) ?_ _
      go_wp2_with fail
      go_meet
      exact ⟨_, HOF.out, CE.out.1⟩

  case rest =>
    obtain ⟨v2, h0, h1, h2, h3, h4⟩ := hcut
    have HOF0 := Lib.hid h0
    have R4 := Lib.hid h1
    have F4 := Lib.hid h3
    have G4 := Lib.hid h4
    obtain ⟨g2, c2, rest2, rfl, hrw, hc1, hc2, hbg, hrl⟩ := own_rows2 h2 (by rw [bv_length, List.flatten_cons, List.length_append, HL.out]; omega) (by omega)
    have O4 := Lib.hid h2
    have RW4 := Lib.hid hrw
    unfold maxLen at hc2
    have HOF : Hid (∀ k, (Value.slice (some ⟨g2, 0, none⟩) (n + 1) c2).ownBlock = some k → k ≠ f) := Lib.hid HOF0.out
    clear HOF0 h0 h1 h2 h3 h4 hrw hrl hbg CT1
    have hcw := R4.out.cell 0
    by_cases hlt : n < 150
    · have h1' : (n : Int) + 1 ≤ 150 := by omega
      have h2' : ((n + 1 : Nat) : Int) ≤ 150 := by omega
      have hnl := HNL.out
      have HE := Lib.hid (pushE_room HM.out (by omega)).symm
      have HP : Hid (push12 L h = h :: L) := Lib.hid (by rw [push12_new HM.out, List.take_of_length_le (by rw [List.length_cons]; omega)])
      have HQ2 := Lib.hid (HHQ.out.push h)
      clear hnl
      go_wp2_with (first
        | ((with_reducible show wpList _ _ _ ({ dst := some 34, op := Op.build _ _, type := _, pos := _, after := _, guard := _ } :: _) _ _); go_must (refine wpList_plain rfl fun K hK => wp_built _ _ _ rfl (by simp only [List.map_toArray, List.map_nil]; exact built_hash0) (hK _ _ ?_)))
        | ((with_reducible show wpList _ _ _ ({ dst := none, op := Op.store 25 _ _, type := _, pos := _, after := _, guard := _ } :: _) _ _); go_must (refine wpList_store_whole rfl 25 (.tmp 4) (.tmp 34) rfl f (bv zero12) (bv zero12) F4.out HZS.out rfl (bv_one _) ?_ ?_ ?_; go_simp; go_simp; intro w5 hr1 ht1; have RF := Lib.hid hr1; have TF := Lib.hid ht1; clear hr1 ht1)))
      refine bodyPost_ret (results_cell2 (h := rfl) _ w5 ⟨f, 0, none⟩ (.agg (bv zero12).toArray) (.bool false) (.int .i64 0) (by rfl) (by rfl) (by rfl) (run_load_row12 RF.out HZS.out)) rfl ?_
      refine ⟨HE.out, _, ⟨TF.out.row R4.out (fun e => HFP.out e.symm), ?_, ?_, HQ2.out⟩, gb_turned G4.out TF.out (.inl HFG.out)⟩
      · rw [HP.out, List.length_cons, HNL.out]
        exact own_keep O4.out fun k hk => TF.out.block k (HOF.out k hk)
      · rw [HP.out]
        exact fun y hy => by
          rcases List.mem_cons.1 hy with rfl | hy
          · exact HL.out
          · exact HH32.out y hy

    · have h1' : ¬ (n : Int) + 1 ≤ 150 := by omega
      have h2' : ¬ ((n + 1 : Nat) : Int) ≤ 150 := by omega
      obtain ⟨y, hy⟩ : ∃ y, L[149]? = some y := ⟨_, List.getElem?_eq_getElem (by rw [HNL.out]; omega)⟩
      have hyl := HH32.out y (List.mem_of_getElem? hy)
      have HE := Lib.hid (pushE_full HM.out hy).symm
      have HP : Hid (push12 L h = (h :: L).take 150) := Lib.hid (by rw [push12_new HM.out])
      have HQ2 := Lib.hid (HHQ.out.push h)
      have HYZ := Lib.hid (size_hash' hyl)
      have HYL : Hid ((bv y).length = 32) := Lib.hid (by rw [bv_length, hyl])
      have HXL : Hid (∀ y ∈ h :: L, y.length = 32) := Lib.hid fun y hy => by
        rcases List.mem_cons.1 hy with rfl | hy
        · exact HL.out
        · exact HH32.out y hy
      have HCY : Hid (∀ j u, (bv y)[j]? = some u → wc.cell? ((⟨g2, 4800, none⟩ : Addr).add j) = some u) := Lib.hid fun j u hu => by
        rw [addr_row, RW4.out.cell]
        rw [bv_getElem?] at hu
        cases hz : y[j]? with
        | none => rw [hz] at hu; cases hu
        | some z =>
          rw [hz] at hu
          have := flatten_at 32 (h :: L) 150 y (fun i x hx => HXL.out x (List.mem_of_getElem? hx)) (by rw [List.getElem?_cons_succ]; exact hy) j z hz
          rw [List.getElem?_append_left (by rw [bv_length]; exact (List.getElem?_eq_some_iff.1 this).1), bv_getElem?, this]
          exact hu
      obtain rfl : n = 150 := by omega
      clear hy hyl
      go_upto_region 8 with (first
        | ((with_reducible show wpList _ _ _ ({ dst := some 40, op := Op.load 25 _, type := _, pos := _, after := _, guard := _ } :: _) _ _); go_must (refine wpList_load_at rfl 25 (.tmp 39) rfl ⟨g2, 4800, none⟩ (bv y) _ Try.underlying25 rfl HYZ.out HCY.out ?_ ?_; go_simp))
        | ((with_reducible show wpList _ _ _ ({ dst := some 9, op := Op.alloc _, type := _, pos := _, after := _, guard := _ } :: _) _ _); go_must (refine wpList_alloc_zero rfl 25 rfl (bv zero12) zero_h ?_))
        | ((with_reducible show wpList _ _ _ ({ dst := none, op := Op.store 25 _ _, type := _, pos := _, after := _, guard := _ } :: _) _ _); go_must (refine wpList_store_new rfl 25 (.tmp 9) (.tmp 40) rfl (bv y) HYZ.out (bv_one _) (by rw [List.size_toArray, HYL.out]; rfl) ?_ ?_ ?_; go_simp; go_simp; intro w5 hr5 hb5 hz5; have R9 := Lib.hid hr5; have B5 := Lib.hid hb5; clear hr5 hb5 hz5)))
      have R5 := Lib.hid (R4.out.below B5.out R4.out.lt)
      have F5 := Lib.hid (F4.out.below B5.out F4.out.lt)
      have O5 := Lib.hid (own_below O4.out B5.out)
      have G5 := Lib.hid (gb_below G4.out B5.out)
      have HN9 : Hid (wc.heap.size ≠ f) := Lib.hid (Nat.ne_of_gt F4.out.lt)
      have HN8 : Hid (wc.heap.size ≠ pb) := Lib.hid (Nat.ne_of_gt R4.out.lt)
      have HK5 : Hid (∀ k, (Value.slice (some ⟨g2, 0, none⟩) 151 c2).ownBlock = some k → k ≠ pb) := Lib.hid fun k hk e => by
        subst e
        exact own_row_neN O4.out R4.out (by decide) hk.symm
      have hc5 := R5.out.cell 0
      have hf5 := R5.out.frozen 0
      obtain ⟨q9, hq9⟩ : ∃ q, q = wc.heap.size := ⟨_, rfl⟩
      have Q9 : Hid (Row w5 q9 25 (bv y)) := Lib.hid (by rw [hq9]; exact R9.out)
      rw [← hq9] at HN9 HN8 ⊢
      clear hq9 B5 R9 hcw
      go_upto_region 9 with ((with_reducible show wpList _ _ _ ({ dst := some 46, op := Op.slice _ _ _ _ _, type := _, pos := _, after := _, guard := _ } :: _) _ _); go_must (refine wpList_head rfl 30 25 (.tmp 45) (.const (.int .i64 150)) 32 rfl Try.underlying30 size_hash (some ⟨g2, 0, none⟩) 151 c2 150 ?_ rfl (by omega) ?_; go_simp))
      have T6 := Lib.hid (turned_setCell w5 ⟨pb, 0, none⟩ (.slice (some ⟨g2, 0, none⟩) 150 c2))
      have R6 := Lib.hid (R5.out.set_ 0 (.slice (some ⟨g2, 0, none⟩) 150 c2))
      have F6 := Lib.hid (T6.out.row F5.out HFP.out)
      have Q6 := Lib.hid (T6.out.row Q9.out HN8.out)
      have O6 := Lib.hid (own_keep O5.out fun k hk => T6.out.block k (HK5.out k hk))
      have G6 := Lib.hid (gb_turned G5.out T6.out (.inr rfl))
      clear hc5 hf5 T6 R5 F5 O5 G5 Q9
      generalize w5.setCell ⟨pb, 0, none⟩ (.slice (some ⟨g2, 0, none⟩) 150 c2) = w6 at *
      go_wp2_with (first
        | ((with_reducible show wpList _ _ _ ({ dst := some 49, op := Op.load 25 _, type := _, pos := _, after := _, guard := _ } :: _) _ _); go_must (refine wpList_load_whole rfl 25 (.tmp 9) rfl q9 25 (bv y) _ Try.underlying25 rfl HYZ.out Q6.out ?_ ?_; go_simp))
        | ((with_reducible show wpList _ _ _ ({ dst := none, op := Op.store 25 _ _, type := _, pos := _, after := _, guard := _ } :: _) _ _); go_must (refine wpList_store_whole rfl 25 (.tmp 4) (.tmp 49) rfl f (bv zero12) (bv y) F6.out HYZ.out (by rw [HYL.out]; rfl) (bv_one _) ?_ ?_ ?_; go_simp; go_simp; intro w7 hr1 ht1; have RF := Lib.hid hr1; have TF := Lib.hid ht1; clear hr1 ht1)))
      refine bodyPost_ret (results_cell2 (h := rfl) _ w7 ⟨f, 0, none⟩ (.agg (bv y).toArray) (.bool true) (.int .i64 0) (by rfl) (by rfl) (by rfl) (run_load_row12 RF.out HYZ.out)) rfl ?_
      refine ⟨HE.out, _, ⟨TF.out.row R6.out (fun e => HFP.out e.symm), ?_, ?_, HQ2.out⟩, gb_turned G6.out TF.out (.inl HFG.out)⟩
      · have h1 := own_head12 O6.out (k := 150) (by omega)
        rw [bv_take12, flat_take12 _ _ HXL.out] at h1
        have h2 := own_keep h1 fun k hk => TF.out.block k (HOF.out k hk)
        rw [HP.out]
        have e : ((h :: L).take 150).length = 150 := by rw [List.length_take, List.length_cons, HNL.out]; omega
        rw [e]
        exact h2
      · rw [HP.out]
        exact fun y hy => HXL.out y (List.mem_of_mem_take hy)
end Go.Proofs.Ytigmaehlplldgaa

/-
  Of part Lives12: what is needed here.
-/
namespace Go.Proofs.Ytigmaehlplldgaa
open Go.RowKit
set_option linter.unusedVariables false
set_option maxRecDepth 100000
/-- a queue of the call's own in a block from the call's on -/
structure LQ (w V : World) (rb : Nat) (L : List (List Int)) : Prop where
  b : Below w.heap.size w V
  q : QIn V rb L
  lo : w.heap.size ≤ rb
theorem LQ.below {w V V' : World} {rb : Nat} {L : List (List Int)} (h : LQ w V rb L) (hb : Below V.heap.size V V') : LQ w V' rb L := ⟨h.b.trans (hb.mono h.b.size), h.q.below hb, h.lo⟩
theorem LQ.alloc {w V : World} {rb : Nat} {L : List (List Int)} (h : LQ w V rb L) (o : Obj) : LQ w (V.alloc o) rb L := h.below ((Below.refl _ _).alloc (Nat.le_refl _) o)
theorem LQ.push {w V V' : World} {rb : Nat} {L L' : List (List Int)} (h : LQ w V rb L) (hq : QIn V' rb L') (hg : V.grownBy V' (some rb)) : LQ w V' rb L' :=
  ⟨h.b.grown hg h.b.size (fun k hk => by cases hk; exact h.lo), hq, h.lo⟩
theorem push12_nil (x : List Int) : push12 [] x = [x] := by
  rw [push12_new (by simp)]
  rfl
theorem push12_one {x y : List Int} (h : y ≠ x) : push12 [x] y = [y, x] := by
  rw [push12_new (by simpa using h)]
  rfl
theorem push_fresh (rb : Nat) (L : List (List Int)) (x : List Int) (V : World) (hq : QIn V rb L) (hx : x.length = 32) (hm : x ∉ L) (hl : L.length < 150) : Calls Try.prog 9 #[.pointer (some ⟨rb, 0, none⟩), .agg (bv x).toArray] V fun e w' => e = .returned (.tuple #[.agg (bv zero12).toArray, .bool false, .int .i64 0]) ∧ QIn w' rb (push12 L x) ∧ V.grownBy w' (some rb) :=
  (push_ rb L x V hq hx).mono fun _ _ ⟨h1, h2, h3⟩ => ⟨h1.trans (pushE_room hm hl), h2, h3⟩
theorem push_there (rb : Nat) (L : List (List Int)) (x : List Int) (V : World) (hq : QIn V rb L) (hx : x.length = 32) (hm : x ∈ L) : Calls Try.prog 9 #[.pointer (some ⟨rb, 0, none⟩), .agg (bv x).toArray] V fun e w' => e = .returned (.tuple #[.agg (bv zero12).toArray, .bool false, .int .i64 12]) ∧ QIn w' rb L ∧ V.grownBy w' (some rb) :=
  (push_ rb L x V hq hx).mono fun _ _ ⟨h1, h2, h3⟩ => ⟨h1.trans (pushE_in hm), by rw [push12_in hm] at h2; exact h2, h3⟩
theorem age_at (rb : Nat) (L : List (List Int)) (x : List Int) (V : World) (hq : QIn V rb L) (hx : x.length = 32) {k : Nat} (hk : L[k]? = some x) : Calls Try.prog 13 #[.pointer (some ⟨rb, 0, none⟩), .agg (bv x).toArray] V fun e w' => e = .returned (.tuple #[.int .i64 k, .bool true]) ∧ Below V.heap.size V w' :=
  (age_ rb L x V hq hx).mono fun _ _ ⟨h1, h2⟩ => ⟨by rw [h1, ageN_at hq.q hk, decide_eq_true (List.mem_of_getElem? hk)], h2⟩
set_option maxHeartbeats 8000000 in
theorem lives12 (w : World) : Calls Try.prog 6 #[] w fun e w' => e = .returned (.bool true) ∧ Below w.heap.size w w' := by
  have HZS := Lib.hid (size_hash' zero12_len)
  go_enter Try.func6, Try.ntmps6
  go_wp2_with fail
  refine (new_ _).mono ?_
  rintro e w1 ⟨rfl, hq1, hb1⟩
  have Q1 := Lib.hid (show LQ w w1 w.heap.size [] from ⟨hb1, hq1, Nat.le_refl _⟩)
  clear hq1 hb1
  obtain ⟨rb, hrb⟩ : ∃ rb, rb = w.heap.size := ⟨_, rfl⟩
  rw [← hrb] at Q1 ⊢
  clear hrb
  go_wp2_with fail
  refine (hash_ 1 _ (by omega) (by omega)).mono ?_
  rintro e w2 ⟨rfl, hb⟩
  have Q2 := Lib.hid (Q1.out.below hb)
  clear hb Q1
  go_wp2_with fail
  refine (push_fresh rb [] (hashL 1) _ Q2.out.q rfl (by simp) (by simp)).mono ?_
  rintro e w3 ⟨rfl, hq, hg⟩
  rw [push12_nil] at hq
  have Q3 := Lib.hid (Q2.out.push hq hg)
  clear hq hg Q2
  go_wp2_with (first
    | ((with_reducible show wpList _ _ _ ({ dst := some 2, op := Op.alloc _, type := _, pos := _, after := _, guard := _ } :: _) _ _); go_must (refine wpList_alloc_zero rfl 25 rfl (bv zero12) zero_h ?_))
    | ((with_reducible show wpList _ _ _ ({ dst := none, op := Op.store 25 _ _, type := _, pos := _, after := _, guard := _ } :: _) _ _); go_must (refine wpList_store_new rfl 25 (.tmp 2) (.tmp 20) rfl (bv zero12) HZS.out (bv_one _) rfl ?_ ?_ ?_; go_simp; go_simp; intro w4 hr hbn hz; clear hr hz)))
  have Q4 := Lib.hid (Q3.out.below hbn)
  clear hbn Q3
  go_wp2_with fail
  refine (hash_ 2 _ (by omega) (by omega)).mono ?_
  rintro e w5 ⟨rfl, hb⟩
  have Q5 := Lib.hid (Q4.out.below hb)
  clear hb Q4
  go_wp2_with fail
  refine (push_fresh rb [hashL 1] (hashL 2) _ Q5.out.q rfl (by decide) (by simp)).mono ?_
  rintro e w6 ⟨rfl, hq, hg⟩
  rw [push12_one (by decide)] at hq
  have Q6 := Lib.hid (Q5.out.push hq hg)
  clear hq hg Q5
  go_wp2_with (first
    | ((with_reducible show wpList _ _ _ ({ dst := some 5, op := Op.alloc _, type := _, pos := _, after := _, guard := _ } :: _) _ _); go_must (refine wpList_alloc_zero rfl 25 rfl (bv zero12) zero_h ?_))
    | ((with_reducible show wpList _ _ _ ({ dst := none, op := Op.store 25 _ _, type := _, pos := _, after := _, guard := _ } :: _) _ _); go_must (refine wpList_store_new rfl 25 (.tmp 5) (.tmp 27) rfl (bv zero12) HZS.out (bv_one _) rfl ?_ ?_ ?_; go_simp; go_simp; intro w7 hr hbn hz; clear hr hz)))
  have Q7 := Lib.hid (Q6.out.below hbn)
  clear hbn Q6
  go_wp2_with fail
  refine (hash_ 1 _ (by omega) (by omega)).mono ?_
  rintro e w8 ⟨rfl, hb⟩
  have Q8 := Lib.hid (Q7.out.below hb)
  clear hb Q7
  go_wp2_with fail
  refine (age_at rb [hashL 2, hashL 1] (hashL 1) _ Q8.out.q rfl (k := 1) rfl).mono ?_
  rintro e w9 ⟨rfl, hb⟩
  have Q9 := Lib.hid (Q8.out.below hb)
  clear hb Q8
  go_wp2_with fail
  refine (hash_ 2 _ (by omega) (by omega)).mono ?_
  rintro e w10 ⟨rfl, hb⟩
  have Q10 := Lib.hid (Q9.out.below hb)
  clear hb Q9
  go_wp2_with fail
  refine (age_at rb [hashL 2, hashL 1] (hashL 2) _ Q10.out.q rfl (k := 0) rfl).mono ?_
  rintro e w11 ⟨rfl, hb⟩
  have Q11 := Lib.hid (Q10.out.below hb)
  clear hb Q10
  go_wp2_with fail
  refine (hash_ 1 _ (by omega) (by omega)).mono ?_
  rintro e w12 ⟨rfl, hb⟩
  have Q12 := Lib.hid (Q11.out.below hb)
  clear hb Q11
  go_wp2_with fail
  refine (push_there rb [hashL 2, hashL 1] (hashL 1) _ Q12.out.q rfl (by simp)).mono ?_
  rintro e w13 ⟨rfl, hq, hg⟩
  have Q13 := Lib.hid (Q12.out.push hq hg)
  clear hq hg Q12
  go_wp2_with (first
    | ((with_reducible show wpList _ _ _ ({ dst := some 12, op := Op.alloc _, type := _, pos := _, after := _, guard := _ } :: _) _ _); go_must (refine wpList_alloc_zero rfl 25 rfl (bv zero12) zero_h ?_))
    | ((with_reducible show wpList _ _ _ ({ dst := none, op := Op.store 25 _ _, type := _, pos := _, after := _, guard := _ } :: _) _ _); go_must (refine wpList_store_new rfl 25 (.tmp 12) (.tmp 46) rfl (bv zero12) HZS.out (bv_one _) rfl ?_ ?_ ?_; go_simp; go_simp; intro w14 hr hbn hz; clear hr hz)))
  have Q14 := Lib.hid (Q13.out.below hbn)
  clear hbn Q13
  go_wp2_with fail
  refine (len_ rb [hashL 2, hashL 1] _ Q14.out.q).mono ?_
  rintro e w' ⟨rfl, rfl⟩
  go_wp2_with fail
  go_ret
  exact ⟨rfl, Q14.out.b⟩
end Go.Proofs.Ytigmaehlplldgaa

/-
  Of part LastWalk12: what is needed here.
-/
namespace Go.Proofs.Ytigmaehlplldgaa
open Go.RowKit
set_option linter.unusedVariables false
set_option maxRecDepth 100000
theorem push_any (rb : Nat) (L : List (List Int)) (x : List Int) (V : World) (hq : QIn V rb L) (hx : x.length = 32) : Calls Try.prog 9 #[.pointer (some ⟨rb, 0, none⟩), .agg (bv x).toArray] V fun e w' => e = .returned (.tuple #[.agg (bv (fallL L x)).toArray, .bool (fell12 L x).isSome, .int .i64 (errP L x)]) ∧ QIn w' rb (push12 L x) ∧ V.grownBy w' (some rb) :=
  (push_ rb L x V hq hx).mono fun _ _ ⟨h1, h2, h3⟩ => ⟨h1, h2, h3⟩
theorem age_out (rb : Nat) (L : List (List Int)) (x : List Int) (V : World) (hq : QIn V rb L) (hx : x.length = 32) (hm : x ∉ L) : Calls Try.prog 13 #[.pointer (some ⟨rb, 0, none⟩), .agg (bv x).toArray] V fun e w' => e = .returned (.tuple #[.int .i64 0, .bool false]) ∧ Below V.heap.size V w' :=
  (age_ rb L x V hq hx).mono fun _ _ ⟨h1, h2⟩ => ⟨by rw [h1, ageN_none hm, decide_eq_false hm]; rfl, h2⟩
/-- the k-th hash from a number on, gone round -/
def hk12 (a : Int) (k : Nat) : List Int := hashL ((a + k) % 65536)
def hs12 (a : Int) (n : Nat) : List (List Int) := (List.range n).map (hk12 a)
theorem hs12_succ (a : Int) (n : Nat) : hs12 a (n + 1) = hs12 a n ++ [hk12 a n] := by
  unfold hs12
  rw [List.range_succ, List.map_append]
  rfl
theorem hs12_len (a : Int) (n : Nat) : (hs12 a n).length = n := by simp [hs12]
theorem hs12_nd (a : Int) (n : Nat) (hn : n ≤ 400) : (hs12 a n).Nodup := by
  unfold hs12
  refine List.pairwise_map.2 ((List.nodup_range (n := n)).imp_of_mem ?_)
  intro x y hx hy hne e
  have := hashL_inj e
  simp at hx hy
  omega
theorem hs12_at (a : Int) {n k : Nat} (hk : k < n) : (hs12 a n)[k]? = some (hk12 a k) := by simp [hs12, hk]
theorem wrap_u16 (x : Int) : IntKind.u16.wrap x = x % 65536 := rfl
theorem u16_wf12 {n : Int} (h : (Lit.int .u16 n).wf = true) : 0 ≤ n ∧ n < 65536 := by
  have := bounds_u16 h
  omega
set_option maxHeartbeats 8000000 in
theorem last_walk12 (a m : Int) (w : World) (a0 : 0 ≤ a) (a1 : a < 65536) (m0 : 0 ≤ m) (m1 : m < 65536) : Calls Try.prog 5 #[.int .u16 a, .int .u16 m] w fun e w' => e = .returned (.bool true) ∧ Below w.heap.size w w' := by
  obtain ⟨n, hn⟩ : ∃ n : Nat, (n : Int) = m % 400 := ⟨(m % 400).toNat, by omega⟩
  have hn4 : n < 400 := by omega
  have hn4' : (n : Int) < 400 := by omega
  have HN := Lib.hid hn.symm
  have HA1 := Lib.hid a1
  clear hn
  go_enter Try.func5, Try.ntmps5
  go_wp2_with fail
  rw [HN.out]
  refine (new_ _).mono ?_
  rintro e w1 ⟨rfl, hq1, hb1⟩
  have Q1 := Lib.hid (show LQ w w1 w.heap.size (pushes12 [] (hs12 a 0)) from ⟨hb1, hq1, Nat.le_refl _⟩)
  clear hq1 hb1
  obtain ⟨rb, hrb⟩ : ∃ rb, rb = w.heap.size := ⟨_, rfl⟩
  rw [← hrb] at Q1 ⊢
  clear hrb
  go_wp2_with fail
  go_loopw [7] (fun i wr => ∃ k : Nat, k ≤ n ∧ i = .int .i64 k ∧ LQ w wr rb (pushes12 [] (hs12 a k))) (fun i _ => n - (intOf i).toNat)
  case atStart => exact ⟨0, by omega, rfl, Q1.out⟩
  case round =>
    obtain ⟨k, hk, rfl, hq⟩ := hrel
    have Q2 := Lib.hid hq
    clear hq Q1
    by_cases hlt : k < n
    · have hlt' : (k : Int) < n := by omega
      go_wp2_with fail
      rw [wrap_u16]
      refine (hash_ _ _ (Int.emod_nonneg _ (by omega)) (Int.emod_lt_of_pos _ (by omega))).mono ?_
      rintro e w2 ⟨rfl, hb⟩
      have Q3 := Lib.hid (Q2.out.below hb)
      clear hb Q2
      go_wp2_with fail
      refine (push_any rb _ (hk12 a k) _ Q3.out.q rfl).mono ?_
      rintro e w3 ⟨rfl, hq, hg⟩
      rw [← pushes12_snoc, ← hs12_succ] at hq
      have Q4 := Lib.hid (Q3.out.push hq hg)
      clear hq hg Q3
      go_wp2_with fail
      go_roundw
      case rel => exact ⟨k + 1, by omega, by go_num, Q4.out⟩
      case measure => simp [intOf]; omega
    · have hlt' : ¬ (k : Int) < n := by omega
      obtain rfl : k = n := by omega
      have HLN := Lib.hid (len12_once (hs12_nd a k (by omega)))
      have HAGE := Lib.hid (fun (j : Nat) (hj : j < k) => age12_once (hs12_nd a k (by omega)) (hs12_at a hj))
      rw [hs12_len] at HLN
      have HAGE2 : Hid (∀ j, j < k → age12 (pushes12 [] (hs12 a k)) (hk12 a j) = if k - 1 - j < 150 then some (k - 1 - j) else none) := Lib.hid fun j hj => by
        have := HAGE.out j hj
        rwa [hs12_len] at this
      clear HAGE
      generalize pushes12 [] (hs12 a k) = L at *
      go_wp2_with fail
      go_loopw [8, 9, 10] (fun i _ _ wr => ∃ j : Nat, j ≤ k ∧ i = .int .i64 j ∧ LQ w wr rb L) (fun i _ _ _ => k - (intOf i).toNat)
      case atStart => exact ⟨0, by omega, rfl, Q2.out⟩
      case round =>
        obtain ⟨j, hj, rfl, hq⟩ := hrel
        have Q3 := Lib.hid hq
        clear hq
        by_cases hlj : j < k
        · have hlj' : (j : Int) < k := by omega
          have HJ := Lib.hid (HAGE2.out j hlj)
          go_wp2_with fail
          rw [wrap_u16]
          refine (hash_ _ _ (Int.emod_nonneg _ (by omega)) (Int.emod_lt_of_pos _ (by omega))).mono ?_
          rintro e w2 ⟨rfl, hb⟩
          have Q4 := Lib.hid (Q3.out.below hb)
          clear hb Q3
          go_wp2_with fail
          by_cases h150 : k - 1 - j < 150
          · have h150' : (k : Int) - 1 - j < 150 := by omega
            have HAT : L[k - 1 - j]? = some (hk12 a j) := age12_some (by rw [HJ.out, if_pos h150])
            have HC := Lib.hid (age_at rb L (hk12 a j) _ Q4.out.q rfl HAT)
            have e1 : ((k - 1 - j : Nat) : Int) = (k : Int) - 1 - j := by omega
            rw [e1] at HC
            clear e1 HAT HJ
            refine HC.out.mono ?_
            rintro e w3 ⟨rfl, hb⟩
            have Q5 := Lib.hid (Q4.out.below hb)
            clear hb Q4 HC
            go_wp2_with fail
            go_roundw
            case rel => exact ⟨j + 1, by omega, by go_num, Q5.out⟩
            case measure => simp [intOf]; omega
          · have h150' : ¬ (k : Int) - 1 - j < 150 := by omega
            have HC := Lib.hid (age_out rb L (hk12 a j) _ Q4.out.q rfl (age12_none.1 (by rw [HJ.out, if_neg h150])))
            clear HJ
            refine HC.out.mono ?_
            rintro e w3 ⟨rfl, hb⟩
            have Q5 := Lib.hid (Q4.out.below hb)
            clear hb Q4 HC
            go_wp2_with fail
            go_roundw
            case rel => exact ⟨j + 1, by omega, by go_num, Q5.out⟩
            case measure => simp [intOf]; omega
        · have hlj' : ¬ (j : Int) < k := by omega
          by_cases hk5 : k ≤ 150
          · have hk5' : (k : Int) ≤ 150 := by omega
            have HL2 : Hid (L.length = k) := Lib.hid (by rw [HLN.out]; omega)
            go_wp2_with fail
            refine (len_ rb L _ Q3.out.q).mono ?_
            rintro e w' ⟨rfl, rfl⟩
            rw [HL2.out]
            go_wp2_with fail
            refine (lives12 _).mono ?_
            rintro e w9 ⟨rfl, hb9⟩
            have B9 := Lib.hid (Q3.out.b.trans (hb9.mono Q3.out.b.size))
            clear hb9
            go_wp2_with fail
            go_ret
            exact ⟨rfl, B9.out⟩
          · have hk5' : ¬ (k : Int) ≤ 150 := by omega
            have HL2 : Hid (L.length = 150) := Lib.hid (by rw [HLN.out]; omega)
            go_wp2_with fail
            refine (len_ rb L _ Q3.out.q).mono ?_
            rintro e w' ⟨rfl, rfl⟩
            rw [HL2.out]
            go_wp2_with fail
            refine (lives12 _).mono ?_
            rintro e w9 ⟨rfl, hb9⟩
            have B9 := Lib.hid (Q3.out.b.trans (hb9.mono Q3.out.b.size))
            clear hb9
            go_wp2_with fail
            go_ret
            exact ⟨rfl, B9.out⟩
end Go.Proofs.Ytigmaehlplldgaa

/-
  Of part PlayMem12: what is needed here.
-/
namespace Go.Proofs.Ytigmaehlplldgaa
open Go.RowKit
set_option linter.unusedVariables false
set_option maxRecDepth 100000
theorem RQ12.keys {w : World} {pb base n c : Nat} {A : Option Addr} {L : List (List Int)} (h : RQ12 w pb base (.slice A n c) L) : KeysIn w w.heap.size A n L := by
  obtain ⟨A', c', h1, h2, _⟩ := h.form
  cases h1
  exact h2
theorem keysOwn12 {w : World} {base n c : Nat} {A : Option Addr} {L : List (List Int)} (h : w.ownsRow base 25 32 (.slice A n c) L.length (bv L.flatten)) (h32 : ∀ y ∈ L, y.length = 32) : KeysIn w w.heap.size A n L := by
  obtain ⟨A', c', h1, h2, _⟩ := own_form2 h
  cases h1
  exact ⟨rfl, h32, h2⟩
/-- the copy, or none yet -/
def CopyIn (V : World) (base rb : Nat) (cv wv : Value) : Option (List (List Int)) → Prop
  | none => cv = .pointer none ∧ wv = .slice none 0 0
  | some l => ∃ cb, cv = .pointer (some ⟨cb, 0, none⟩) ∧ cb ≠ rb ∧ QIn V cb l ∧ V.ownsRow base 25 32 wv l.length (bv l.flatten) ∧ ∀ y ∈ l, y.length = 32
theorem CopyIn.keep {V V' : World} {base rb : Nat} {cv wv : Value} {C : Option (List (List Int))} (h : CopyIn V base rb cv wv C) (hq : ∀ cb l, cb ≠ rb → QIn V cb l → V'.heap[cb]? = V.heap[cb]?) (ho : ∀ l : List (List Int), V.ownsRow base 25 32 wv l.length (bv l.flatten) → ∀ g, wv.ownBlock = some g → V'.heap[g]? = V.heap[g]?) : CopyIn V' base rb cv wv C := by
  match C, h with
  | none, h => exact h
  | some l, ⟨cb, h1, h2, h3, h4, h5⟩ => exact ⟨cb, h1, h2, h3.keep (hq cb l h2 h3), own_keep h4 (ho l h4), h5⟩
theorem row_ne12 {V : World} {g g' t t' : Nat} {xs ys : List Value} (h : Row V g t xs) (h' : Row V g' t' ys) (hne : t ≠ t') : g ≠ g' := by
  rintro rfl
  have := h.is.symm.trans h'.is
  injection this with this
  injection this with _ this
  exact hne this
/-- a queue with L, the reference with M; the copy -/
structure PS12 (w V : World) (rb pb ga : Nat) (v cv wv : Value) (ask : List Int) (L M : List (List Int)) (C : Option (List (List Int))) : Prop where
  b : Below w.heap.size w V
  q : QIn V rb L
  m : RQ12 V pb w.heap.size v M
  c : CopyIn V w.heap.size rb cv wv C
  a : Row V ga 25 (bv ask)
  lo : w.heap.size ≤ rb ∧ w.heap.size ≤ pb
section
variable {w V V' : World} {rb pb ga : Nat} {v v' cv wv : Value} {ask : List Int} {L L' M M' : List (List Int)} {C : Option (List (List Int))}
theorem PS12.below (h : PS12 w V rb pb ga v cv wv ask L M C) (hb : Below V.heap.size V V') : PS12 w V' rb pb ga v cv wv ask L M C :=
  ⟨h.b.trans (hb.mono h.b.size), h.q.below hb, h.m.below hb, h.c.keep (fun cb l _ hq => hb.block cb hq.lt) (fun l ho g hg => hb.block g (ho.lt g hg).2), h.a.below hb h.a.lt, h.lo⟩
theorem PS12.alloc (h : PS12 w V rb pb ga v cv wv ask L M C) (o : Obj) : PS12 w (V.alloc o) rb pb ga v cv wv ask L M C := h.below ((Below.refl _ _).alloc (Nat.le_refl _) o)
theorem PS12.drewN (h : PS12 w V rb pb ga v cv wv ask L M C) (n : Nat) : PS12 w (V.drewN n) rb pb ga v cv wv ask L M C := h.below (below_drewN (Below.refl _ _) n)
theorem qrow_ne {rb g t : Nat} {xs : List Value} (hq : QIn V rb L) (hr : Row V g t xs) (hne : 43 ≠ t) : g ≠ rb := by
  rintro rfl
  obtain ⟨H, nx, mn, h1, _⟩ := hq.is
  have := h1.is.symm.trans hr.is
  injection this with this
  injection this with _ this
  exact hne this
theorem qown_ne {rb base size n : Nat} {e : TypeId} {u : Value} {xs : List Value} (hq : QIn V rb L) (ho : V.ownsRow base e size u n xs) (hne : e ≠ 43) : ∀ g, u.ownBlock = some g → g ≠ rb := fun g hg e => by
  subst e
  obtain ⟨H, nx, mn, h1, _⟩ := hq.is
  exact own_row_neN ho h1 hne hg.symm
/-- the queue is pushed -/
theorem PS12.pushQ (h : PS12 w V rb pb ga v cv wv ask L M C) (hq : QIn V' rb L') (hg : V.grownBy V' (some rb)) : PS12 w V' rb pb ga v cv wv ask L' M C := by
  have hb : ∀ k, k < V.heap.size → k ≠ rb → V'.heap[k]? = V.heap[k]? := fun k hk hne => hg.block k hk (fun e => hne (Option.some.inj e))
  have hpr := qrow_ne h.q h.m.row (by decide)
  exact ⟨h.b.grown hg h.b.size (fun k hk => by cases hk; exact h.lo.1), hq,
    ⟨⟨(hb pb h.m.row.lt hpr).trans h.m.row.is⟩, own_keep h.m.own fun g hg' => hb g (h.m.own.lt g hg').2 (qown_ne h.q h.m.own (by decide) g hg'), h.m.h32, h.m.q⟩,
    h.c.keep (fun cb l hne hq' => hb cb hq'.lt hne) (fun l ho g hg' => hb g (ho.lt g hg').2 (qown_ne h.q ho (by decide) g hg')), ⟨(hb ga h.a.lt (qrow_ne h.q h.a (by decide))).trans h.a.is⟩, h.lo⟩
/-- the reference is pushed -/
theorem PS12.pushM (h : PS12 w V rb pb ga v cv wv ask L M C) (hm : RQ12 V' pb w.heap.size v' M') (hg : V.grownBy V' (some pb)) : PS12 w V' rb pb ga v' cv wv ask L M' C := by
  have hb : ∀ k, k < V.heap.size → k ≠ pb → V'.heap[k]? = V.heap[k]? := fun k hk hne => hg.block k hk (fun e => hne (Option.some.inj e))
  have hq : ∀ cb l, QIn V cb l → cb ≠ pb := fun cb l hq e => qrow_ne hq h.m.row (by decide) e.symm
  have ho : ∀ (l : List (List Int)) (u : Value), V.ownsRow w.heap.size 25 32 u l.length (bv l.flatten) → ∀ g, u.ownBlock = some g → g ≠ pb := fun l u ho g hg' e => by
    subst e
    exact own_row_neN ho h.m.row (by decide) hg'.symm
  exact ⟨h.b.grown hg h.b.size (fun k hk => by cases hk; exact h.lo.2), h.q.keep (hb rb h.q.lt (hq rb L h.q)), hm,
    h.c.keep (fun cb l _ hq' => hb cb hq'.lt (hq cb l hq')) (fun l ho' g hg' => hb g (ho'.lt g hg').2 (ho l _ ho' g hg')), ⟨(hb ga h.a.lt (row_ne12 h.a h.m.row (by decide))).trans h.a.is⟩, h.lo⟩
/-- the copy is made -/
theorem PS12.copied {V1 : World} {cb : Nat} {wv' cv0 : Value} {C0 : Option (List (List Int))} (h : PS12 w V rb pb ga v cv0 wv ask L L C0) (hb1 : Below V.heap.size V V1) (hq : QIn V1 cb L) (hcb : V.heap.size ≤ cb) (hb2 : Below V1.heap.size V1 V') (ho : V'.ownsRow w.heap.size 25 32 wv' L.length (bv L.flatten)) : PS12 w V' rb pb ga v (.pointer (some ⟨cb, 0, none⟩)) wv' ask L L (some L) := by
  have hs := (h.below hb1).below hb2
  have := h.q.lt
  exact ⟨hs.b, hs.q, hs.m, ⟨cb, rfl, by omega, hq.below hb2, ho, h.m.h32⟩, hs.a, hs.lo⟩
end
end Go.Proofs.Ytigmaehlplldgaa

/-
  Of part PlayWalk12: what is needed here.
-/
namespace Go.Proofs.Ytigmaehlplldgaa
open Go.RowKit
set_option linter.unusedVariables false
set_option maxRecDepth 100000
theorem built_r0 : Try.prog.built 32 [] = some ([Value.slice none 0 0] : List Value).toArray := by kernel_rfl
theorem len_q (rb : Nat) (L : List (List Int)) (V : World) (h : QIn V rb L) (k : Nat) : Calls Try.prog 12 #[.pointer (some ⟨rb, 0, none⟩)] (V.drewN k) fun e w' => e = .returned (.int .i64 L.length) ∧ w' = V.drewN k :=
  (len_ rb L _ (h.below (below_drewN (Below.refl _ _) k))).mono fun _ _ ⟨h1, h2⟩ => ⟨h1, h2.symm⟩
theorem age_any (rb : Nat) (L : List (List Int)) (x : List Int) (V : World) (hq : QIn V rb L) (hx : x.length = 32) : Calls Try.prog 13 #[.pointer (some ⟨rb, 0, none⟩), .agg (bv x).toArray] V fun e w' => e = .returned (.tuple #[.int .i64 (ageN L x), .bool (decide (x ∈ L))]) ∧ Below V.heap.size V w' :=
  (age_ rb L x V hq hx).mono fun _ _ ⟨h1, h2⟩ => ⟨h1, h2⟩
theorem refAge_any (pb base : Nat) (v : Value) (L : List (List Int)) (x : List Int) (V : World) (hq : RQ12 V pb base v L) (hx : x.length = 32) : Calls Try.prog 14 #[.pointer (some ⟨pb, 0, none⟩), .agg (bv x).toArray] V fun e w' => e = .returned (.tuple #[.int .i64 (ageN L x), .bool (decide (x ∈ L))]) ∧ Below V.heap.size V w' :=
  (refAge pb base v L x V hq hx).mono fun _ _ ⟨h1, h2⟩ => ⟨h1, h2⟩
theorem refPush_any (pb base : Nat) (v : Value) (L : List (List Int)) (x : List Int) (V : World) (hq : RQ12 V pb base v L) (hx : x.length = 32) (hb : base ≤ V.heap.size) : Calls Try.prog 11 #[.pointer (some ⟨pb, 0, none⟩), .agg (bv x).toArray] V fun e w' => e = .returned (.tuple #[.agg (bv (fallL L x)).toArray, .bool (fell12 L x).isSome, .int .i64 (errP L x)]) ∧ ∃ v', RQ12 w' pb base v' (push12 L x) ∧ V.grownBy w' (some pb) :=
  (refPush12 pb base v L x V hq hx hb).mono fun _ _ ⟨h1, h2⟩ => ⟨h1, h2⟩
theorem fallL_len {L : List (List Int)} {x : List Int} (h : ∀ y ∈ L, y.length = 32) : (fallL L x).length = 32 := by
  unfold fallL fell12
  split
  · rfl
  · cases hy : L[149]? with
    | none => rfl
    | some y => exact h y (List.mem_of_getElem? hy)
theorem hash_neq_same {x : List Int} (hx : x.length = 32) (w : World) : (binOp .neq 25 (.agg (bv x).toArray) (.agg (bv x).toArray)).run Try.prog w = .ok (.bool false) w := by
  rw [hash_neq hx hx, decide_eq_true rfl]
  rfl
set_option maxHeartbeats 16000000 in
theorem play_walk12 (A : Option Addr) (n c : Nat) (zs : List Int) (a : Int) (ask : List Int) (w : World) (hz : CameIn .u16 w A n c zs) (a0 : 0 ≤ a) (a1 : a < 65536) (hl : ask.length = 32) : Calls Try.prog 3 #[.slice A n c, .int .u16 a, .agg (bv ask).toArray] w fun e w' => e = .returned (.bool true) ∧ Below w.heap.size w w' := by
  have hcm := hz.max
  have hnc := hz.cap
  unfold maxLen at hcm
  have HZS := Lib.hid (size_hash' zero12_len)
  have HSA := Lib.hid (size_hash' hl)
  have HL := Lib.hid hl
  have hb0 := (Below.refl w.heap.size w).alloc (Nat.le_refl _) (.cells (bv ask).toArray 25)
  have HB0 := Lib.hid hb0
  have RA0 := Lib.hid (Row.new w 25 (bv ask))
  have HZ := Lib.hid hz
  clear hb0 hz hl
  by_cases h5 : 500 < n
  · have h5' : (500 : Int) < n := by omega
    go_enter Try.func3, Try.ntmps3
    go_wp2_with fail
    refine (lives12 _).mono ?_
    rintro e w2 ⟨rfl, hb⟩
    have HB := Lib.hid (HB0.out.trans (hb.mono HB0.out.size))
    clear hb
    go_wp2_with fail
    go_ret
    exact ⟨rfl, HB.out⟩
  have h5' : ¬ (500 : Int) < n := by omega
  obtain ⟨ga, hga⟩ : ∃ ga, ga = w.heap.size := ⟨_, rfl⟩
  have HGA : Hid (w.heap.size = ga) := Lib.hid hga.symm
  have RA : Hid (Row (w.alloc (.cells (bv ask).toArray 25)) ga 25 (bv ask)) := Lib.hid (by rw [hga]; exact RA0.out)
  clear hga RA0
  generalize hW0 : w.alloc (.cells (bv ask).toArray 25) = W0 at *
  have HW0 := Lib.hid hW0
  clear hW0
  go_enter Try.func3, Try.ntmps3
  go_wp2_with fail
  rw [HW0.out, HGA.out]
  clear HW0 HGA
  refine (new_ _).mono ?_
  rintro e w1 ⟨rfl, hq1, hb1⟩
  have B1 := Lib.hid (HB0.out.trans (hb1.mono HB0.out.size))
  have RA1 := Lib.hid (RA.out.below hb1 RA.out.lt)
  have Q1 := Lib.hid hq1
  have HLO : Hid (w.heap.size ≤ W0.heap.size) := Lib.hid HB0.out.size
  obtain ⟨rb, hrb⟩ : ∃ rb, rb = W0.heap.size := ⟨_, rfl⟩
  rw [← hrb] at Q1 HLO ⊢
  clear hq1 hb1 hrb RA HB0
  go_upto_region 8 with (first
    | ((with_reducible show wpList _ _ _ ({ dst := some 33, op := Op.build _ _, type := _, pos := _, after := _, guard := _ } :: _) _ _); go_must (refine wpList_plain rfl fun K hK => wp_built _ _ _ rfl (by simp only [List.map_toArray, List.map_nil]; exact built_r0) (hK _ _ ?_)))
    | ((with_reducible show wpList _ _ _ ({ dst := some 34, op := Op.box _ _, type := _, pos := _, after := _, guard := _ } :: _) _ _); go_must (refine wpList_box_new rfl 32 (.tmp 33) rfl [Value.slice none 0 0] ?_ ?_; go_simp)))
  -- the first loop
  have PB := Lib.hid (Nat.le_refl w1.heap.size)
  obtain ⟨pb, hpb⟩ : ∃ pb, pb = w1.heap.size := ⟨_, rfl⟩
  have P0 : Hid (PS12 w (w1.alloc (.cells ([Value.slice none 0 0] : List Value).toArray 32)) rb pb ga (.slice none 0 0) (.pointer none) (.slice none 0 0) ask [] [] none) := Lib.hid
    ⟨B1.out.alloc B1.out.size _, Q1.out.below ((Below.refl _ _).alloc (Nat.le_refl _) _), ⟨by rw [hpb]; exact Row.new w1 _ _, own_nilN _ _ _ _, by simp, q12_nil⟩, ⟨rfl, rfl⟩, RA1.out.alloc _, HLO.out, by rw [hpb]; exact B1.out.size⟩
  rw [← hpb]
  clear hpb B1 RA1 Q1 HLO PB
  generalize w1.alloc (.cells ([Value.slice none 0 0] : List Value).toArray 32) = W2 at *
  obtain ⟨ai, hai⟩ : ∃ ai : Nat, ai = a.toNat % n := ⟨_, rfl⟩
  have HAI : Hid ((ai : Int) = a % n) := Lib.hid (by rw [hai, Int.natCast_emod, Int.toNat_of_nonneg a0])
  clear hai
  have HLW := Lib.hid (fun (L : List (List Int)) (h : Q12 L) => h.few)
  go_loopw [9, 10, 11] (fun s9 s10 i wr => ∃ (k : Nat) (v : Value) (L : List (List Int)) (C : Option (List (List Int))), k ≤ n ∧ i = .int .i64 k ∧ PS12 w wr rb pb ga v s9 s10 ask L L C ∧ Hid ((k ≤ ai ∧ C = none) ∨ (ai < k ∧ C ≠ none))) (fun _ _ i _ => n - (intOf i).toNat)
  case atStart => exact ⟨0, _, _, _, by omega, rfl, P0.out, Lib.hid (.inl ⟨by omega, rfl⟩)⟩
  case round =>
    obtain ⟨k, v, L, C, hk, rfl, hps, HC⟩ := hrel
    have P1 := Lib.hid hps
    clear hps P0
    by_cases hlt : k < n
    · have hlt' : (k : Int) < n := by omega
      have hn0 : (0 : Int) < n := by omega
      obtain ⟨ad, hadr, hab, hzc⟩ : ∃ ad, A = some ad ∧ ad.block < w.heap.size ∧ w.cell? (ad.add k) = some (.int .u16 (zs.getD k 0)) := by
        obtain ⟨ad, u, e1, e2, e3, e4⟩ := HZ.out.sees.at_ hlt
        have hzl : k < zs.length := by have := (List.getElem?_eq_some_iff.1 e3).1; rwa [cv_length] at this
        refine ⟨ad, e1, e2, ?_⟩
        rw [e4, ← e3]
        simp [cv, List.getElem?_eq_getElem hzl, List.getD_eq_getElem?_getD]
      have hzw : 0 ≤ zs.getD k 0 ∧ zs.getD k 0 < 65536 := by
        obtain ⟨_, u, _, _, e3, _⟩ := HZ.out.sees.at_ hlt
        have hzl : k < zs.length := by have := (List.getElem?_eq_some_iff.1 e3).1; rwa [cv_length] at this
        rw [List.getD_eq_getElem?_getD, List.getElem?_eq_getElem hzl]
        exact u16_wf12 (HZ.out.wf _ (List.getElem_mem hzl))
      have HZC : Hid (∀ V, Below w.heap.size w V → V.cell? (ad.add k) = some (.int .u16 (zs.getD k 0))) := Lib.hid fun V hV => (hV.cell (by rw [addr_block]; exact hab)).trans hzc
      subst hadr
      clear hab hzc
      have HZW := Lib.hid hzw
      clear hzw
      generalize zs.getD k 0 = z at *
      go_upto_if 47 with fail
      go_cut [9, 10] (fun s9 s10 wx => ∃ C, PS12 w wx rb pb ga v s9 s10 ask L L C ∧ Hid ((k + 1 ≤ ai ∧ C = none) ∨ (ai < k + 1 ∧ C ≠ none)))
      case first =>
        by_cases hka : k = ai
        · have hq2 : ((k : Int) == a % n) = true := by
            rw [hka, HAI.out]
            simp
          have HKA := Lib.hid hka
          clear hka
          go_wp2_with fail
          refine (copy_ rb L _ P1.out.q).mono ?_
          rintro e w3 ⟨rfl, hq3, hb3⟩
          obtain ⟨AA, cc, hvv, hkk, hcc, hcm2⟩ := P1.out.m.form
          have P2 := Lib.hid (P1.out.below hb3)
          have Q3 := Lib.hid hq3
          have B3 := Lib.hid hb3
          have hfw := P1.out.q.q.few
          subst hvv
          obtain ⟨_, _, hvv2, hkk2, _, _⟩ := P2.out.m.form
          cases hvv2
          have K2 := Lib.hid hkk2.sees
          have hc54 := P2.out.m.row.cell 0
          have hnone : C = none := by
            rcases HC.out with h1 | h1
            · exact h1.2
            · have := HKA.out
              omega
          subst hnone
          obtain ⟨hcv, hwv⟩ := P1.out.c
          subst hcv
          subst hwv
          obtain ⟨cb, hcb⟩ : ∃ cb, cb = wr.heap.size := ⟨_, rfl⟩
          have HCB : Hid (wr.heap.size ≤ cb) := Lib.hid (Nat.le_of_eq hcb.symm)
          rw [← hcb] at Q3 ⊢
          clear hcb hb3 hq3 hkk hkk2
          go_wp2_with ((with_reducible show wpList _ _ _ ({ dst := some 55, op := Op.call _, type := _, pos := _, after := _, guard := _ } :: _) _ _); go_must (refine wpList_appendN rfl (.tmp 50) (.tmp 54) 30 25 _ 32 32 rfl Try.underlying30 info_h12 (by kernel_rfl) (by omega) (.slice none 0 0) 0 [] w.heap.size _ AA L.length cc (bv L.flatten) ?_ (own_nilN _ _ _ _) ?_ K2.out (bv_one _) (by unfold maxLen; omega) (by omega) P2.out.b.size ?_; go_simp; go_simp; intro v4 w4 ho4 hg4; rw [Nat.zero_add, List.nil_append] at ho4; have O4 := Lib.hid ho4; have B4 : Hid (Below w3.heap.size w3 w4) := Lib.hid ((Below.refl _ _).grown hg4.grown (Nat.le_refl _) (fun k hk => by cases hk)); clear ho4 hg4))
          have P4 := Lib.hid (P1.out.copied B3.out Q3.out HCB.out B4.out O4.out)
          clear hc54
          go_meet
          exact ⟨_, P4.out, Lib.hid (.inr ⟨by have := HKA.out; omega, by simp⟩)⟩
        · have hq : ¬ (k : Int) = a % n := by
            rw [← HAI.out]
            omega
          have hq2 : ((k : Int) == a % n) = false := by simpa using hq
          clear hq
          have HC2 : Hid ((k + 1 ≤ ai ∧ C = none) ∨ (ai < k + 1 ∧ C ≠ none)) := Lib.hid (by
            rcases HC.out with h1 | h1
            · exact .inl ⟨by omega, h1.2⟩
            · exact .inr ⟨by omega, h1.2⟩)
          go_wp2_with fail
          go_meet
          exact ⟨C, P1.out, HC2⟩
      case rest =>
        obtain ⟨C', hps, HC'⟩ := hcut
        have P2 := Lib.hid hps
        have hcz := HZC.out wc P2.out.b
        clear hps P1 HC
        go_wp2_with fail
        refine (hash_ z _ HZW.out.1 HZW.out.2).mono ?_
        rintro e w3 ⟨rfl, hb⟩
        have P3 := Lib.hid (P2.out.below hb)
        clear hb P2 hcz
        go_wp2_with fail
        have HFL := Lib.hid (fallL_len (x := hashL z) P3.out.m.h32)
        have HFZ := Lib.hid (size_hash' HFL.out)
        have HFS : Hid ((bv zero12).toArray.size = (bv (fallL L (hashL z))).length) := Lib.hid (by rw [List.size_toArray, bv_length, bv_length, HFL.out]; rfl)
        have HPM := Lib.hid (fun V vv hq hb => refPush_any pb w.heap.size vv L (hashL z) V hq rfl hb)
        have NFF := Lib.hid (hash_neq_same HFL.out)
        refine (push_any rb _ (hashL z) _ P3.out.q rfl).mono ?_
        rintro e w4 ⟨rfl, hq, hg⟩
        have P4 := Lib.hid (P3.out.pushQ hq hg)
        clear hq hg P3
        generalize fallL L (hashL z) = fl at *
        generalize (fell12 L (hashL z)).isSome = bb at *
        generalize errP L (hashL z) = ee at *
        go_upto_region 14 with (first
          | ((with_reducible show wpList _ _ _ ({ dst := some 12, op := Op.alloc _, type := _, pos := _, after := _, guard := _ } :: _) _ _); go_must (refine wpList_alloc_zero rfl 25 rfl (bv zero12) zero_h ?_))
          | ((with_reducible show wpList _ _ _ ({ dst := none, op := Op.store 25 _ _, type := _, pos := _, after := _, guard := _ } :: _) _ _); go_must (refine wpList_store_new rfl 25 (.tmp 12) (.tmp 64) rfl (bv fl) HFZ.out (bv_one _) HFS.out ?_ ?_ ?_; go_simp; go_simp; intro w5 hr hbn hz; have F12 := Lib.hid hr; have HB := Lib.hid hbn; clear hr hbn hz)))
        have P5 := Lib.hid (P4.out.below HB.out)
        have hcz := HZC.out w5 P5.out.b
        clear HB P4
        go_wp2_with fail
        refine (hash_ z _ HZW.out.1 HZW.out.2).mono ?_
        rintro e w6 ⟨rfl, hb⟩
        have P6 := Lib.hid (P5.out.below hb)
        have FA := Lib.hid (F12.out.below hb F12.out.lt)
        clear hb P5 F12 hcz
        go_wp2_with fail
        refine (HPM.out _ v P6.out.m P6.out.b.size).mono ?_
        rintro e w7 ⟨rfl, v', hm, hg⟩
        have P7 := Lib.hid (P6.out.pushM hm hg)
        have FB := Lib.hid (FA.out.grown hg (fun e => row_ne12 FA.out P6.out.m.row (by decide) (Option.some.inj e)))
        clear hm hg P6 FA
        go_wp2_with (first
          | ((with_reducible show wpList _ _ _ ({ dst := some 15, op := Op.alloc _, type := _, pos := _, after := _, guard := _ } :: _) _ _); go_must (refine wpList_alloc_zero rfl 25 rfl (bv zero12) zero_h ?_))
          | ((with_reducible show wpList _ _ _ ({ dst := none, op := Op.store 25 _ _, type := _, pos := _, after := _, guard := _ } :: _) _ _); go_must (refine wpList_store_new rfl 25 (.tmp 15) (.tmp 75) rfl (bv fl) HFZ.out (bv_one _) HFS.out ?_ ?_ ?_; go_simp; go_simp; intro w8 hr hbn hz; have F15 := Lib.hid hr; have HB := Lib.hid hbn; clear hr hbn hz)))
        have P8 := Lib.hid (P7.out.below HB.out)
        have FC := Lib.hid (FB.out.below HB.out FB.out.lt)
        clear HB P7 FB
        generalize push12 L (hashL z) = L2 at *
        obtain ⟨AA, cc, hvv, _, _, _⟩ := P8.out.m.form
        subst hvv
        have hc97 := P8.out.m.row.cell 0
        have HLQ := Lib.hid (fun j => len_q rb L2 w8 P8.out.q j)
        have NF := NFF.out
        refine wp_region_quiet_lit (by kernel_rfl) (by kernel_rfl) ?_
        repeat (first
          | ((with_reducible show wpQuiet _ _ _ _ ({ dst := some 78, op := Op.load _ _, type := _, pos := _, after := _, guard := _ } :: _) _); go_must (refine quiet_load_at (by kernel_rfl) 25 (.tmp 12) rfl ⟨w4.heap.size, 0, none⟩ (bv fl) _ Try.underlying25 rfl HFZ.out (by rintro _ ⟨nq, rfl⟩; intro j u hu; rw [addr_row, Nat.zero_add]; exact (FC.out.cell j).trans hu) ?_ ?_; go_simp; go_simp))
          | ((with_reducible show wpQuiet _ _ _ _ ({ dst := some 79, op := Op.load _ _, type := _, pos := _, after := _, guard := _ } :: _) _); go_must (refine quiet_load_at (by kernel_rfl) 25 (.tmp 15) rfl ⟨w7.heap.size, 0, none⟩ (bv fl) _ Try.underlying25 rfl HFZ.out (by rintro _ ⟨nq, rfl⟩; intro j u hu; rw [addr_row, Nat.zero_add]; exact (F15.out.cell j).trans hu) ?_ ?_; go_simp; go_simp))
          | go_big_quiet_step ((go_at_call 12; with_reducible refine Calls.quiet_of_same (HLQ.out _))))
        refine wpQuiet_nil ?_
        intro nq
        clear NF hc97 HLQ
        go_wp2_with fail
        have P9 := Lib.hid (P8.out.drewN nq)
        go_roundw
        case rel => exact ⟨k + 1, _, L2, C', by omega, by go_num, P9.out, HC'⟩
        case measure => simp [intOf]; omega
    · have hlt' : ¬ (k : Int) < n := by omega
      obtain rfl : k = n := by omega
      obtain ⟨AA, cc, hvv, _, _, hcc⟩ := P1.out.m.form
      subst hvv
      have hll := P1.out.m.q.few
      clear hcc
      have HLL : Hid (L.length = L.length) := Lib.hid rfl
      obtain ⟨m, hm⟩ : ∃ m, m = L.length := ⟨_, rfl⟩
      have HM : Hid (L.length = m) := Lib.hid hm.symm
      rw [← hm] at hll P1
      clear hm HLL
      go_wp2_with fail
      go_loopw [18, 19, 20] (fun i _ _ wr => ∃ j : Nat, j ≤ m ∧ i = .int .i64 j ∧ PS12 w wr rb pb ga (.slice AA m cc) u9 u10 ask L L C) (fun i _ _ _ => m - (intOf i).toNat)
      case atStart => exact ⟨0, by omega, rfl, P1.out⟩
      case round =>
        obtain ⟨j, hj, rfl, hps⟩ := hrel
        have P2 := Lib.hid hps
        clear hps P1
        have hc0 := P2.out.m.row.cell 0
        by_cases hlj : j < m
        · have hlj' : (j : Int) < m := by omega
          obtain ⟨ax, y, hax, hab, hy, hka⟩ := P2.out.m.keys.get hlj
          have HYZ := Lib.hid (size_hash' hka.len)
          have HCY := Lib.hid hka.cells
          have HAG := Lib.hid (age_at rb L y _ P2.out.q hka.len hy)
          subst hax
          clear hab hy hka
          go_wp2_with ((with_reducible show wpList _ _ _ ({ dst := some 118, op := Op.load 25 _, type := _, pos := _, after := _, guard := _ } :: _) _ _); go_must (refine wpList_load_at rfl 25 (.tmp 117) rfl (ax.add (j * 32)) (bv y) _ Try.underlying25 rfl HYZ.out HCY.out ?_ ?_; go_simp))
          refine HAG.out.mono ?_
          rintro e w3 ⟨rfl, hb⟩
          have P3 := Lib.hid (P2.out.below hb)
          clear hb HAG HCY HYZ P2 hc0
          go_wp2_with fail
          go_roundw
          case rel => exact ⟨j + 1, by omega, by go_num, P3.out⟩
          case measure => simp [intOf]; omega
        · have hlj' : ¬ (j : Int) < m := by omega
          go_wp2_with ((with_reducible show wpList _ _ _ ({ dst := some 131, op := Op.load 25 _, type := _, pos := _, after := _, guard := _ } :: _) _ _); go_must (refine wpList_load_whole rfl 25 (.tmp 5) rfl ga 25 (bv ask) _ Try.underlying25 rfl HSA.out P2.out.a ?_ ?_; go_simp))
          refine (age_any rb L ask _ P2.out.q HL.out).mono ?_
          rintro e w3 ⟨rfl, hb⟩
          have P3 := Lib.hid (P2.out.below hb)
          clear hb P2 hc0
          generalize hag : ageN L ask = ag at *
          have HAG := Lib.hid hag
          clear hag
          go_wp2_with ((with_reducible show wpList _ _ _ ({ dst := some 137, op := Op.load 25 _, type := _, pos := _, after := _, guard := _ } :: _) _ _); go_must (refine wpList_load_whole rfl 25 (.tmp 5) rfl ga 25 (bv ask) _ Try.underlying25 rfl HSA.out P3.out.a ?_ ?_; go_simp))
          refine (refAge_any pb w.heap.size _ L ask _ P3.out.m HL.out).mono ?_
          rintro e w4 ⟨rfl, hb⟩
          have P4 := Lib.hid (P3.out.below hb)
          clear hb P3
          rw [HAG.out]
          clear HAG
          generalize decide (ask ∈ L) = dd at *
          by_cases hk0 : k = 0
          · have hnone : C = none := by
              rcases HC.out with h1 | h1
              · exact h1.2
              · omega
            subst hnone
            obtain ⟨hcv, hwv⟩ := P4.out.c
            subst hcv
            subst hwv
            have hk1 : ((k : Int) == 0) = true := by simpa using hk0
            have hk2 : (k : Int) = 0 := by omega
            clear hk0
            go_wp2_with fail
            refine (lives12 _).mono ?_
            rintro e w9 ⟨rfl, hb9⟩
            have B9 := Lib.hid (P4.out.b.trans (hb9.mono P4.out.b.size))
            clear hb9
            go_wp2_with fail
            go_ret
            exact ⟨rfl, B9.out⟩
          · have hk1 : ¬ (k : Int) = 0 := by omega
            have hai := HAI.out
            have hlt9 : a % (k : Int) < k := Int.emod_lt_of_pos _ (by omega)
            have hC : C ≠ none := by
              rcases HC.out with h1 | h1
              · omega
              · exact h1.2
            clear hai hlt9
            obtain ⟨Lc, rfl⟩ := Option.ne_none_iff_exists'.1 hC
            obtain ⟨cb, hcv, hne, hqc, hoc, h32c⟩ := P4.out.c
            obtain ⟨A2, c2, hwv, _, _, hc2, _⟩ := own_form2 hoc
            subst hcv
            subst hwv
            clear hC hne hqc hoc h32c
            have hfc : Lc.length ≤ 150 := by
              obtain ⟨cb', hcv', _, hqc, _⟩ := P4.out.c
              exact hqc.q.few
            unfold maxLen at hc2
            generalize hn2 : Lc.length = n2 at *
            have HN2 := Lib.hid hn2
            clear hn2 HC HAI
            go_wp2_with fail
            go_loopw [25, 26, 27] (fun i _ _ wr => ∃ j : Nat, j ≤ n2 ∧ i = .int .i64 j ∧ PS12 w wr rb pb ga (.slice AA m cc) (.pointer (some ⟨cb, 0, none⟩)) (.slice A2 n2 c2) ask L L (some Lc)) (fun i _ _ _ => n2 - (intOf i).toNat)
            case atStart => exact ⟨0, by omega, rfl, P4.out⟩
            case round =>
              obtain ⟨j, hj, rfl, hps⟩ := hrel
              have P5 := Lib.hid hps
              clear hps P4
              obtain ⟨cb', hcv, _, hqc, hoc, h32c⟩ := P5.out.c
              cases hcv
              have QC := Lib.hid hqc
              have KC := Lib.hid (keysOwn12 hoc h32c)
              clear hqc hoc h32c
              by_cases hlj : j < n2
              · have hlj' : (j : Int) < n2 := by omega
                obtain ⟨ax, y, hax, hab, hy, hka⟩ := KC.out.get hlj
                have HYZ := Lib.hid (size_hash' hka.len)
                have HCY := Lib.hid hka.cells
                have HAG := Lib.hid (age_at cb Lc y _ QC.out hka.len hy)
                subst hax
                clear hab hy hka
                go_wp2_with ((with_reducible show wpList _ _ _ ({ dst := some 168, op := Op.load 25 _, type := _, pos := _, after := _, guard := _ } :: _) _ _); go_must (refine wpList_load_at rfl 25 (.tmp 167) rfl (ax.add (j * 32)) (bv y) _ Try.underlying25 rfl HYZ.out HCY.out ?_ ?_; go_simp))
                refine HAG.out.mono ?_
                rintro e w3 ⟨rfl, hb⟩
                have P6 := Lib.hid (P5.out.below hb)
                clear hb HAG HCY HYZ P5 QC KC
                go_wp2_with fail
                go_roundw
                case rel => exact ⟨j + 1, by omega, by go_num, P6.out⟩
                case measure => simp [intOf]; omega
              · have hlj' : ¬ (j : Int) < n2 := by omega
                go_wp2_with fail
                refine (len_ cb Lc _ QC.out).mono ?_
                rintro e w' ⟨rfl, rfl⟩
                rw [HN2.out]
                go_wp2_with fail
                refine (lives12 _).mono ?_
                rintro e w9 ⟨rfl, hb9⟩
                have B9 := Lib.hid (P5.out.b.trans (hb9.mono P5.out.b.size))
                clear hb9
                go_wp2_with fail
                go_ret
                exact ⟨rfl, B9.out⟩
end Go.Proofs.Ytigmaehlplldgaa
