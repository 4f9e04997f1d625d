/-
  Parts joined: Lives16 Use15 Open16 Great16 Stores16 SameOuts16 Same13.
-/
import Derived.Below
import Derived.Laws.OwnMore
import Derived.Deep.AppendLies
import Derived.Deep.Draws
import Derived.Lib.Hide
import Derived.Laws.MakeOwn
import Derived.Laws.CopyOwn
import Derived.Laws.Rows
import Derived.Maps.AppendAt
import Derived.OwnWalk
import Derived.Laws.BitsAllLaws
import Derived.WalkKit
import Derived.Test.YtfaefpniiiandaaDoorRows
import Derived.WalkSpells
import Derived.WalkLawsBesides
import Derived.IntWalk
import Derived.Deep.MidRow
import Derived.Deep.WholeRow
import Derived.Great.BuildSlice
import Derived.Recover
import Derived.Deep.RegionHeld
import Derived.Deep.QuietTactic
import Derived.BigQuiet
import Derived.ChangeKeysEq
import Derived.Deep.RegionHeld2
import Derived.Deep.CutBlock
import Derived.Laws.Tables
import Derived.ProofKit
import Derived.OpenShut
import Derived.ShutString
import Derived.ChangeOld
import Derived.Lib.SmallJoins
import Derived.Deep.Slices
import Derived.Deep.Strs
import Derived.SizedLaws
import Derived.Laws.StructEq
import Derived.Laws.Slices
import Derived.Deep.DeepCutAuto
import Derived.Maps.OwnSet
import Derived.DeepKeys4
import Derived.WideKeyArr
import Derived.Laws.EntriesVeiled
import Derived.Deep.RegionHeld3
import Derived.WideKeyEntry
import Derived.WalkMore
import Derived.Maps.RangeWalk
import Derived.Shelf.SlMaps.Clone
import Derived.Laws.Append
import Derived.Laws.AppendOwn
import Derived.LaidMore
import Derived.Maps.OwnOps
import Derived.Laws.BytesArg
import Derived.Laws.Strings
import Derived.Lib.Strings
import Derived.Great.Walk
import Derived.Laws.Bits64b
import Derived.Laws.Externs
import Derived.LaidHandle
import Derived.LaidLaws
import Derived.RangeFuncOwn
import Derived.LaidEql
import Derived.Stop.Asserts
import Derived.RowKitTokens
import Derived.RangeFuncNested
import Derived.RangeFuncBound
import Derived.RangeFuncCalls
import Derived.RangeFuncLeaves
import Derived.Shelf.Abstract
import Derived.Shelf.RegionOpen
import Derived.OwnWalkIn
import Derived.TacticsInMore
import Derived.LoopNIn
import Derived.LoopIn
import Derived.Lib.Mul64
import Derived.Lib.BitFns
import Derived.Laws.NewBlocks
import Derived.Shelf.Small.Bits
import Derived.Scope
import Derived.Test.YtfaefpniiiandaaDoorQ1
import Derived.Test.YtfaefpniiiandaaDoorQ2
import Derived.Test.YtfaefpniiiandaaDoorQ3
import Derived.Test.YtfaefpniiiandaaDoorQ4
import Derived.Test.YtfaefpniiiandaaDoorQ5
import Derived.Test.YtfaefpniiiandaaDoorQ6
import Derived.Test.YtfaefpniiiandaaDoorQ7
import Derived.Test.YtfaefpniiiandaaDoorQ8
import Derived.Test.YtfaefpniiiandaaDoorQ9
import Derived.Test.YtfaefpniiiandaaDoorQ10
import Derived.Test.YtfaefpniiiandaaDoorQ11
import Derived.Test.YtfaefpniiiandaaDoorQ12
/-
  Of part Lives16: what is needed here.
-/
namespace Go.Proofs.YtfaefpniiiandaaDoor
open Go.RowKit
set_option linter.unusedVariables false
set_option maxRecDepth 100000
theorem info_rd16 : (Tryd.prog.info? 41).map (fun i => (i.zero, i.size, i.bytes)) = some (some (.agg zrdC.toArray), 48, 232) := by kernel_rfl
theorem zsz_rd16 : (Value.agg zrdC.toArray).cells.size = 48 := by kernel_rfl
theorem len_rdx16 (gi gr : Nat) : ((q15x gi gr).cells rd16x).length = 48 := by kernel_rfl
theorem rds_of16 {w : World} {B n : Nat} {A : Option Addr} {l : List (YRaw × LReady)} (hc : CsIn 48 w B A n (l.map fun p => p.1.cells p.2)) (he : ∀ (k : Nat) (p : YRaw × LReady), l[k]? = some p → ReadyIn w B p.1 p.2) : RdsIn w B A n l := by
  have hl : l.length = n := by have := hc.len; rwa [List.length_map] at this
  refine ⟨hl, he, fun k p hp => ?_⟩
  obtain ⟨a, x, e, hb, hx, _, hcs⟩ := hc.get (k := k) (by rw [← hl]; exact (List.getElem?_eq_some_iff.1 hp).1) (by omega)
  rw [List.getElem?_map, hp] at hx
  injection hx with hx
  subst hx
  exact ⟨a, e, hb, hcs⟩
theorem wp_field16 {o : Oper} {a : Act} {w : World} {K : Act → World → Prop} {Q : Exit → Act → World → Prop} (x : Operand) (ho : o.op = .field 59 x 0) (y : LAcc) (hx : a.eval x = .agg y.cells.toArray) (h : K (a.put o.dst (.int .u64 y.c)) w) : o.wp Tryd.prog a w K Q := by
  have hp : (part 37 y.cells.toArray 0).run Tryd.prog w = .ok (.int .u64 y.c) w := run_part_u64 _ 0 w rfl
  have hf : (execOp a.eval o).run Tryd.prog w = .ok (.value (.int .u64 y.c)) w := by
    unfold execOp
    rw [ho]
    simp only [hx]
    unfold Instr.field
    have h0 : y.cells.toArray[0]? = some (.int .u64 y.c) := rfl
    go_simp
    simp [asAgg, h0, Result.andThen]
  unfold Oper.wp
  rw [hf]
  exact h
def h16a : LHold := ⟨kx15 8, ac15x 12000⟩
def h16b : LHold := ⟨kx15 9, ac15x 3000⟩
def o16x : LOut := ⟨0, -1, 150, 5000, 0, [h16a, h16b]⟩
def s16a : List LHold := [h16a, h16b]
def s16b : List LHold := [⟨kx15 8, ac15x 20000⟩, h16b]
def f16x : F16 := fold16 [rd16x, rd16x, rd16x] ⟨[], 0, 0, s16b⟩
theorem apply16x : apply16 st15x rd16x = ((o16x, 0), s16a) := by kernel_rfl
theorem put16x : putH s16a (kx15 8) (ac15x 20000) = s16b := by kernel_rfl
theorem fold16x : f16x.outs.length = 2 ∧ f16x.fees = 10000 ∧ f16x.e = 22 ∧ getH f16x.L (kx15 8) = ac15x 4000 := by
  refine ⟨?_, ?_, ?_, ?_⟩ <;> kernel_rfl
theorem get16a : getH s16a (kx15 8) = ac15x 12000 := by kernel_rfl
theorem get16b : getH s16a (kx15 9) = ac15x 3000 := by kernel_rfl
theorem rdp16x (gi gr : Nat) : RdP16 (q15x gi gr) rd16x := ⟨⟨fun r hr => ro_ok15x r hr, fun a ha => by obtain rfl := List.mem_singleton.1 ha; exact ⟨acc_ok15x, dat_ok16x⟩, by decide⟩, fun a ha => by obtain rfl := List.mem_singleton.1 ha; exact ⟨by decide, by decide⟩, by decide, ⟨by simp [q15x], fun a ha => by obtain rfl := List.mem_singleton.1 ha; decide⟩, by simp [q15x]⟩
theorem len16x (k : Nat) : (sto16 s16b [(q15x 0 0, rd16x), (q15x 0 0, rd16x), (q15x 0 0, rd16x)] k).length ≤ 1000 := by
  match k with
  | 0 => decide +kernel
  | 1 => decide +kernel
  | 2 => decide +kernel
  | k + 3 => exact (by decide +kernel : (sto16 s16b [(q15x 0 0, rd16x), (q15x 0 0, rd16x), (q15x 0 0, rd16x)] 3).length ≤ 1000)
theorem sto_any16 (L : List LHold) (q : YRaw) (k : Nat) : sto16 L [(q, rd16x), (q, rd16x), (q, rd16x)] k = sto16 L [(q15x 0 0, rd16x), (q15x 0 0, rd16x), (q15x 0 0, rd16x)] k := by
  unfold sto16
  rw [List.map_take, List.map_take]
  rfl
set_option maxHeartbeats 16000000 in
theorem lives16 (w : World) (htw : TypAt w) : Calls Tryd.prog 18 #[] w fun e w' => e = .returned (.bool true) ∧ Below w.heap.size w w' := by
  have HT := Lib.hid htw
  have HA := Lib.hid built_ac15
  have HKN := Lib.hid built_kx8
  have HKM := Lib.hid built_kx9
  have HPUT := Lib.hid put15x
  have HAP := Lib.hid apply16x
  have HPU2 := Lib.hid put16x
  have HFX := Lib.hid fold16x
  have HGA := Lib.hid get16a
  have HGB := Lib.hid get16b
  clear htw
  go_enter Tryd.func18, Tryd.ntmps18
  go_upto_region 2 with (first
    | ((with_reducible show wpList _ _ _ ({ dst := some 10, op := Op.build _ _, type := _, pos := _, after := _, guard := _ } :: _) _ _); go_must (refine wpList_plain rfl fun K hK => wp_built _ _ _ rfl (by simp only [List.map_toArray, List.map_cons, List.map_nil]; exact HKN.out) (hK _ _ ?_)))
    | ((with_reducible show wpList _ _ _ ({ dst := none, op := Op.store 57 (.tmp 1) _, type := _, pos := _, after := _, guard := _ } :: _) _ _); go_must (refine wpList_store_new rfl 57 (.tmp 1) (.tmp 10) rfl (bv (kx15 8)) (by kernel_rfl) (bv_one _) rfl ?_ ?_ ?_; go_simp; go_simp; intro w1 hr1 hb1 hz1)))
  have R1 := Lib.hid hr1
  have B1 := Lib.hid hb1
  obtain ⟨g1, hg1⟩ : ∃ g, g = w.heap.size := ⟨_, rfl⟩
  rw [← hg1] at R1 ⊢
  have HG1 : Hid (w.heap.size ≤ g1) := Lib.hid (by omega)
  clear hr1 hb1 hz1 hg1
  go_upto_region 3 with (first
    | ((with_reducible show wpList _ _ _ ({ dst := some 11, op := Op.build _ _, type := _, pos := _, after := _, guard := _ } :: _) _ _); go_must (refine wpList_plain rfl fun K hK => wp_built _ _ _ rfl (by simp only [List.map_toArray, List.map_cons, List.map_nil]; exact HKM.out) (hK _ _ ?_)))
    | ((with_reducible show wpList _ _ _ ({ dst := none, op := Op.store 57 (.tmp 2) _, type := _, pos := _, after := _, guard := _ } :: _) _ _); go_must (refine wpList_store_new rfl 57 (.tmp 2) (.tmp 11) rfl (bv (kx15 9)) (by kernel_rfl) (bv_one _) rfl ?_ ?_ ?_; go_simp; go_simp; intro w2 hr2 hb2 hz2)))
  have R2 := Lib.hid hr2
  have HX0 : Hid (Below w1.heap.size w1 w2) := Lib.hid hb2
  obtain ⟨g2, hg2⟩ : ∃ g, g = w1.heap.size := ⟨_, rfl⟩
  rw [← hg2] at R2 ⊢
  have X2 : Hid (LX15 w w2 g1 g2) := Lib.hid ⟨B1.out.trans (HX0.out.mono B1.out.size), R1.out.below HX0.out R1.out.lt, R2.out, HG1.out, by rw [hg2]; exact B1.out.size⟩
  clear hr2 hb2 hz2 hg2 HX0 R1 R2 B1 HG1
  go_wp2_with (first
    | ((with_reducible show wpList _ _ _ ({ dst := some 12, op := Op.load _ _, type := _, pos := _, after := _, guard := _ } :: _) _ _); go_must (refine wpList_load_whole rfl 57 (.tmp 1) rfl g1 _ (bv (kx15 8)) _ Tryd.underlying57 rfl (by kernel_rfl) X2.out.r1 ?_ ?_; go_simp))
    | ((with_reducible show wpList _ _ _ ({ dst := some 13, op := Op.load _ _, type := _, pos := _, after := _, guard := _ } :: _) _ _); go_must (refine wpList_load_whole rfl 57 (.tmp 2) rfl g2 _ (bv (kx15 9)) _ Tryd.underlying57 rfl (by kernel_rfl) X2.out.r2 ?_ ?_; go_simp)))
  refine (move16 w2).mono ?_
  rintro e w3 ⟨gi, gr, rfl, hrd, hb3⟩
  have RD3 := Lib.hid hrd
  have X3 := Lib.hid (X2.out.below hb3)
  clear hrd hb3 X2
  go_upto_region 4 with (first
    | ((with_reducible show wpList _ _ _ ({ dst := some 3, op := Op.alloc _, type := _, pos := _, after := _, guard := _ } :: _) _ _); go_must (refine wpList_alloc_zero rfl 41 rfl zrdC zero_rdx ?_))
    | ((with_reducible show wpList _ _ _ ({ dst := none, op := Op.store 41 (.tmp 3) _, type := _, pos := _, after := _, guard := _ } :: _) _ _); go_must (refine wpList_store_new rfl 41 (.tmp 3) (.tmp 14) rfl ((q15x gi gr).cells rd16x) (size_rdx16 _ _) (one_rdx16 _ _) rfl ?_ ?_ ?_; go_simp; go_simp; intro w4 hr4 hb4 hz4)))
  have R4 := Lib.hid hr4
  have X4 := Lib.hid (X3.out.below hb4)
  have RD4 := Lib.hid ((RD3.out.below hb4).more hb4.size)
  obtain ⟨g3, hg3⟩ : ∃ g, g = w3.heap.size := ⟨_, rfl⟩
  rw [← hg3] at R4 ⊢
  clear hr4 hb4 hz4 hg3 X3 RD3
  go_wp2_with fail
  refine (new13 w4).mono ?_
  rintro e w5 ⟨sb, mb, rfl, hst, hsl, hml, hb5⟩
  have X5 := Lib.hid (X4.out.below hb5)
  have R5 := Lib.hid (R4.out.below hb5 R4.out.lt)
  have RD5 := Lib.hid (RD4.out.below hb5)
  have HML : Hid (w.heap.size ≤ mb ∧ g1 ≠ mb ∧ g2 ≠ mb ∧ w4.heap.size ≤ mb) := Lib.hid (by have h1 := X4.out.r1.lt; have h2 := X4.out.r2.lt; have h3 := X4.out.b.size; omega)
  have S5 := Lib.hid hst
  have H45 := Lib.hid hb5.size
  clear hst hsl hml hb5 X4 R4 RD4
  go_wp2_with (first
    | ((with_reducible show wpList _ _ _ ({ dst := some 17, op := Op.load _ _, type := _, pos := _, after := _, guard := _ } :: _) _ _); go_must (refine wpList_load_whole rfl 57 (.tmp 1) rfl g1 _ (bv (kx15 8)) _ Tryd.underlying57 rfl (by kernel_rfl) X5.out.r1 ?_ ?_; go_simp))
    | ((with_reducible show wpList _ _ _ ({ dst := some 18, op := Op.build _ _, type := _, pos := _, after := _, guard := _ } :: _) _ _); go_must (refine wpList_plain rfl fun K hK => wp_built _ _ _ rfl (by simp only [List.map_toArray, List.map_cons, List.map_nil]; exact HA.out 20000) (hK _ _ ?_)))
    | fail)
  refine (put13 sb mb [] (kx15 8) (ac15x 20000) w5 S5.out (kx_ok15 (by omega)) (ac_ok15x (by omega)) (by simp)).mono ?_
  rintro e w6 ⟨rfl, hst, hg6⟩
  rw [HPUT.out] at hst
  have S6 := Lib.hid hst
  have X6 := Lib.hid (X5.out.grown hg6 HML.out.1 HML.out.2.1 HML.out.2.2.1)
  have R6 := Lib.hid (R5.out.grown hg6 (fun e => S5.out.row_ne R5.out (Option.some.inj e)))
  have RD6 := Lib.hid (RD5.out.keep (keep16 S5.out S6.out hg6 H45.out))
  have H46 := Lib.hid (Nat.le_trans H45.out hg6.size)
  clear hst hg6 X5 R5 RD5 S5 HPUT H45
  have HAC := Lib.hid (applyC sb mb st15x (q15x gi gr) rd16x w4.heap.size w6 S6.out RD6.out (rdp16x gi gr) H46.out (by simp [st15x, q15x]) (HT.out.below X6.out.b HT.out.pos))
  rw [HAP.out] at HAC
  clear HAP
  go_wp2_with ((with_reducible show wpList _ _ _ ({ dst := some 22, op := Op.load _ _, type := _, pos := _, after := _, guard := _ } :: _) _ _); go_must (refine wpList_load_whole rfl 41 (.tmp 3) rfl g3 _ ((q15x gi gr).cells rd16x) _ Tryd.underlying41 rfl (size_rdx16 _ _) R6.out ?_ ?_; go_simp))
  refine HAC.out.mono ?_
  rintro e w7 ⟨A7, c7, rfl, ho7, hs7, hg7⟩
  have S7 := Lib.hid hs7
  have X7 := Lib.hid (X6.out.grown hg7 HML.out.1 HML.out.2.1 HML.out.2.2.1)
  have R7 := Lib.hid (R6.out.grown hg7 (fun e => S6.out.row_ne R6.out (Option.some.inj e)))
  have RD7 := Lib.hid (RD6.out.keep (keep16 S6.out S7.out hg7 H46.out))
  have H47 := Lib.hid (Nat.le_trans H46.out hg7.size)
  clear ho7 hs7 hg7 X6 R6 RD6 S6 HAC H46
  go_upto_region 7 with (first
    | ((with_reducible show wpList _ _ _ ({ dst := some 5, op := Op.alloc _, type := _, pos := _, after := _, guard := _ } :: _) _ _); go_must (refine wpList_alloc_zero rfl 54 rfl (out0.cells (.slice none 0 0)) zero_out15 ?_))
    | ((with_reducible show wpList _ _ _ ({ dst := none, op := Op.store 54 (.tmp 5) _, type := _, pos := _, after := _, guard := _ } :: _) _ _); go_must (refine wpList_store_new rfl 54 (.tmp 5) (.tmp 24) rfl (o16x.cells (.slice A7 o16x.ch.length o16x.ch.length)) (size_out15 _ _) (out_one15 _ rfl) rfl ?_ ?_ ?_; go_simp; go_simp; intro w8 hr8 hb8 hz8)))
  have R8 := Lib.hid hr8
  have S8 := Lib.hid (S7.out.below hb8)
  have X8 := Lib.hid (X7.out.below hb8)
  have R38 := Lib.hid (R7.out.below hb8 R7.out.lt)
  have RD8 := Lib.hid (RD7.out.below (hb8.mono H47.out))
  have H48 := Lib.hid (Nat.le_trans H47.out hb8.size)
  obtain ⟨g5, hg5⟩ : ∃ g, g = w7.heap.size := ⟨_, rfl⟩
  rw [← hg5] at R8 ⊢
  clear hr8 hb8 hz8 hg5 S7 X7 R7 RD7 H47
  have oc : w8.cell? ⟨g5, 3, none⟩ = some (.int .u64 5000) := R8.out.cell 3
  go_wp2_with (first
    | ((with_reducible show wpList _ _ _ ({ dst := some 35, op := Op.load _ _, type := _, pos := _, after := _, guard := _ } :: _) _ _); go_must (refine wpList_load_atg (by kernel_rfl) 57 (.tmp 2) rfl ⟨g2, 0, none⟩ (bv (kx15 9)) _ Tryd.underlying57 rfl (by kernel_rfl) (fun j v hv => by rw [addr_row, Nat.zero_add]; exact (X8.out.r2.cell j).trans hv) ?_ ?_; go_simp))
    | fail)
  refine (get13 sb mb s16a (kx15 9) w8 S8.out (kx_ok15 (by omega))).mono ?_
  rintro e w9 ⟨rfl, hb9⟩
  rw [HGB.out]
  have S9 := Lib.hid (S8.out.below hb9)
  have X9 := Lib.hid (X8.out.below hb9)
  have R39 := Lib.hid (R38.out.below hb9 R38.out.lt)
  have RD9 := Lib.hid (RD8.out.below (hb9.mono H48.out))
  have H49 := Lib.hid (Nat.le_trans H48.out hb9.size)
  clear hb9 S8 X8 R38 RD8 H48 oc R8
  go_wp2_with (first
    | ((with_reducible show wpList _ _ _ ({ dst := some 42, op := Op.load _ _, type := _, pos := _, after := _, guard := _ } :: _) _ _); go_must (refine wpList_load_atg (by kernel_rfl) 57 (.tmp 1) rfl ⟨g1, 0, none⟩ (bv (kx15 8)) _ Tryd.underlying57 rfl (by kernel_rfl) (fun j v hv => by rw [addr_row, Nat.zero_add]; exact (X9.out.r1.cell j).trans hv) ?_ ?_; go_simp))
    | ((with_reducible show wpList _ _ _ ({ dst := some 37, op := Op.field _ _ _, type := _, pos := _, after := _, guard := _ } :: _) _ _); go_must (refine BigFrame.wpList_want (by kernel_rfl) fun K hK => wp_field16 (.tmp 36) rfl (ac15x 3000) (by go_simp) (hK _ _ ?_)))
    | fail)
  refine (get13 sb mb s16a (kx15 8) w9 S9.out (kx_ok15 (by omega))).mono ?_
  rintro e w10 ⟨rfl, hb10⟩
  rw [HGA.out]
  have S10 := Lib.hid (S9.out.below hb10)
  have X10 := Lib.hid (X9.out.below hb10)
  have R310 := Lib.hid (R39.out.below hb10 R39.out.lt)
  have RD10 := Lib.hid (RD9.out.below (hb10.mono H49.out))
  have H410 := Lib.hid (Nat.le_trans H49.out hb10.size)
  clear hb10 S9 X9 R39 RD9 H49
  go_wp2_with (first
    | ((with_reducible show wpList _ _ _ ({ dst := some 44, op := Op.field _ _ _, type := _, pos := _, after := _, guard := _ } :: _) _ _); go_must (refine BigFrame.wpList_want (by kernel_rfl) fun K hK => wp_field16 (.tmp 43) rfl (ac15x 12000) (by go_simp) (hK _ _ ?_)))
    | ((with_reducible show wpList _ _ _ ({ dst := some 48, op := Op.load _ _, type := _, pos := _, after := _, guard := _ } :: _) _ _); go_must (refine wpList_load_whole rfl 57 (.tmp 1) rfl g1 _ (bv (kx15 8)) _ Tryd.underlying57 rfl (by kernel_rfl) X10.out.r1 ?_ ?_; go_simp))
    | ((with_reducible show wpList _ _ _ ({ dst := some 49, op := Op.build _ _, type := _, pos := _, after := _, guard := _ } :: _) _ _); go_must (refine wpList_plain rfl fun K hK => wp_built _ _ _ rfl (by simp only [List.map_toArray, List.map_cons, List.map_nil]; exact HA.out 20000) (hK _ _ ?_)))
    | fail)
  refine (put13 sb mb s16a (kx15 8) (ac15x 20000) w10 S10.out (kx_ok15 (by omega)) (ac_ok15x (by omega)) (by simp [s16a])).mono ?_
  rintro e w11 ⟨rfl, hst, hg11⟩
  rw [HPU2.out] at hst
  have S11 := Lib.hid hst
  have X11 := Lib.hid (X10.out.grown hg11 HML.out.1 HML.out.2.1 HML.out.2.2.1)
  have R11 := Lib.hid (R310.out.grown hg11 (fun e => S10.out.row_ne R310.out (Option.some.inj e)))
  have RD11 := Lib.hid (RD10.out.keep (keep16 S10.out S11.out hg11 H410.out))
  have H411 := Lib.hid (Nat.le_trans H410.out hg11.size)
  clear hst hg11 X10 R310 RD10 S10 HPU2 H410
  go_wp2_with (first
    | ((with_reducible show wpList _ _ _ ({ dst := some 53, op := Op.load _ _, type := _, pos := _, after := _, guard := _ } :: _) _ _); go_must (refine wpList_load_whole rfl 41 (.tmp 3) rfl g3 _ ((q15x gi gr).cells rd16x) _ Tryd.underlying41 rfl (size_rdx16 _ _) R11.out ?_ ?_; go_simp))
    | ((with_reducible show wpList _ _ _ ({ dst := some 54, op := Op.load _ _, type := _, pos := _, after := _, guard := _ } :: _) _ _); go_must (refine wpList_load_whole rfl 41 (.tmp 3) rfl g3 _ ((q15x gi gr).cells rd16x) _ Tryd.underlying41 rfl (size_rdx16 _ _) R11.out ?_ ?_; go_simp))
    | ((with_reducible show wpList _ _ _ ({ dst := some 55, op := Op.load _ _, type := _, pos := _, after := _, guard := _ } :: _) _ _); go_must (refine wpList_load_whole rfl 41 (.tmp 3) rfl g3 _ ((q15x gi gr).cells rd16x) _ Tryd.underlying41 rfl (size_rdx16 _ _) R11.out ?_ ?_; go_simp))
    | ((with_reducible show wpList _ _ _ ({ dst := some 56, op := Op.buildSlice _ _ _, type := _, pos := _, after := _, guard := _ } :: _) _ _); go_must (refine wpList_plain rfl fun K hK => wp_buildThree15 72 41 (.tmp 53) (.tmp 54) (.tmp 55) rfl ((q15x gi gr).cells rd16x) ((q15x gi gr).cells rd16x) ((q15x gi gr).cells rd16x) _ 48 232 Tryd.underlying72 info_rd16 zsz_rd16 (by omega) (by omega) (len_rdx16 _ _) (len_rdx16 _ _) (len_rdx16 _ _) (by go_simp) (by go_simp) (by go_simp) (hK _ _ ?_)))
    | fail)
  have hb12 := (Below.refl w11.heap.size w11).alloc (Nat.le_refl _) (.cells (((q15x gi gr).cells rd16x) ++ (((q15x gi gr).cells rd16x) ++ ((q15x gi gr).cells rd16x))).toArray 41)
  have R12 := Row.new w11 41 (((q15x gi gr).cells rd16x) ++ (((q15x gi gr).cells rd16x) ++ ((q15x gi gr).cells rd16x)))
  have S12 := S11.out.below hb12
  have X12 := Lib.hid (X11.out.below hb12)
  have RD12 := (RD11.out.below (hb12.mono H411.out)).more (Nat.le_trans H411.out hb12.size)
  have hall : ∀ (k : Nat) (p : YRaw × LReady), ([(q15x gi gr, rd16x), (q15x gi gr, rd16x), (q15x gi gr, rd16x)] : List (YRaw × LReady))[k]? = some p → p = (q15x gi gr, rd16x) := fun k p hp => by
    have := List.mem_of_getElem? hp
    simpa using this
  have hcs : CsIn 48 (w11.alloc (.cells (((q15x gi gr).cells rd16x) ++ (((q15x gi gr).cells rd16x) ++ ((q15x gi gr).cells rd16x))).toArray 41)) (w11.alloc (.cells (((q15x gi gr).cells rd16x) ++ (((q15x gi gr).cells rd16x) ++ ((q15x gi gr).cells rd16x))).toArray 41)).heap.size (some ⟨w11.heap.size, 0, none⟩) 3 (([(q15x gi gr, rd16x), (q15x gi gr, rd16x), (q15x gi gr, rd16x)] : List (YRaw × LReady)).map fun p => p.1.cells p.2) := by
    refine csIn_row (ys := []) (t := 41) ?_ rfl (fun k hk => ?_) (by simp)
    · simpa using R12
    · simp only [List.map_cons, List.map_nil, List.mem_cons, List.not_mem_nil, or_false] at hk
      rcases hk with rfl | rfl | rfl <;> exact len_rdx16 gi gr
  have HFC : Hid (Calls Tryd.prog 21 #[.pointer (some ⟨sb, 0, none⟩), .slice (some ⟨w11.heap.size, 0, none⟩) 3 3] (w11.alloc (.cells (((q15x gi gr).cells rd16x) ++ (((q15x gi gr).cells rd16x) ++ ((q15x gi gr).cells rd16x))).toArray 41)) (FoldDone16 (w11.alloc (.cells (((q15x gi gr).cells rd16x) ++ (((q15x gi gr).cells rd16x) ++ ((q15x gi gr).cells rd16x))).toArray 41)) sb mb f16x)) := Lib.hid (foldC sb mb s16b [(q15x gi gr, rd16x), (q15x gi gr, rd16x), (q15x gi gr, rd16x)] (some ⟨w11.heap.size, 0, none⟩) 3 3 _ _ S12 (rds_of16 hcs (fun k p hp => by rw [hall k p hp]; exact RD12)) (Nat.le_refl _) (fun k p hp => by rw [hall k p hp]; exact rdp16x gi gr) (Nat.le_refl _) (by omega) (HT.out.below X12.out.b HT.out.pos) (fun k p hp => by
    rw [hall k p hp, sto_any16]
    have := len16x k
    show _ + 3 ≤ 5000
    omega))
  have S12 := Lib.hid S12
  clear hb12 R12 RD12 hall hcs X11 S11 RD11 H411 R11
  refine HFC.out.mono ?_
  rintro e w13 ⟨os, A13, c13, rfl, hos, _, _, hs13, hg13⟩
  have hl2 : os.length = 2 := by
    have h1 := congrArg List.length hos
    rw [List.length_map] at h1
    rw [h1]
    exact HFX.out.1
  rw [hl2, HFX.out.2.1, HFX.out.2.2.1]
  have S13 := Lib.hid hs13
  have X13 := Lib.hid (X12.out.grown hg13 HML.out.1 HML.out.2.1 HML.out.2.2.1)
  clear hos hs13 hg13 hl2 S12 X12 HFC
  go_wp2_with (first
    | ((with_reducible show wpList _ _ _ ({ dst := some 74, op := Op.load _ _, type := _, pos := _, after := _, guard := _ } :: _) _ _); go_must (refine wpList_load_atg (by kernel_rfl) 57 (.tmp 1) rfl ⟨g1, 0, none⟩ (bv (kx15 8)) _ Tryd.underlying57 rfl (by kernel_rfl) (fun j v hv => by rw [addr_row, Nat.zero_add]; exact (X13.out.r1.cell j).trans hv) ?_ ?_; go_simp))
    | fail)
  refine (get13 sb mb f16x.L (kx15 8) w13 S13.out (kx_ok15 (by omega))).mono ?_
  rintro e w14 ⟨rfl, hb14⟩
  rw [HFX.out.2.2.2]
  have X14 := Lib.hid (X13.out.below hb14)
  clear hb14 X13 S13
  go_wp2_with (first
    | ((with_reducible show wpList _ _ _ ({ dst := some 76, op := Op.field _ _ _, type := _, pos := _, after := _, guard := _ } :: _) _ _); go_must (refine BigFrame.wpList_want (by kernel_rfl) fun K hK => wp_field16 (.tmp 75) rfl (ac15x 4000) (by go_simp) (hK _ _ ?_)))
    | fail)
  go_ret
  exact ⟨rfl, X14.out.b⟩
end Go.Proofs.YtfaefpniiiandaaDoor

/-
  Of part Use15: what is needed here.
-/
namespace Go.Proofs.YtfaefpniiiandaaDoor
open Go.RowKit
set_option linter.unusedVariables false
theorem rd_wide15 {x : LReady} (h : RdOk x) : Wide15 x := by
  obtain ⟨_, h1, h2, _, h3, h4, _⟩ := h
  exact ⟨h1, h3, h4, h2⟩
end Go.Proofs.YtfaefpniiiandaaDoor

/-
  Of part Open16: what is needed here.
-/
namespace Go.Proofs.YtfaefpniiiandaaDoor
open Go.ChangeShapes Go.WideShapes Go.RowKit
set_option linter.unusedVariables false
set_option maxRecDepth 100000
theorem cellsHo16 : Tryd.prog.cellsOf 64 = 66 := by kernel_rfl
theorem bytesHo16 : Tryd.prog.bytesOf 64 = 80 := by kernel_rfl
/-- holdings, as they are read -/
structure HolsIn16 (w : World) (B : Nat) (A : Option Addr) (n : Nat) (l : List LHold) : Prop where
  cs : CsIn 66 w B A n (l.map LHold.cells)
  ok : ∀ h ∈ l, HoldOk h
theorem HolsIn16.len {w : World} {B n : Nat} {A : Option Addr} {l : List LHold} (h : HolsIn16 w B A n l) : l.length = n := by have := h.cs.len; rwa [List.length_map] at this
section
variable {H : Type} {enc : TypeId × Value → H} {w : World} {base b0 : Nat} {held : Bool}
theorem open_hold16 {fuel : Nat} {cs : List Value} {x : DataW H × List MemPlace} (hf : DataW.trod enc Tryd.prog w base (fun _ => true) held fuel 64 cs = some x) : ∃ a : LHold, cs = a.cells ∧ HoldOk a := by
  obtain ⟨xs, n, _, hx, hl, hlen, ht⟩ := DataW.trod_struct Tryd.underlying64 hf
  rw [cellsHo16] at hl
  obtain ⟨y0, y1, rfl⟩ : ∃ a b, xs = [a, b] := by
    match xs, hlen with
    | [a, b], _ => exact ⟨a, b, rfl⟩
  have t1 : DataW.trod enc Tryd.prog w base (fun _ => true) held n 57 ((cs.drop 0).take 32) = some y0 := by rw [← cellsKey]; exact ht 0 _ rfl
  have t2 : DataW.trod enc Tryd.prog w base (fun _ => true) held n 59 ((cs.drop 32).take 34) = some y1 := by rw [← cellsAcc13]; exact ht 1 _ rfl
  have hsplit : cs = (cs.drop 0).take 32 ++ (cs.drop 32).take 34 := by
    have e5 : cs.drop 32 = (cs.drop 32).take 34 := (List.take_of_length_le (by rw [List.length_drop]; omega)).symm
    rw [← e5]
    exact (List.take_append_drop 32 cs).symm
  obtain ⟨z, hz, hz1, hz2⟩ := open_32 Tryd.underlying57 cellsKey t1
  obtain ⟨a, ha, ha1⟩ := open_acc t2
  refine ⟨⟨z, a⟩, ?_, ⟨⟨hz1, hz2⟩, ha1⟩⟩
  rw [hsplit, hz, ha]
  rfl
theorem open_holds15_v {A : Option Addr} {n c : Nat} {d : DataW H} {p : List MemPlace} (h : DataW.Trod enc Tryd.prog w base (fun _ => true) held 22 (.slice A n c) d p) (hw : Wt 22 d) :
    ∃ l, n ≤ c ∧ c ≤ maxLen ∧ HolsIn16 w w.heap.size A n l ∧ l.length ≤ 140737488355328 := by
  obtain ⟨fuel, hf⟩ := h
  obtain ⟨A', n', c', hcs, h1, h2, h3, h4⟩ := open_sl (cs := [.slice A n c]) Tryd.underlying22 (by rw [cellsHo16]; omega) hf hw
  obtain ⟨rfl, rfl, rfl⟩ : A = A' ∧ n = n' ∧ c = c' := by simpa using hcs
  rw [bytesHo16] at h3
  have := reach47
  obtain ⟨l, hl, hp⟩ := list_of (α := LHold) (p := fun i z => HoldOk z ∧ ∃ a, A = some a ∧ a.block < w.heap.size ∧ ∀ j u, z.cells[j]? = some u → w.cell? (a.add (i * 66 + j)) = some u) n fun i hi => by
    obtain ⟨a, cs', y, m, e1, e2, e3, e4, e5, _⟩ := h4 i hi
    rw [cellsHo16] at e3 e4
    obtain ⟨z, rfl, hz⟩ := open_hold16 e5
    exact ⟨z, hz, a, e1, e2, e4⟩
  refine ⟨l, h1, h2, ⟨csIn_of13 (by omega) (by rw [List.length_map, hl]) fun i x hx => ?_, fun r hr => ?_⟩, by rw [hl]; omega⟩
  · rw [List.getElem?_map] at hx
    obtain ⟨r, hr, rfl⟩ := Option.map_eq_some_iff.1 hx
    exact ⟨hold_len (hp i r hr).1.k.1 (hp i r hr).1.a.o.1, (hp i r hr).2⟩
  · obtain ⟨i, hi, rfl⟩ := List.getElem_of_mem hr
    exact (hp i _ (List.getElem?_eq_getElem hi)).1
theorem open_ready_cells16 {fuel : Nat} {cs : List Value} {x0 : DataW H × List MemPlace} (hf : DataW.trod enc Tryd.prog w base (fun _ => true) held fuel 41 cs = some x0) (hw : Wt 41 x0.1) :
    ∃ (q : YRaw) (x : LReady), cs = q.cells x ∧ ReadyIn w w.heap.size q x ∧ RdOk x := by
  obtain ⟨xs, n, _, hx, hl, hlen, ht⟩ := DataW.trod_struct Tryd.underlying41 hf
  rw [cellsRd15] at hl
  obtain ⟨y0, y1, y2, y3, y4, y5, y6, rfl⟩ : ∃ a b c d e f g, xs = [a, b, c, d, e, f, g] := by
    match xs, hlen with
    | [a, b, c, d, e, f, g], _ => exact ⟨a, b, c, d, e, f, g, rfl⟩
  have hx1 : x0.1 = .agg [y0.1, y1.1, y2.1, y3.1, y4.1, y5.1, y6.1] := by simpa using congrArg Prod.fst hx
  rw [hx1] at hw
  obtain ⟨w0, w1, w2⟩ := wt_ready15 hw
  have t0 : DataW.trod enc Tryd.prog w base (fun _ => true) held n 23 ((cs.drop 0).take 1) = some y0 := by rw [← cellsBs15]; exact ht 0 _ rfl
  have t1 : DataW.trod enc Tryd.prog w base (fun _ => true) held n 35 ((cs.drop 1).take 40) = some y1 := by rw [← cellsTx15]; exact ht 1 _ rfl
  have t2 : DataW.trod enc Tryd.prog w base (fun _ => true) held n 36 ((cs.drop 41).take 1) = some y2 := by rw [← cellsRo15]; exact ht 2 _ rfl
  have t3 : DataW.trod enc Tryd.prog w base (fun _ => true) held n 39 ((cs.drop 42).take 3) = some y3 := by rw [← cellsBu15]; exact ht 3 _ rfl
  have t4 : DataW.trod enc Tryd.prog w base (fun _ => true) held n 37 ((cs.drop 45).take 1) = some y4 := by rw [← cellsU15]; exact ht 4 _ rfl
  have t5 : DataW.trod enc Tryd.prog w base (fun _ => true) held n 37 ((cs.drop 46).take 1) = some y5 := by rw [← cellsU15]; exact ht 5 _ rfl
  have t6 : DataW.trod enc Tryd.prog w base (fun _ => true) held n 37 ((cs.drop 47).take 1) = some y6 := by rw [← cellsU15]; exact ht 6 _ rfl
  have ln : ∀ a n, a + n ≤ 48 → ((cs.drop a).take n).length = n := fun a n h => by rw [List.length_take, List.length_drop]; omega
  obtain ⟨v0, hv0⟩ := one_of (ln 0 1 (by omega))
  obtain ⟨v2, hv2⟩ := one_of (ln 41 1 (by omega))
  rw [hv0] at t0
  rw [hv2] at t2
  obtain ⟨bs, b1, b2, b3⟩ := open_bytes t0 w0
  obtain ⟨BA, bc, rfl, s1, s2, s3⟩ := b1.is
  obtain ⟨s, t, e1, x1, x2, x3, x4⟩ := open_tx_cells t1 w1
  obtain ⟨RA, rn, rc, rl, rfl, r1, r2, r3⟩ := open_roles15 t2 w2
  obtain ⟨u, pp, bb, e3, u1, u2, u3⟩ := open_budget15 t3
  obtain ⟨fe, e4, f4⟩ := int_of15 Tryd.underlying37 t4 (ln 45 1 (by omega))
  obtain ⟨co, e5, f5⟩ := int_of15 Tryd.underlying37 t5 (ln 46 1 (by omega))
  obtain ⟨pr, e6, f6⟩ := int_of15 Tryd.underlying37 t6 (ln 47 1 (by omega))
  have hsplit : cs = [.slice BA bs.length bc] ++ (s.cells t ++ ([.slice RA rn rc] ++ ([.int .u64 u, .int .u64 pp, .int .i64 bb] ++ ([.int .u64 fe] ++ ([.int .u64 co] ++ [.int .u64 pr]))))) := by
    rw [← hv0, ← e1, ← hv2, ← e3, ← e4, ← e5, ← e6]
    have h48 : cs.drop 47 = (cs.drop 47).take 1 := (List.take_of_length_le (by rw [List.length_drop]; omega)).symm
    rw [← h48, ← cut15 cs 46 1, ← cut15 cs 45 1, ← cut15 cs 42 3, ← cut15 cs 41 1, ← cut15 cs 1 40, ← cut15 cs 0 1]
    rfl
  refine ⟨⟨BA, bs.length, bc, s, RA, rn, rc⟩, ⟨bs, t, rl, u, pp, bb, fe, co, pr⟩, ?_, ⟨s1, ⟨s2, s3⟩, x1, r2, r1⟩, ⟨x2, x3, x4, b2, b3, r3, u1, u2, u3, u64_wf13 f4, u64_wf13 f5, u64_wf13 f6⟩⟩
  exact hsplit
theorem open_readies16_v {A : Option Addr} {n c : Nat} {d : DataW H} {p : List MemPlace} (h : DataW.Trod enc Tryd.prog w base (fun _ => true) held 72 (.slice A n c) d p) (hw : Wt 72 d) :
    ∃ l : List (YRaw × LReady), n ≤ c ∧ c ≤ maxLen ∧ RdsIn w w.heap.size A n l ∧ ∀ p ∈ l, RdOk p.2 := by
  obtain ⟨fuel, hf⟩ := h
  obtain ⟨A', n', c', hcs, h1, h2, h3, h4⟩ := open_sl (cs := [.slice A n c]) Tryd.underlying72 (by rw [cellsRd15]; omega) hf hw
  obtain ⟨rfl, rfl, rfl⟩ : A = A' ∧ n = n' ∧ c = c' := by simpa using hcs
  obtain ⟨l, hl, hp⟩ := list_of (α := YRaw × LReady) (p := fun i z => ReadyIn w w.heap.size z.1 z.2 ∧ RdOk z.2 ∧ ∃ a, A = some a ∧ a.block < w.heap.size ∧ ∀ j u, (z.1.cells z.2)[j]? = some u → w.cell? (a.add (i * 48 + j)) = some u) n fun i hi => by
    obtain ⟨a, cs', y, m, e1, e2, e3, e4, e5, e6⟩ := h4 i hi
    rw [cellsRd15] at e3 e4
    obtain ⟨q, x, rfl, hi1, ho⟩ := open_ready_cells16 e5 e6
    exact ⟨(q, x), hi1, ho, a, e1, e2, e4⟩
  refine ⟨l, h1, h2, rds_of16 (csIn_of13 (by omega) (by rw [List.length_map, hl]) fun i x hx => ?_) (fun k p hk => (hp k p hk).1), fun r hr => ?_⟩
  · rw [List.getElem?_map] at hx
    obtain ⟨r, hr, rfl⟩ := Option.map_eq_some_iff.1 hx
    exact ⟨ycells_len (hp i r hr).1.tx.m.recent, (hp i r hr).2.2⟩
  · obtain ⟨i, hi, rfl⟩ := List.getElem_of_mem hr
    exact (hp i _ (List.getElem?_eq_getElem hi)).2.1
end
/-- what holds of a transaction that came in and is not great -/
theorem rd_p16 {w : World} {B : Nat} {q : YRaw} {x : LReady} (h : RdOk x) (hi : ReadyIn w B q x) (hf : Fw15 x) : RdP16 q x := by
  refine ⟨⟨fun r hr => ⟨(hi.rs.ok r hr).1, (hi.rs.ok r hr).2⟩, fun a ha => (h.wf.m.ins a ha).2, h.fee⟩, fun a ha => (h.wf.m.ins a ha).1, h.u, ⟨?_, fun a ha => ?_⟩, ?_⟩
  · have := hf.n
    have := hi.tx.m.ins.len
    omega
  · have := (hf.acc ha).1
    omega
  · have := hf.r
    have := hi.rs.len
    omega
end Go.Proofs.YtfaefpniiiandaaDoor

/-
  Of part Great16: what is needed here.
-/
namespace Go.Proofs.YtfaefpniiiandaaDoor
open Go.RowKit
set_option linter.unusedVariables false
set_option maxRecDepth 100000
/-- roles and instructions of all -/
def sum16 (l : List (YRaw × LReady)) : Nat := (l.map fun p => p.2.roles.length + p.2.tx.m.ins.length).sum
theorem sum_succ16 {l : List (YRaw × LReady)} {k : Nat} {p : YRaw × LReady} (h : l[k]? = some p) : sum16 (l.take (k + 1)) = sum16 (l.take k) + (p.2.roles.length + p.2.tx.m.ins.length) := by
  unfold sum16
  rw [List.take_add_one, h, Option.toList_some, List.map_append, List.sum_append]
  simp
theorem sum_few16 : ∀ {l : List (YRaw × LReady)}, (∀ p ∈ l, Fw15 p.2) → sum16 l ≤ 500 * l.length
  | [], _ => by simp [sum16]
  | p :: r, h => by
    have h1 := sum_few16 (l := r) (fun q hq => h q (by simp [hq]))
    have h2 := h p (by simp)
    have h3 := h2.n
    have h4 := h2.r
    have e : sum16 (p :: r) = (p.2.roles.length + p.2.tx.m.ins.length) + sum16 r := by simp [sum16]
    rw [e, List.length_cons]
    omega
/-- what great tells -/
structure Few16 (n : Nat) (l : List (YRaw × LReady)) : Prop where
  f : ∀ p ∈ l, Fw15 p.2
  s : sum16 l ≤ 800
  hn : n ≤ 200
  hl : l.length ≤ 40
theorem addr_at16 (a : Addr) (o : Nat) : (⟨a.block, a.off + o, none⟩ : Addr) = a.add o ∨ o = 0 := by
  by_cases h : o = 0
  · exact .inr h
  · left; unfold Addr.add; rw [if_neg h]
def GrDone16 (n : Nat) (l : List (YRaw × LReady)) (w : World) (e : Ending) (w' : World) : Prop := (∃ b, e = .returned (.bool b) ∧ (b = false → Few16 n l)) ∧ Below w.heap.size w w'
set_option maxHeartbeats 8000000 in
theorem great16 (A LA : Option Addr) (n c ln lc B : Nat) (l : List (YRaw × LReady)) (w : World) (hr : RdsIn w B LA ln l) (hB : B ≤ w.heap.size) (hw : ∀ p ∈ l, Wide15 p.2) (hnc : n ≤ c ∧ c ≤ maxLen) (hlc : ln ≤ lc ∧ lc ≤ maxLen) : Calls Tryd.prog 17 #[.slice A n c, .slice LA ln lc] w (GrDone16 n l w) := by
  have HR := Lib.hid hr
  have HB := Lib.hid hB
  have HW := Lib.hid hw
  have HLN := Lib.hid hr.len
  have hnm : n ≤ 9223372036854775807 := Nat.le_trans hnc.1 hnc.2
  have hlm : ln ≤ 9223372036854775807 := Nat.le_trans hlc.1 hlc.2
  clear hr hB hw hnc hlc
  go_enter Tryd.func17, Tryd.ntmps17
  by_cases hn : n > 200
  · have hn1 : (200 : Int) < n := by omega
    have hn2 : decide ((200 : Int) < n) = true := decide_eq_true hn1
    go_wp2_with fail
    go_ret
    exact ⟨⟨true, rfl, fun h => by cases h⟩, Below.refl _ _⟩
  have hn1 : ¬ (200 : Int) < n := by omega
  have hn2 : decide ((200 : Int) < n) = false := decide_eq_false hn1
  by_cases hl : ln > 40
  · have hl1 : (40 : Int) < ln := by omega
    have hl2 : decide ((40 : Int) < ln) = true := decide_eq_true hl1
    go_wp2_with fail
    go_ret
    exact ⟨⟨true, rfl, fun h => by cases h⟩, Below.refl _ _⟩
  have hl1 : ¬ (40 : Int) < ln := by omega
  have hl2 : decide ((40 : Int) < ln) = false := decide_eq_false hl1
  have HN : Hid (n ≤ 200 ∧ ln ≤ 40) := Lib.hid (by omega)
  go_wp2_with fail
  clear hn1 hn2 hl1 hl2 hn hl
  go_loopw [5, 6] (fun nn i wr => ∃ (k s : Nat), k ≤ ln ∧ i = .int .i64 k ∧ nn = .int .i64 s ∧ Below w.heap.size w wr ∧ s = sum16 (l.take k) ∧ ∀ p ∈ l.take k, Fw15 p.2) (fun _ i _ => ln - (intOf i).toNat)
  case atStart => exact ⟨0, 0, Nat.zero_le _, rfl, rfl, Below.refl _ _, by simp [sum16], fun p hp => by simp at hp⟩
  case round =>
    obtain ⟨k, s, hk, rfl, rfl, hb, hs, hf⟩ := hrel
    have BW := Lib.hid hb
    have HS := Lib.hid hs
    have HF := Lib.hid hf
    have hs2 : s ≤ 20000 := by
      have h1 := sum_few16 hf
      have h2 := HN.out
      have h3 : (l.take k).length ≤ 40 := by rw [List.length_take]; have := HLN.out; omega
      omega
    clear hb hs hf
    rename World => wr
    by_cases hlt : k < ln
    · have hlt' : (k : Int) < ln := by omega
      obtain ⟨p, hp⟩ : ∃ p, l[k]? = some p := ⟨_, List.getElem?_eq_getElem (by rw [HLN.out]; exact hlt)⟩
      have RW := HR.out.below (BW.out.mono HB.out)
      obtain ⟨a, ea, hab, hcs⟩ := RW.sees k p hp
      have RI := Lib.hid (RW.each k p hp)
      have HCS := Lib.hid hcs
      have HGR := Lib.hid (great15 p.1 p.2 B wr RI.out (Nat.le_trans HB.out BW.out.size) (HW.out p (List.mem_of_getElem? hp)))
      have HSZ := Lib.hid (rd_size16 (q := p.1) RI.out.tx.m.recent)
      have HTK := Lib.hid (sum_succ16 hp)
      have HTM : Hid (∀ q ∈ l.take (k + 1), q ∈ l.take k ∨ q = p) := Lib.hid fun q hq => by
        rw [List.take_add_one, hp, Option.toList_some] at hq
        rcases List.mem_append.1 hq with h | h
        · exact .inl h
        · exact .inr (List.mem_singleton.1 h)
      have HRL := Lib.hid RI.out.rs.len
      have HIL := Lib.hid RI.out.tx.m.ins.len
      subst ea
      have HAB := Lib.hid (Nat.lt_of_lt_of_le hab (Nat.le_trans HB.out BW.out.size))
      clear hp RW hab hcs
      go_wp2_with ((with_reducible show wpList _ _ _ ({ dst := some 24, op := Op.load _ _, type := _, pos := _, after := _, guard := _ } :: _) _ _); go_must (refine wpList_load_at rfl 41 (.tmp 23) rfl (a.add (k * 48)) (p.1.cells p.2) _ Tryd.underlying41 rfl HSZ.out HCS.out ?_ ?_; go_simp))
      refine HGR.out.mono ?_
      rintro e w1 ⟨⟨b, rfl, hfw⟩, hb1⟩
      have B1 := Lib.hid (BW.out.trans (hb1.mono BW.out.size))
      have HFW := Lib.hid hfw
      have e1 : w1.cell? ⟨(a.add (k * 48)).block, (a.add (k * 48)).off + 41, none⟩ = some (.slice p.1.RA p.1.rn p.1.rc) := by
        rw [(hb1.cell (p := ⟨(a.add (k * 48)).block, (a.add (k * 48)).off + 41, none⟩) (by show (a.add (k * 48)).block < _; rw [addr_block]; exact HAB.out))]
        rw [(addr_at16 _ _).resolve_right (by omega)]
        exact HCS.out 41 _ (ycells_41 RI.out.tx.m.recent 0)
      have e2 : w1.cell? ⟨(a.add (k * 48)).block, (a.add (k * 48)).off + 39, none⟩ = some (.slice p.1.t.q.IA p.1.t.q.n p.1.t.q.ic) := by
        rw [(hb1.cell (p := ⟨(a.add (k * 48)).block, (a.add (k * 48)).off + 39, none⟩) (by show (a.add (k * 48)).block < _; rw [addr_block]; exact HAB.out))]
        rw [(addr_at16 _ _).resolve_right (by omega)]
        exact HCS.out 39 _ (ycells_39 RI.out.tx.m.recent)
      clear hb1 hfw HCS BW HGR
      cases b with
      | true =>
        clear e1 e2
        go_wp2_with fail
        go_ret
        exact ⟨⟨true, rfl, fun h => by cases h⟩, B1.out⟩
      | false =>
        have hfw := HFW.out rfl
        have HF1 := Lib.hid hfw
        clear HFW
        have hrn : p.1.rn ≤ 300 := by have := hfw.r; have := HRL.out; omega
        have hin : p.1.t.q.n ≤ 200 := by have := hfw.n; have := HIL.out; omega
        clear hfw
        go_wp2_with fail
        go_quiet (fail)
        go_wp2_with fail
        go_roundw
        case rel => exact ⟨k + 1, s + p.1.rn + p.1.t.q.n, by omega, by go_num, by go_num, B1.out.trans (below_dn15 (Below.refl _ _) _), by have h1 := HS.out; have h2 := HTK.out; have h3 := HRL.out; have h4 := HIL.out; omega, fun q hq => by
          rcases HTM.out q hq with h | h
          · exact HF.out q h
          · rw [h]; exact HF1.out⟩
        case measure => simp [intOf]; omega
    · have hke : k = ln := by omega
      have hlt' : ¬ (k : Int) < ln := by omega
      have HT : Hid (l.take k = l) := Lib.hid (by rw [hke, ← HLN.out]; exact List.take_length)
      rw [HT.out] at HS HF
      by_cases h8 : s > 800
      · have h81 : (800 : Int) < s := by omega
        have h82 : decide ((800 : Int) < s) = true := decide_eq_true h81
        go_wp2_with fail
        go_ret
        exact ⟨⟨true, rfl, fun h => by cases h⟩, BW.out⟩
      · have h81 : ¬ (800 : Int) < s := by omega
        have h82 : decide ((800 : Int) < s) = false := decide_eq_false h81
        go_wp2_with fail
        go_ret
        exact ⟨⟨false, rfl, fun _ => ⟨HF.out, by have h1 := HS.out; omega, HN.out.1, by have h1 := HN.out.2; have h2 := HLN.out; omega⟩⟩, BW.out⟩
end Go.Proofs.YtfaefpniiiandaaDoor

/-
  Of part Stores16: what is needed here.
-/
namespace Go.Proofs.YtfaefpniiiandaaDoor
open Go.RowKit
set_option linter.unusedVariables false
set_option maxRecDepth 100000
theorem addr_field16 (a : Addr) {o : Nat} (ho : 0 < o) : (⟨a.block, a.off + o, none⟩ : Addr) = a.add o := by
  unfold Addr.add
  rw [if_neg (by omega)]
theorem RS13.far16 {w w' : World} {pb base sb mb : Nat} {v : Value} {L M : List LHold} (h : RS13 w pb base v L) (hs : StIn w sb mb M) (hg : w.grownBy w' (some mb)) : RS13 w' pb base v L :=
  ⟨h.row.grown hg (fun e => hs.row_ne h.row (Option.some.inj e)), h.own.kept hg (hs.own_ne16 h.own), h.sto⟩
theorem StIn.far16 {w w' : World} {pb t sb mb : Nat} {xs : List Value} {M : List LHold} (hs : StIn w sb mb M) (hr : Row w pb t xs) (hne : 109 ≠ t) (hg : w.grownBy w' (some pb)) : StIn w' sb mb M :=
  hs.keep (hg.block _ hs.lt.1 (fun e => row_far16 hs.row hr hne (Option.some.inj e))) (hg.block _ hs.lt.2 (fun e => hs.row_ne hr (Option.some.inj e).symm))
theorem built_ref16 : Tryd.prog.built 92 [] = some (([.slice none 0 0] : List Value)).toArray := by kernel_rfl
def StoresDone16 (w : World) (L : List LHold) (e : Ending) (w' : World) : Prop := ∃ sb mb pb, e = .returned (.tuple #[.pointer (some ⟨sb, 0, none⟩), .pointer (some ⟨pb, 0, none⟩)]) ∧ StIn w' sb mb L ∧ w.heap.size ≤ sb ∧ w.heap.size ≤ mb ∧ Below w.heap.size w w'
theorem puts_len16 (l : List LHold) : (commit16 [] l).length ≤ l.length := by
  have := commit_len16 l []
  simpa using this
set_option maxHeartbeats 8000000 in
theorem stores16 (A : Option Addr) (n c B : Nat) (l : List LHold) (w : World) (hl : HolsIn16 w B A n l) (hB : B ≤ w.heap.size) (hn : n ≤ 200) : Calls Tryd.prog 11 #[.slice A n c] w (StoresDone16 w (commit16 [] l)) := by
  have HM := Lib.hid hl
  have HB := Lib.hid hB
  have HLN := Lib.hid hl.len
  clear hl hB
  go_enter Tryd.func11, Tryd.ntmps11
  go_wp2_with fail
  refine (new13 w).mono ?_
  rintro e w1 ⟨sb, mb, rfl, hs, h1, h2, hb⟩
  have S1 := Lib.hid hs
  have B1 := Lib.hid hb
  have HLO := Lib.hid (And.intro h1 h2)
  clear hs hb h1 h2
  go_upto_region 3 with (first
    | ((with_reducible show wpList _ _ _ ({ dst := some 8, op := Op.build _ _, type := _, pos := _, after := _, guard := _ } :: _) _ _); go_must (refine wpList_plain rfl fun K hK => wp_built _ _ _ rfl (by simp only [List.map_toArray, List.map_nil]; exact built_ref16) (hK _ _ ?_)))
    | ((with_reducible show wpList _ _ _ ({ dst := some 9, op := Op.box _ _, type := _, pos := _, after := _, guard := _ } :: _) _ _); go_must (refine wpList_box_new rfl 92 (.tmp 8) rfl [.slice none 0 0] (by go_simp) ?_)))
  obtain ⟨pb, hpb⟩ : ∃ g, g = w1.heap.size := ⟨_, rfl⟩
  have hb2 := (Below.refl w1.heap.size w1).alloc (Nat.le_refl _) (.cells ([Value.slice none 0 0] : List Value).toArray 92)
  have R2 : RS13 (w1.alloc (.cells ([Value.slice none 0 0] : List Value).toArray 92)) w1.heap.size w.heap.size (.slice none 0 0) [] := ⟨Row.new w1 _ _, own_nilN _ _ _ _, sto_nil⟩
  have S2 := Lib.hid (S1.out.below hb2)
  have B2 := Lib.hid (B1.out.trans (hb2.mono B1.out.size))
  have HPB : Hid (w.heap.size ≤ pb) := Lib.hid (by rw [hpb]; exact B1.out.size)
  rw [← hpb] at R2 ⊢
  have HR2 : Hid (∃ v, RS13 (w1.alloc (.cells ([Value.slice none 0 0] : List Value).toArray 92)) pb w.heap.size v []) := Lib.hid ⟨_, R2⟩
  clear hpb hb2 R2 S1 B1
  generalize w1.alloc (.cells ([Value.slice none 0 0] : List Value).toArray 92) = w2 at *
  go_wp2_with fail
  go_loopw [6] (fun i wr => ∃ k : Nat, k ≤ n ∧ i = .int .i64 k ∧ StIn wr sb mb (commit16 [] (l.take k)) ∧ (∃ v, RS13 wr pb w.heap.size v (commit16 [] (l.take k))) ∧ Below w.heap.size w wr) (fun i _ => n - (intOf i).toNat)
  case atStart => exact ⟨0, Nat.zero_le _, rfl, S2.out, HR2.out, B2.out⟩
  case round =>
    clear S2 HR2 B2
    obtain ⟨k, hk, rfl, hst, ⟨v, hrs⟩, hb⟩ := hrel
    have HST := Lib.hid hst
    have HRS := Lib.hid hrs
    have HBW := Lib.hid hb
    clear hst hrs hb
    rename World => wr
    by_cases hlt : k < n
    · have hlt' : (k : Int) < n := by omega
      obtain ⟨a, xs, ea, hab, hxs, hxl, hcs⟩ := HM.out.cs.get hlt (by omega)
      obtain ⟨h, hh, rfl⟩ : ∃ h, l[k]? = some h ∧ h.cells = xs := by
        rw [List.getElem?_map] at hxs
        obtain ⟨h, h1, h2⟩ := Option.map_eq_some_iff.1 hxs
        exact ⟨h, h1, h2⟩
      have HH := Lib.hid (HM.out.ok h (List.mem_of_getElem? hh))
      have HMT := Lib.hid (commit_take16 (L := []) hh)
      have HPL : Hid ((commit16 [] (l.take k)).length ≤ 5000) := Lib.hid (by have := puts_len16 (l.take k); have := List.length_take_le k l; omega)
      have HSK : Hid ((Tryd.prog.info? 57).map (·.size) = some (bv h.k).length) := Lib.hid (by rw [size_key, bv_length, HH.out.k.1])
      have HSA := Lib.hid (size_acc HH.out.a.o.1)
      have HCK : Hid (∀ V, Below w.heap.size w V → ∀ j u, (bv h.k)[j]? = some u → V.cell? ((a.add (k * 66)).add j) = some u) := Lib.hid fun V hV j u hu =>
        (hV.cell (by rw [addr_block, addr_block]; exact Nat.lt_of_lt_of_le hab HB.out)).trans (hcs _ _ (hold_k hu))
      have HCA : Hid (∀ V, Below w.heap.size w V → ∀ j u, h.a.cells[j]? = some u → V.cell? ((⟨(a.add (k * 66)).block, (a.add (k * 66)).off + 32, none⟩ : Addr).add j) = some u) := Lib.hid fun V hV j u hu => by
        rw [addr_field16 _ (by omega), addr_add, hV.cell (by rw [addr_block, addr_block]; exact Nat.lt_of_lt_of_le hab HB.out)]
        exact hcs _ _ (hold_a HH.out.k.1 hu)
      subst ea
      clear hab hxs hxl hcs hh
      go_upto_region 6 with fail
      refine wp_region_held_drew (S := (fun V => Below w.heap.size w V)) (by kernel_rfl) HBW.out.drew (fun _ => ?_)
      try dsimp only [List.append]
      have BD := Lib.hid HBW.out.drew
      have SD := Lib.hid (HST.out.below (Below.refl _ wr).drew)
      have RD := Lib.hid (HRS.out.below (Below.refl _ wr).drew)
      clear HST HRS HBW
      generalize wr.drew = wd at *
      refine takeL (i := 0) (v := ?_) rfl (by kernel_rfl) (by kernel_rfl) (by kernel_rfl) (fun _ _ _ h => h) (Or.inl ⟨by rfl, ?_⟩) BD.out ?_
      rotate_left
      · intro w hw
        try dsimp only at hw
        go_simp
        try with_reducible rfl
      try simp only [Act.put, List.setIfInBounds_toArray, List.set_cons_zero, List.set_cons_succ]
      refine takeL (i := 1) (v := ?_) rfl (by kernel_rfl) (by kernel_rfl) (by kernel_rfl) (fun _ _ _ h => h) (Or.inl ⟨by rfl, ?_⟩) BD.out ?_
      rotate_left
      · intro w hw
        try dsimp only at hw
        go_simp
        try with_reducible rfl
      try simp only [Act.put, List.setIfInBounds_toArray, List.set_cons_zero, List.set_cons_succ]
      refine takeL (i := 2) (v := ?_) rfl (by kernel_rfl) (by kernel_rfl) (by kernel_rfl) (fun _ _ _ h => h) (Or.inl ⟨by rfl, ?_⟩) BD.out ?_
      rotate_left
      · intro w hw
        try dsimp only at hw
        go_simp
        try with_reducible rfl
      try simp only [Act.put, List.setIfInBounds_toArray, List.set_cons_zero, List.set_cons_succ]
      refine takeL (i := 3) (v := ?_) rfl (by kernel_rfl) (by kernel_rfl) (by kernel_rfl) (fun _ _ _ h => h) (Or.inl ⟨by rfl, ?_⟩) BD.out ?_
      rotate_left
      · intro w hw
        try dsimp only at hw
        go_simp
        try with_reducible rfl
      try simp only [Act.put, List.setIfInBounds_toArray, List.set_cons_zero, List.set_cons_succ]
      refine takeL (i := 4) (v := ?_) rfl (by kernel_rfl) (by kernel_rfl) (by kernel_rfl) (fun _ _ _ h => h) (Or.inl ⟨by rfl, ?_⟩) BD.out ?_
      rotate_left
      · intro w hw
        try dsimp only at hw
        go_simp
        try with_reducible rfl
      try simp only [Act.put, List.setIfInBounds_toArray, List.set_cons_zero, List.set_cons_succ]
      refine takeL (i := 5) (v := .agg (bv h.k).toArray) rfl (by kernel_rfl) (by kernel_rfl) (by kernel_rfl) (fun _ _ _ h => h) (Or.inl ⟨by rfl, fun wz hwz => exec_load_at wz 57 (.tmp 20) rfl (a.add (k * 66)) (bv h.k) _ Tryd.underlying57 rfl HSK.out (HCK.out wz hwz) (by go_simp)⟩) BD.out ?_
      try simp only [Act.put, List.setIfInBounds_toArray, List.set_cons_zero, List.set_cons_succ]
      refine takeL (i := 6) (v := ?_) rfl (by kernel_rfl) (by kernel_rfl) (by kernel_rfl) (fun _ _ _ h => h) (Or.inl ⟨by rfl, ?_⟩) BD.out ?_
      rotate_left
      · intro w hw
        try dsimp only at hw
        go_simp
        try with_reducible rfl
      try simp only [Act.put, List.setIfInBounds_toArray, List.set_cons_zero, List.set_cons_succ]
      refine takeL (i := 7) (v := ?_) rfl (by kernel_rfl) (by kernel_rfl) (by kernel_rfl) (fun _ _ _ h => h) (Or.inl ⟨by rfl, ?_⟩) BD.out ?_
      rotate_left
      · intro w hw
        try dsimp only at hw
        go_simp
        try with_reducible rfl
      try simp only [Act.put, List.setIfInBounds_toArray, List.set_cons_zero, List.set_cons_succ]
      refine takeL (i := 8) (v := ?_) rfl (by kernel_rfl) (by kernel_rfl) (by kernel_rfl) (fun _ _ _ h => h) (Or.inl ⟨by rfl, ?_⟩) BD.out ?_
      rotate_left
      · intro w hw
        try dsimp only at hw
        go_simp
        try with_reducible rfl
      try simp only [Act.put, List.setIfInBounds_toArray, List.set_cons_zero, List.set_cons_succ]
      refine takeL (i := 9) (v := ?_) rfl (by kernel_rfl) (by kernel_rfl) (by kernel_rfl) (fun _ _ _ h => h) (Or.inl ⟨by rfl, ?_⟩) BD.out ?_
      rotate_left
      · intro w hw
        try dsimp only at hw
        go_simp
        try with_reducible rfl
      try simp only [Act.put, List.setIfInBounds_toArray, List.set_cons_zero, List.set_cons_succ]
      refine takeL (i := 10) (v := .agg h.a.cells.toArray) rfl (by kernel_rfl) (by kernel_rfl) (by kernel_rfl) (fun _ _ _ h => h) (Or.inl ⟨by rfl, fun wz hwz => exec_load_at wz 59 (.tmp 25) rfl ⟨(a.add (k * 66)).block, (a.add (k * 66)).off + 32, none⟩ h.a.cells _ Tryd.underlying59 rfl HSA.out (HCA.out wz hwz) (by go_simp)⟩) BD.out ?_
      try simp only [Act.put, List.setIfInBounds_toArray, List.set_cons_zero, List.set_cons_succ]
      refine readyL (i := 11) rfl (by kernel_rfl) (by kernel_rfl) fun K hK => ?_
      go_simp
      refine (put13 sb mb _ h.k h.a wd SD.out HH.out.k HH.out.a HPL.out).mono ?_
      rintro e w3 ⟨rfl, hs, hg⟩
      rw [← HMT.out] at hs
      have S3 := Lib.hid hs
      have R3 := Lib.hid (RD.out.far16 SD.out hg)
      have B3 := Lib.hid (gb_below16 (B := w.heap.size) hg HLO.out.2 BD.out.size)
      have BW3 := Lib.hid (BD.out.trans B3.out)
      clear hs hg SD RD
      refine hK.out _ _ BW3.out ?_
      clear hK K
      try simp only [Act.put, List.setIfInBounds_toArray, List.set_cons_zero, List.set_cons_succ]
      refine wpAnyH_done (by kernel_rfl) ?_ _
      go_upto_region 7 with fail
      refine wp_region_held_drew (S := (fun V => Below w.heap.size w V)) (by kernel_rfl) BW3.out.drew (fun _ => ?_)
      try dsimp only [List.append]
      have BE := Lib.hid BW3.out.drew
      have SE := Lib.hid (S3.out.below (Below.refl _ w3).drew)
      have RE := Lib.hid (R3.out.below (Below.refl _ w3).drew)
      clear S3 R3 BW3 B3 BD
      generalize w3.drew = we at *
      refine takeL (i := 0) (v := ?_) rfl (by kernel_rfl) (by kernel_rfl) (by kernel_rfl) (fun _ _ _ h => h) (Or.inl ⟨by rfl, ?_⟩) BE.out ?_
      rotate_left
      · intro w hw
        try dsimp only at hw
        go_simp
        try with_reducible rfl
      try simp only [Act.put, List.setIfInBounds_toArray, List.set_cons_zero, List.set_cons_succ]
      refine takeL (i := 1) (v := ?_) rfl (by kernel_rfl) (by kernel_rfl) (by kernel_rfl) (fun _ _ _ h => h) (Or.inl ⟨by rfl, ?_⟩) BE.out ?_
      rotate_left
      · intro w hw
        try dsimp only at hw
        go_simp
        try with_reducible rfl
      try simp only [Act.put, List.setIfInBounds_toArray, List.set_cons_zero, List.set_cons_succ]
      refine takeL (i := 2) (v := ?_) rfl (by kernel_rfl) (by kernel_rfl) (by kernel_rfl) (fun _ _ _ h => h) (Or.inl ⟨by rfl, ?_⟩) BE.out ?_
      rotate_left
      · intro w hw
        try dsimp only at hw
        go_simp
        try with_reducible rfl
      try simp only [Act.put, List.setIfInBounds_toArray, List.set_cons_zero, List.set_cons_succ]
      refine takeL (i := 3) (v := ?_) rfl (by kernel_rfl) (by kernel_rfl) (by kernel_rfl) (fun _ _ _ h => h) (Or.inl ⟨by rfl, ?_⟩) BE.out ?_
      rotate_left
      · intro w hw
        try dsimp only at hw
        go_simp
        try with_reducible rfl
      try simp only [Act.put, List.setIfInBounds_toArray, List.set_cons_zero, List.set_cons_succ]
      refine takeL (i := 4) (v := ?_) rfl (by kernel_rfl) (by kernel_rfl) (by kernel_rfl) (fun _ _ _ h => h) (Or.inl ⟨by rfl, ?_⟩) BE.out ?_
      rotate_left
      · intro w hw
        try dsimp only at hw
        go_simp
        try with_reducible rfl
      try simp only [Act.put, List.setIfInBounds_toArray, List.set_cons_zero, List.set_cons_succ]
      refine takeL (i := 5) (v := .agg (bv h.k).toArray) rfl (by kernel_rfl) (by kernel_rfl) (by kernel_rfl) (fun _ _ _ h => h) (Or.inl ⟨by rfl, fun wz hwz => exec_load_at wz 57 (.tmp 32) rfl (a.add (k * 66)) (bv h.k) _ Tryd.underlying57 rfl HSK.out (HCK.out wz hwz) (by go_simp)⟩) BE.out ?_
      try simp only [Act.put, List.setIfInBounds_toArray, List.set_cons_zero, List.set_cons_succ]
      refine takeL (i := 6) (v := ?_) rfl (by kernel_rfl) (by kernel_rfl) (by kernel_rfl) (fun _ _ _ h => h) (Or.inl ⟨by rfl, ?_⟩) BE.out ?_
      rotate_left
      · intro w hw
        try dsimp only at hw
        go_simp
        try with_reducible rfl
      try simp only [Act.put, List.setIfInBounds_toArray, List.set_cons_zero, List.set_cons_succ]
      refine takeL (i := 7) (v := ?_) rfl (by kernel_rfl) (by kernel_rfl) (by kernel_rfl) (fun _ _ _ h => h) (Or.inl ⟨by rfl, ?_⟩) BE.out ?_
      rotate_left
      · intro w hw
        try dsimp only at hw
        go_simp
        try with_reducible rfl
      try simp only [Act.put, List.setIfInBounds_toArray, List.set_cons_zero, List.set_cons_succ]
      refine takeL (i := 8) (v := ?_) rfl (by kernel_rfl) (by kernel_rfl) (by kernel_rfl) (fun _ _ _ h => h) (Or.inl ⟨by rfl, ?_⟩) BE.out ?_
      rotate_left
      · intro w hw
        try dsimp only at hw
        go_simp
        try with_reducible rfl
      try simp only [Act.put, List.setIfInBounds_toArray, List.set_cons_zero, List.set_cons_succ]
      refine takeL (i := 9) (v := ?_) rfl (by kernel_rfl) (by kernel_rfl) (by kernel_rfl) (fun _ _ _ h => h) (Or.inl ⟨by rfl, ?_⟩) BE.out ?_
      rotate_left
      · intro w hw
        try dsimp only at hw
        go_simp
        try with_reducible rfl
      try simp only [Act.put, List.setIfInBounds_toArray, List.set_cons_zero, List.set_cons_succ]
      refine takeL (i := 10) (v := .agg h.a.cells.toArray) rfl (by kernel_rfl) (by kernel_rfl) (by kernel_rfl) (fun _ _ _ h => h) (Or.inl ⟨by rfl, fun wz hwz => exec_load_at wz 59 (.tmp 37) rfl ⟨(a.add (k * 66)).block, (a.add (k * 66)).off + 32, none⟩ h.a.cells _ Tryd.underlying59 rfl HSA.out (HCA.out wz hwz) (by go_simp)⟩) BE.out ?_
      try simp only [Act.put, List.setIfInBounds_toArray, List.set_cons_zero, List.set_cons_succ]
      refine readyL (i := 11) rfl (by kernel_rfl) (by kernel_rfl) fun K hK => ?_
      go_simp
      refine (refPut13 pb w.heap.size v _ h.k h.a we RE.out HH.out.k HH.out.a HPL.out BE.out.size).mono ?_
      rintro e w4 ⟨rfl, u, hr, hg⟩
      rw [← HMT.out] at hr
      have R4 : Hid (∃ v, RS13 w4 pb w.heap.size v (commit16 [] (l.take (k + 1)))) := Lib.hid ⟨u, hr⟩
      have S4 := Lib.hid (SE.out.far16 RE.out.row (by decide) hg)
      have BW4 := Lib.hid (BE.out.trans (gb_below16 (B := w.heap.size) hg HPB.out BE.out.size))
      clear hr hg SE RE
      refine hK.out _ _ BW4.out ?_
      clear hK K
      try simp only [Act.put, List.setIfInBounds_toArray, List.set_cons_zero, List.set_cons_succ]
      refine wpAnyH_done (by kernel_rfl) ?_ _
      go_wp2_with fail
      go_roundw
      case rel => exact ⟨k + 1, by omega, by go_num, S4.out, R4.out, BW4.out⟩
      case measure => simp [intOf]; omega
    · have hke : k = n := by omega
      have hlt' : ¬ (k : Int) < n := by omega
      have HT : Hid (l.take k = l) := Lib.hid (by rw [hke, ← HLN.out]; exact List.take_length)
      rw [HT.out] at HST
      go_wp2_with fail
      go_ret2
      exact ⟨sb, mb, pb, rfl, HST.out, HLO.out.1, HLO.out.2, HBW.out⟩
end Go.Proofs.YtfaefpniiiandaaDoor

/-
  Of part SameOuts16: what is needed here.
-/
namespace Go.Proofs.YtfaefpniiiandaaDoor
open Go.RowKit
set_option linter.unusedVariables false
set_option maxRecDepth 100000
/-- the outcomes of a fold have well formed accounts -/
theorem fold_ok16 : ∀ (r : List LReady) (S : F16), (∀ x ∈ r, RdF16 x) → Sto S.L → (∀ o ∈ S.outs, ∀ h ∈ o.ch, HoldOk h) → ∀ o ∈ (fold16 r S).outs, ∀ h ∈ o.ch, HoldOk h
  | [], S, _, _, h => h
  | x :: r, S, hx, hs, h => by
    rw [fold_cons16]
    by_cases h0 : (apply16 S.L x).1.2 = 0
    · rw [if_pos h0]
      obtain ⟨_, _, h3, _, h5⟩ := apply_ch16 hs (hx x (by simp)) h0
      refine fold_ok16 r _ (fun y hy => hx y (by simp [hy])) (apply_sto16 hs (hx x (by simp))).1 fun o ho => ?_
      rcases List.mem_append.1 ho with ho | ho
      · exact h o ho
      · rw [List.mem_singleton.1 ho, h3]
        exact h5.ok
    · rw [if_neg h0]
      exact h
/-- the store while it goes on is no longer than it was, and the roles that came -/
theorem fold_len2_16 : ∀ (r : List LReady) (S : F16), (∀ x ∈ r, RdF16 x) → Sto S.L → (fold16 r S).L.length ≤ S.L.length + (r.map fun x => x.roles.length).sum
  | [], S, _, _ => by simp [fold16]
  | x :: r, S, hx, hs => by
    rw [fold_cons16]
    have hx0 := hx x (by simp)
    have ha := apply_sto16 hs hx0
    by_cases h0 : (apply16 S.L x).1.2 = 0
    · rw [if_pos h0]
      have h1 := fold_len2_16 r ⟨S.outs ++ [(apply16 S.L x).1.1], sat16 (S.fees + (apply16 S.L x).1.1.fee), 0, (apply16 S.L x).2⟩ (fun y hy => hx y (by simp [hy])) ha.1
      have h2 := ha.2
      simp only [List.map_cons, List.sum_cons]
      have h3 : (⟨S.outs ++ [(apply16 S.L x).1.1], sat16 (S.fees + (apply16 S.L x).1.1.fee), 0, (apply16 S.L x).2⟩ : F16).L.length = (apply16 S.L x).2.length := rfl
      omega
    · rw [if_neg h0]
      simp only [List.map_cons, List.sum_cons]
      show S.L.length ≤ _
      omega
/-- outcomes, as they are read -/
structure OutsIn16 (w : World) (B : Nat) (A : Option Addr) (n : Nat) (os : List (LOut × Option Addr)) : Prop where
  cs : CsIn 6 w B A n (os.map oC16)
  hol : ∀ p ∈ os, CsIn 66 w B p.2 p.1.ch.length (p.1.ch.map LHold.cells)
theorem OutsIn16.keep {w w' : World} {B n : Nat} {A : Option Addr} {os : List (LOut × Option Addr)} (h : OutsIn16 w B A n os) (hk : ∀ p : Addr, p.block < B → w'.cell? p = w.cell? p) : OutsIn16 w' B A n os := ⟨h.cs.keep hk, fun p hp => (h.hol p hp).keep hk⟩
theorem OutsIn16.below {w w' : World} {B n : Nat} {A : Option Addr} {os : List (LOut × Option Addr)} (h : OutsIn16 w B A n os) (hb : Below B w w') : OutsIn16 w' B A n os := h.keep fun _ hp => hb.cell hp
theorem OutsIn16.more {w : World} {B B' n : Nat} {A : Option Addr} {os : List (LOut × Option Addr)} (h : OutsIn16 w B A n os) (hB : B ≤ B') : OutsIn16 w B' A n os := ⟨h.cs.more hB, fun p hp => (h.hol p hp).more hB⟩
theorem outs_of16 {w : World} {base b2 c : Nat} {A : Option Addr} {os : List (LOut × Option Addr)} (h : w.ownsRow base 54 6 (.slice A os.length c) os.length (osC16 os)) (hh : ∀ p ∈ os, Hol16 w b2 p) (ho : ∀ p ∈ os, ∀ x ∈ p.1.ch, HoldOk x) : OutsIn16 w w.heap.size A os.length os :=
  ⟨csIn_own h (List.length_map _) (fun k hk => by obtain ⟨p, _, rfl⟩ := List.mem_map.1 hk; rfl) (by omega), fun p hp => by obtain ⟨c', hc⟩ := hh p hp; exact hols_in16 hc (ho p hp)⟩
set_option maxHeartbeats 8000000 in
theorem sameOuts16 (os ps : List (LOut × Option Addr)) (A B : Option Addr) (n c d : Nat) (w : World) (hx : OutsIn16 w w.heap.size A n os) (hy : OutsIn16 w w.heap.size B n ps) (he : os.map (·.1) = ps.map (·.1)) (ho : ∀ p ∈ os, ∀ x ∈ p.1.ch, HoldOk x) (hm : ∀ p ∈ os, p.1.ch.length ≤ 100000) (hn : n ≤ 100000) :
    Calls Tryd.prog 23 #[.slice A n c, .slice B n d] w fun e w' => e = .returned (.bool true) ∧ Below w.heap.size w w' := by
  have HX := Lib.hid hx
  have HY := Lib.hid hy
  have HO := Lib.hid ho
  have HM := Lib.hid hm
  have HLN : Hid (os.length = n ∧ ps.length = n) := Lib.hid ⟨by have := hx.cs.len; rwa [List.length_map] at this, by have := hy.cs.len; rwa [List.length_map] at this⟩
  have HE : Hid (∀ (k : Nat) (p r : LOut × Option Addr), os[k]? = some p → ps[k]? = some r → p.1 = r.1) := Lib.hid fun k p r hp hr => by
    have h1 : (os.map (·.1))[k]? = (ps.map (·.1))[k]? := by rw [he]
    rw [List.getElem?_map, List.getElem?_map, hp, hr] at h1
    exact Option.some.inj h1
  clear hx hy ho hm he
  go_enter Tryd.func23, Tryd.ntmps23
  go_wp2_with fail
  go_loopw [5] (fun i wr => ∃ k : Nat, k ≤ n ∧ i = .int .i64 k ∧ Below w.heap.size w wr) (fun i _ => n - (intOf i).toNat)
  case atStart => exact ⟨0, Nat.zero_le _, rfl, Below.refl _ _⟩
  case round =>
    obtain ⟨k, hk, rfl, hb⟩ := hrel
    have BW := Lib.hid hb
    clear hb
    rename World => wr
    by_cases hlt : k < n
    · have hlt' : (k : Int) < n := by omega
      obtain ⟨⟨o, A1⟩, hp⟩ : ∃ p, os[k]? = some p := ⟨_, List.getElem?_eq_getElem (by rw [HLN.out.1]; exact hlt)⟩
      obtain ⟨⟨o2, B1⟩, hr⟩ : ∃ p, ps[k]? = some p := ⟨_, List.getElem?_eq_getElem (by rw [HLN.out.2]; exact hlt)⟩
      obtain rfl : o = o2 := HE.out k _ _ hp hr
      have hmx := List.mem_of_getElem? hp
      have hmy := List.mem_of_getElem? hr
      obtain ⟨a, xs, ea, hab, hxs, _, hcs⟩ := HX.out.cs.get hlt (by omega)
      obtain ⟨b, ys, eb, hbb, hys, _, hds⟩ := HY.out.cs.get hlt (by omega)
      rw [List.getElem?_map, hp] at hxs
      rw [List.getElem?_map, hr] at hys
      obtain rfl : oC16 (o, A1) = xs := Option.some.inj hxs
      obtain rfl : oC16 (o, B1) = ys := Option.some.inj hys
      have HH1 := Lib.hid (HX.out.hol _ hmx)
      have HH2 := Lib.hid (HY.out.hol _ hmy)
      have HOK : Hid (HolsOk o.ch) := Lib.hid fun x hx => ⟨(HO.out _ hmx x hx).k.1, (HO.out _ hmx x hx).a.o.1⟩
      have HCL := Lib.hid (HM.out _ hmx)
      have HCX : Hid (∀ V, Below w.heap.size w V → ∀ j u, (oC16 (o, A1))[j]? = some u → V.cell? ((a.add (k * 6)).add j) = some u) := Lib.hid fun V hV j u hu => (hV.cell (by rw [addr_block, addr_block]; exact hab)).trans (hcs j u hu)
      have HDX : Hid (∀ V, Below w.heap.size w V → ∀ j u, (oC16 (o, B1))[j]? = some u → V.cell? ((b.add (k * 6)).add j) = some u) := Lib.hid fun V hV j u hu => (hV.cell (by rw [addr_block, addr_block]; exact hbb)).trans (hds j u hu)
      subst ea eb
      clear hp hr hmx hmy hab hbb hxs hys hcs hds
      go_upto_region 6 with fail
      have SB := Lib.hid (show Below w.heap.size w wr.drew from BW.out.drew)
      refine wp_region_held_drew (S := fun V => Below w.heap.size w V) (by kernel_rfl) SB.out (fun _ => ?_)
      try dsimp only [List.append]
      clear BW
      generalize wr.drew = wd at *
      refine takeL (i := 0) (v := ?_) rfl (by kernel_rfl) (by kernel_rfl) (by kernel_rfl) (fun _ _ _ h => h) (Or.inl ⟨by rfl, ?_⟩) SB.out ?_
      rotate_left
      · intro w hw
        try dsimp only at hw
        go_simp
        try with_reducible rfl
      try simp only [Act.put, List.setIfInBounds_toArray, List.set_cons_zero, List.set_cons_succ]
      refine takeL (i := 1) (v := ?_) rfl (by kernel_rfl) (by kernel_rfl) (by kernel_rfl) (fun _ _ _ h => h) (Or.inl ⟨by rfl, ?_⟩) SB.out ?_
      rotate_left
      · intro w hw
        try dsimp only at hw
        go_simp
        try with_reducible rfl
      try simp only [Act.put, List.setIfInBounds_toArray, List.set_cons_zero, List.set_cons_succ]
      refine takeL (i := 2) (v := ?_) rfl (by kernel_rfl) (by kernel_rfl) (by kernel_rfl) (fun _ _ _ h => h) (Or.inl ⟨by rfl, ?_⟩) SB.out ?_
      rotate_left
      · intro w hw
        try dsimp only at hw
        go_simp
        try with_reducible rfl
      try simp only [Act.put, List.setIfInBounds_toArray, List.set_cons_zero, List.set_cons_succ]
      refine takeL (i := 3) (v := .agg (oC16 (o, A1)).toArray) rfl (by kernel_rfl) (by kernel_rfl) (by kernel_rfl) (fun _ _ _ h => h) (Or.inl ⟨by rfl, fun wz hwz => exec_load_at wz 54 (.tmp 19) rfl (a.add (k * 6)) (oC16 (o, A1)) _ Tryd.underlying54 rfl (size_out15 _ _) (HCX.out wz hwz) (by go_simp)⟩) SB.out ?_
      try simp only [Act.put, List.setIfInBounds_toArray, List.set_cons_zero, List.set_cons_succ]
      refine takeL (i := 4) (v := ?_) rfl (by kernel_rfl) (by kernel_rfl) (by kernel_rfl) (fun _ _ _ h => h) (Or.inl ⟨by rfl, ?_⟩) SB.out ?_
      rotate_left
      · intro w hw
        try dsimp only at hw
        go_simp
        try with_reducible rfl
      try simp only [Act.put, List.setIfInBounds_toArray, List.set_cons_zero, List.set_cons_succ]
      refine takeL (i := 5) (v := ?_) rfl (by kernel_rfl) (by kernel_rfl) (by kernel_rfl) (fun _ _ _ h => h) (Or.inl ⟨by rfl, ?_⟩) SB.out ?_
      rotate_left
      · intro w hw
        try dsimp only at hw
        go_simp
        try with_reducible rfl
      try simp only [Act.put, List.setIfInBounds_toArray, List.set_cons_zero, List.set_cons_succ]
      refine takeL (i := 6) (v := ?_) rfl (by kernel_rfl) (by kernel_rfl) (by kernel_rfl) (fun _ _ _ h => h) (Or.inl ⟨by rfl, ?_⟩) SB.out ?_
      rotate_left
      · intro w hw
        try dsimp only at hw
        go_simp
        try with_reducible rfl
      try simp only [Act.put, List.setIfInBounds_toArray, List.set_cons_zero, List.set_cons_succ]
      refine takeL (i := 7) (v := .agg (oC16 (o, B1)).toArray) rfl (by kernel_rfl) (by kernel_rfl) (by kernel_rfl) (fun _ _ _ h => h) (Or.inl ⟨by rfl, fun wz hwz => exec_load_at wz 54 (.tmp 23) rfl (b.add (k * 6)) (oC16 (o, B1)) _ Tryd.underlying54 rfl (size_out15 _ _) (HDX.out wz hwz) (by go_simp)⟩) SB.out ?_
      try simp only [Act.put, List.setIfInBounds_toArray, List.set_cons_zero, List.set_cons_succ]
      refine readyL (i := 8) rfl (by kernel_rfl) (by kernel_rfl) fun K hK => ?_
      go_simp
      refine (sameOut15 o A1 B1 o.ch.length o.ch.length o.ch.length w.heap.size w.heap.size wd (HH1.out.below SB.out) SB.out.size (HH2.out.below SB.out) SB.out.size HOK.out (by have := HCL.out; have h2 : o.ch.length ≤ 100000 := this; unfold maxLen; omega)).mono ?_
      rintro e w1 ⟨rfl, hb1⟩
      have SB := Lib.hid (SB.out.trans (hb1.mono SB.out.size))
      clear hb1
      refine hK.out _ _ SB.out ?_
      clear hK K
      try simp only [Act.put, List.setIfInBounds_toArray, List.set_cons_zero, List.set_cons_succ]
      refine takeL (i := 9) (v := ?_) rfl (by kernel_rfl) (by kernel_rfl) (by kernel_rfl) (fun _ _ _ h => h) (Or.inl ⟨by rfl, ?_⟩) SB.out ?_
      rotate_left
      · intro w hw
        try dsimp only at hw
        go_simp
        try with_reducible rfl
      try simp only [Act.put, List.setIfInBounds_toArray, List.set_cons_zero, List.set_cons_succ]
      refine wpAnyH_done (by kernel_rfl) ?_ _
      go_wp2_with fail
      go_roundw
      case rel => exact ⟨k + 1, by omega, by go_num, SB.out⟩
      case measure => simp [intOf]; omega
    · have hke : k = n := by omega
      have hlt' : ¬ (k : Int) < n := by omega
      go_wp2_with fail
      go_ret
      exact ⟨rfl, BW.out⟩
/-! ### a list of transactions in two parts -/
theorem RdsIn.take16 {w : World} {B n : Nat} {A : Option Addr} {l : List (YRaw × LReady)} (h : RdsIn w B A n l) {k : Nat} (hk : k ≤ n) : RdsIn w B A k (l.take k) := by
  have hg : ∀ (i : Nat) p, (l.take k)[i]? = some p → l[i]? = some p := fun i p hp => by
    have := (List.getElem?_eq_some_iff.1 hp).1
    rw [List.length_take] at this
    rw [List.getElem?_take_of_lt (by omega)] at hp
    exact hp
  exact ⟨by rw [List.length_take, h.len]; omega, fun i p hp => h.each i p (hg i p hp), fun i p hp => h.sees i p (hg i p hp)⟩
def tail16 (A : Option Addr) (c k : Nat) : Option Addr := if c = k then A else A.map (·.add (k * 48))
theorem RdsIn.drop16 {w : World} {B n c : Nat} {A : Option Addr} {l : List (YRaw × LReady)} (h : RdsIn w B A n l) (hn : n ≤ c) {k : Nat} (hk : k ≤ n) : RdsIn w B (tail16 A c k) (n - k) (l.drop k) := by
  have hg : ∀ (i : Nat) p, (l.drop k)[i]? = some p → l[k + i]? = some p := fun i p hp => by rwa [List.getElem?_drop] at hp
  refine ⟨by rw [List.length_drop, h.len], fun i p hp => h.each _ p (hg i p hp), fun i p hp => ?_⟩
  obtain ⟨a, rfl, hb, hc⟩ := h.sees _ p (hg i p hp)
  have h1 := (List.getElem?_eq_some_iff.1 (hg i p hp)).1
  have h2 := h.len
  refine ⟨a.add (k * 48), by unfold tail16; rw [if_neg (by omega)]; rfl, by rw [addr_block]; exact hb, fun j u hu => ?_⟩
  have h3 := hc j u hu
  rw [Nat.add_mul, ← addr_add] at h3
  exact h3
theorem run_tail16 {o : Oper} {a : Act} {w : World} (x i : Operand) (ho : o.op = .slice 72 x (some i) none none)
    (A : Option Addr) (n c k : Nat) (hx : a.eval x = .slice A n c) (hi : a.eval i = .int .i64 k) (hk : k ≤ n) (hn : n ≤ c) (hc : c ≤ maxLen) :
    (execOp a.eval o).run Tryd.prog w = .ok (.value (.slice (tail16 A c k) (n - k) (c - k))) w := by
  unfold maxLen at hc
  have ht := Tryd.underlying72
  obtain ⟨ie, hie, _, hs1, _⟩ := info_parts info_rd16
  have he : Tryd.prog.elem 72 = 41 := by simp [Program.elem, ht]
  have ht' : Tryd.prog.underlying 72 = some (.slice (Tryd.prog.elem 72)) := by rw [he]; exact ht
  have hso : (sizeOf 41).run Tryd.prog w = .ok 48 w := by simp [sizeOf, typeInfo, hie, hs1]
  have h1 : (0 : Int) ≤ k := by omega
  have h2 : (k : Int) ≤ n := by omega
  unfold execOp
  simp only [ho, hx, hi, Option.map_some, Option.map_none]
  simp only [Sem.run_bind, run_sliceAt_slice w 72 _ _ _ _ ht', run_slice_l w 72 A n c ht' .i64 k h1 h2, he, hso, Result.andThen_ok, sliced, tail16, Int.toNat_natCast, Sem.run_pure]
theorem wpList_tail16 {ops : Array Oper} {rest : List Oper} {o : Oper} {a : Act} {w : World} {Q : Exit → Act → World → Prop} (hgd : o.guard = none) (x i : Operand) (ho : o.op = .slice 72 x (some i) none none)
    (A : Option Addr) (n c k : Nat) (hx : a.eval x = .slice A n c) (hi : a.eval i = .int .i64 k) (hk : k ≤ n) (hn : n ≤ c) (hc : c ≤ maxLen)
    (h : wpList Tryd.prog ops Q rest (a.put o.dst (.slice (tail16 A c k) (n - k) (c - k))) w) : wpList Tryd.prog ops Q (o :: rest) a w :=
  wpList_plain hgd fun K hK => by
    unfold Oper.wp
    rw [run_tail16 x i ho A n c k hx hi hk hn hc]
    exact hK _ _ h
end Go.Proofs.YtfaefpniiiandaaDoor

/-
  Of part Same13: what is needed here.
-/
namespace Go.Proofs.YtfaefpniiiandaaDoor
open Go.RowKit Go.Maps
set_option linter.unusedVariables false
set_option maxRecDepth 100000
/-- 'v, ok := m[k]' -/
theorem wpList_look13 {ops : Array Oper} {rest : List Oper} {o : Oper} {a : Act} {w : World} {Q : Exit → Act → World → Prop} (hg : o.guard = none) (m x : Operand) (hop : o.op = Op.lookup 107 m x true) (b n : Nat) {D : DataW Unit} {M : List LHold}
    (hm : a.eval m = .map (some b)) (hown : w.ownsMap Tryd.prog 57 accE b n D) (had : AD D (ks13 M) (getH M)) {k : List Int} (hk : k.length = 32 ∧ AllBytes k) (hx : a.eval x = .agg (bv k).toArray)
    (h : wpList Tryd.prog ops Q rest (a.put o.dst (.tuple #[.agg (getH M k).cells.toArray, .bool (decide (k ∈ ks13 M))])) w) : wpList Tryd.prog ops Q (o :: rest) a w := by
  refine wpList_lookup_own_ok w hg m x 107 hop 57 59 key_law Tryd.underlying107 accE (zero_acc_run w) (accD blank13) [] (accE_mk blank_ok) b n D hm hown _ (KL k) hx (KL_is hk.1 hk.2) fun v ps hv => ?_
  rw [had.at_key hk] at hv
  obtain ⟨y, rfl, hy, e⟩ := accE_inv hv
  injection e with e _
  have : y = getH M k := by
    by_cases hmm : k ∈ ks13 M
    · rw [if_pos hmm] at e
      exact (accD_inj e).symm
    · rw [if_neg hmm] at e
      rw [getH_in.2 hmm]
      exact (accD_inj e).symm
  rw [this, had.has_key hk]
  exact h
theorem same_all {L M : List LHold} (hs : Sto L) (ht : Sto M) (hl : L.length = M.length) {vs : List (List Int)} (hp : vs.Perm (ks13 L)) (h : ∀ k ∈ vs, k ∈ ks13 M ∧ getH L k = getH M k) : L = M := by
  have h1 : ∀ k ∈ ks13 L, k ∈ ks13 M ∧ getH L k = getH M k := fun k hk => h k (hp.symm.subset hk)
  refine hs.ext ht fun k => ?_
  by_cases hk : k ∈ ks13 L
  · exact (h1 k hk).2
  · have hk' : k ∉ ks13 M := fun hm => by
      have := nodup_le13 (l := k :: ks13 L) (m := ks13 M) (List.nodup_cons.2 ⟨hk, ks13_nodup hs.rise⟩) fun x hx => by
        rcases List.mem_cons.1 hx with rfl | hx
        · exact hm
        · exact (h1 x hx).1
      rw [List.length_cons, ks13_len, ks13_len] at this
      omega
    rw [getH_in.2 hk, getH_in.2 hk']
set_option maxHeartbeats 8000000 in
theorem equal13 (mb mb' : Nat) (L M : List LHold) (w : World) {D E : DataW Unit} (ho : w.ownsMap Tryd.prog 57 accE mb L.length D) (hd : AD D (ks13 L) (getH L)) (ho' : w.ownsMap Tryd.prog 57 accE mb' M.length E) (he : AD E (ks13 M) (getH M)) (hs : Sto L) (ht : Sto M) (hL : L.length ≤ 5000) (hM : M.length ≤ 5000) :
    Calls Tryd.prog 45 #[.map (some mb), .map (some mb')] w fun e w' => e = .returned (.bool (decide (L = M))) ∧ Below w.heap.size w w' := by
  have l1 := fun ty => ho.len Tryd.underlying107 ty
  have l2 := fun ty => ho'.len Tryd.underlying107 ty
  rw [hd.size, ks13_len] at l1
  rw [he.size, ks13_len] at l2
  have HOW := Lib.hid ho
  have HOE := Lib.hid ho'
  have HAD := Lib.hid hd
  have HAE := Lib.hid he
  have HST := Lib.hid hs
  have HSE := Lib.hid ht
  clear ho ho' hd he hs ht
  obtain ⟨n, hn⟩ : ∃ n, n = L.length := ⟨_, rfl⟩
  obtain ⟨m, hm⟩ : ∃ m, m = M.length := ⟨_, rfl⟩
  have HN := Lib.hid hn
  have HMM := Lib.hid hm
  rw [← hn] at l1 hL
  rw [← hm] at l2 hM
  clear hn hm
  by_cases hnm : n = m
  · have HNM : Hid (L.length = M.length) := Lib.hid (by rw [← HN.out, ← HMM.out]; exact hnm)
    subst hnm
    go_enter Tryd.func45, Tryd.ntmps45
    go_wp2_with (at_range; go_must (refine wpList_range_own _ rfl (.tmp 14) 107 rfl 57 59 key_law Tryd.underlying107 accE mb L.length D rfl HOW.out ?_; intro w4 hrg hg hsz))
    try go_frame
    have B4 : Hid (Below w.heap.size w w4) := Lib.hid ((Below.refl _ _).grown hg (Nat.le_refl _) (by intro k hk; cases hk))
    have R4 := Lib.hid (RV13.start hrg HAD.out)
    obtain ⟨rr, hrr⟩ : ∃ r, r = w.heap.size := ⟨_, rfl⟩
    have HRR : Hid (w.heap.size ≤ rr) := Lib.hid (Nat.le_of_eq hrr.symm)
    rw [← hrr] at R4 ⊢
    clear hrr hrg hg hsz HOW l1 l2
    go_loopw [16] (fun _ wx => ∃ vs, RV13 wx mb rr L D vs ∧ Hid (∀ k ∈ vs, k ∈ ks13 M ∧ getH L k = getH M k) ∧ Below w.heap.size w wx) (fun _ wx => wx.rangeLeft mb rr)
    case atStart => exact ⟨[], R4.out, Lib.hid (by simp), B4.out⟩
    case round =>
      clear B4 R4
      obtain ⟨vs, hrv, HV, hb⟩ := hrel
      have RV := Lib.hid hrv
      have HB := Lib.hid hb
      clear hrv hb
      go_wp2_with (at_next; go_must (refine wpList_next13 rfl (.tmp 15) rfl rfl HST.out RV.out HAD.out ?_ ?_))
      · intro hp
        have E1 : Hid (decide (L = M) = true) := Lib.hid (decide_eq_true (same_all HST.out HSE.out HNM.out hp HV.out))
        clear hp
        go_wp2_with fail
        go_ret
        exact ⟨by rw [E1.out]; rfl, HB.out⟩
      · intro k1 w5 hk1 hnv hrv1 hlt hg1 hs1 hen
        have RV5 := Lib.hid hrv1
        have HLT := Lib.hid hlt
        have B5 := Lib.hid (HB.out.grown hg1 HB.out.size (fun j hj => by cases hj; exact HRR.out))
        have HEY := Lib.hid (HSE.out.get_ok k1)
        have HIN := Lib.hid hk1
        have HOK := Lib.hid (HST.out.get_ok k1)
        have HKO := Lib.hid (HAD.out.ok k1 hk1).1
        have HSK : Hid ((Tryd.prog.info? 57).map (·.size) = some (bv k1).length) := Lib.hid (by rw [size_key, bv_length, HKO.out.1])
        have HSF := Lib.hid (size_acc HOK.out.o.1)
        have RA := Lib.hid ((Row.new w5 57 (bv (List.replicate 32 0))).alloc (.cells blank13.cells.toArray 59))
        have RB := Lib.hid (Row.new' (w5.alloc (.cells (bv (List.replicate 32 0)).toArray 57)) 59 blank13.cells (g := w5.heap.size + 1) (by simp))
        have BW := Lib.hid (((Below.refl w5.heap.size w5).alloc (Nat.le_refl _) (.cells (bv (List.replicate 32 0)).toArray 57)).alloc (by simp) (.cells blank13.cells.toArray 59))
        have HLZ : Hid ((bv (List.replicate 32 0)).length = (bv k1).length) := Lib.hid (by rw [bv_length, bv_length, HKO.out.1]; rfl)
        have HLA : Hid (blank13.cells.length = (getH L k1).cells.length) := Lib.hid (by rw [acc_len HOK.out.o.1]; rfl)
        clear hk1 hnv hrv1 hlt hg1 hs1
        go_upto_region 6 with (first
        | ((with_reducible show wpList _ _ _ ({ dst := some 5, op := Op.alloc _, type := _, pos := _, after := _, guard := _ } :: _) _ _); go_must (refine wpList_alloc_zero rfl 57 rfl (bv (List.replicate 32 0)) zero_key ?_))
        | ((with_reducible show wpList _ _ _ ({ dst := some 6, op := Op.alloc _, type := _, pos := _, after := _, guard := _ } :: _) _ _); go_must (refine wpList_alloc_zero rfl 59 rfl blank13.cells zero_acc ?_))
        | ((with_reducible show wpList _ _ _ ({ dst := none, op := Op.store 57 _ _, type := _, pos := _, after := _, guard := _ } :: _) _ _); go_must (refine wpList_store_whole rfl 57 (.tmp 5) (.tmp 19) rfl w5.heap.size (bv (List.replicate 32 0)) (bv k1) RA.out HSK.out HLZ.out (bv_one _) ?_ ?_ ?_; go_simp; go_simp; intro w6 hr ht; have RA6 := Lib.hid hr; have RB6 := Lib.hid (ht.row RB.out (by omega)); have BW6 := Lib.hid (BW.out.trans (ht.below (Nat.le_refl _))); clear hr ht))
        | ((with_reducible show wpList _ _ _ ({ dst := none, op := Op.store 59 _ _, type := _, pos := _, after := _, guard := _ } :: _) _ _); go_must (refine wpList_store_whole rfl 59 (.tmp 6) (.tmp 20) rfl (w5.heap.size + 1) blank13.cells (getH L k1).cells RB6.out HSF.out HLA.out (acc_one _) ?_ ?_ ?_; go_simp; go_simp; intro w7 hr ht; have RB7 := Lib.hid hr; have RA7 := Lib.hid (ht.row RA6.out (by omega)); have BW7 := Lib.hid (BW6.out.trans (ht.below (by omega))); clear hr ht)))
        clear hen
        try go_frame
        have e8 : (w5.alloc (.cells (bv (List.replicate 32 0)).toArray 57)).heap.size = w5.heap.size + 1 := by simp
        try rw [e8]
        clear e8
        obtain ⟨ga, hga⟩ : ∃ g, g = w5.heap.size := ⟨_, rfl⟩
        obtain ⟨gb, hgb⟩ : ∃ g, g = w5.heap.size + 1 := ⟨_, rfl⟩
        rw [← hgb] at RB7 ⊢
        rw [← hga] at RA7 ⊢
        clear hgb hga
        have HO7 : Hid (w7.ownsMap Tryd.prog 57 accE mb' M.length E) := Lib.hid (HOE.out.kept (grown_none (B5.out.trans (BW7.out.mono B5.out.size))) (by simp))
        have HLE : Hid (blank13.cells.toArray.size = (getH M k1).cells.length) := Lib.hid (by rw [List.size_toArray, acc_len HEY.out.o.1]; rfl)
        have HSE2 := Lib.hid (size_acc HEY.out.o.1)
        go_upto_region 7 with (first
          | ((with_reducible show wpList _ _ _ ({ dst := some 23, op := Op.load _ _, type := _, pos := _, after := _, guard := _ } :: _) _ _); go_must (refine wpList_load_whole rfl 57 (.tmp 5) rfl ga 57 (bv k1) _ Tryd.underlying57 rfl HSK.out RA7.out ?_ ?_; go_simp))
          | (at_lookup; go_must (refine wpList_look13 rfl (.tmp 22) (.tmp 23) rfl mb' M.length ?_ HO7.out HAE.out HKO.out ?_ ?_; go_simp; go_simp))
          | ((with_reducible show wpList _ _ _ ({ dst := some 7, op := Op.alloc _, type := _, pos := _, after := _, guard := _ } :: _) _ _); go_must (refine wpList_alloc_zero rfl 59 rfl blank13.cells zero_acc ?_))
          | ((with_reducible show wpList _ _ _ ({ dst := none, op := Op.store 59 _ _, type := _, pos := _, after := _, guard := _ } :: _) _ _); go_must (refine wpList_store_new rfl 59 (.tmp 7) (.tmp 25) rfl (getH M k1).cells HSE2.out (acc_one _) HLE.out ?_ ?_ ?_; go_simp; go_simp; intro w8 hr8 hb8 hz8)))
        have RC8 := Lib.hid hr8
        have RB8 := Lib.hid (RB7.out.below hb8 RB7.out.lt)
        have BW8 := Lib.hid (BW7.out.trans (hb8.mono BW7.out.size))
        have B8 := Lib.hid (B5.out.trans (BW8.out.mono B5.out.size))
        have K8 := RV5.out.kept (grown_none BW8.out) (by simp) (by simp)
        have RV8 := Lib.hid K8.1
        have HLT8 := Lib.hid K8.2
        clear hr8 hb8 hz8 K8
        obtain ⟨gc, hgc⟩ : ∃ g, g = w7.heap.size := ⟨_, rfl⟩
        rw [← hgc] at RC8 ⊢
        clear hgc RA7 RB7 BW7 HO7 B5 RV5
        have HNEQ := Lib.hid (fun w => acc_neq (x := getH L k1) (y := getH M k1) HOK.out.o.1 HEY.out.o.1 w)
        by_cases hm : k1 ∈ ks13 M
        · rw [decide_eq_true hm]
          by_cases hy : getH L k1 = getH M k1
          · rw [decide_eq_true hy] at HNEQ
            have HV2 : Hid (∀ k ∈ k1 :: vs, k ∈ ks13 M ∧ getH L k = getH M k) := Lib.hid fun k hk => by
              rcases List.mem_cons.1 hk with rfl | hk
              · exact ⟨hm, hy⟩
              · exact HV.out k hk
            clear hm hy
            have NEQ := HNEQ.out
            clear HNEQ
            go_wp2_with (first
              | ((with_reducible show wpList _ _ _ ({ dst := some 30, op := Op.load _ _, type := _, pos := _, after := _, guard := _ } :: _) _ _); go_must (refine wpList_load_atg (by kernel_rfl) 59 (.tmp 6) rfl ⟨gb, 0, none⟩ (getH L k1).cells _ Tryd.underlying59 rfl HSF.out (fun j u hu => by rw [addr_row, Nat.zero_add]; exact (RB8.out.cell j).trans hu) ?_ ?_; go_simp))
              | ((with_reducible show wpList _ _ _ ({ dst := some 31, op := Op.load _ _, type := _, pos := _, after := _, guard := _ } :: _) _ _); go_must (refine wpList_load_atg (by kernel_rfl) 59 (.tmp 7) rfl ⟨gc, 0, none⟩ (getH M k1).cells _ Tryd.underlying59 rfl HSE2.out (fun j u hu => by rw [addr_row, Nat.zero_add]; exact (RC8.out.cell j).trans hu) ?_ ?_; go_simp)))
            go_roundw
            case rel => exact ⟨k1 :: vs, RV8.out, HV2, B8.out⟩
            case measure =>
              show World.rangeLeft _ mb rr < World.rangeLeft _ mb rr
              rw [HLT8.out]
              exact HLT.out
          · rw [decide_eq_false hy] at HNEQ
            have E1 : Hid (decide (L = M) = false) := Lib.hid (decide_eq_false fun e => hy (by rw [e]))
            clear hm hy
            have NEQ := HNEQ.out
            clear HNEQ
            go_wp2_with (first
              | ((with_reducible show wpList _ _ _ ({ dst := some 30, op := Op.load _ _, type := _, pos := _, after := _, guard := _ } :: _) _ _); go_must (refine wpList_load_atg (by kernel_rfl) 59 (.tmp 6) rfl ⟨gb, 0, none⟩ (getH L k1).cells _ Tryd.underlying59 rfl HSF.out (fun j u hu => by rw [addr_row, Nat.zero_add]; exact (RB8.out.cell j).trans hu) ?_ ?_; go_simp))
              | ((with_reducible show wpList _ _ _ ({ dst := some 31, op := Op.load _ _, type := _, pos := _, after := _, guard := _ } :: _) _ _); go_must (refine wpList_load_atg (by kernel_rfl) 59 (.tmp 7) rfl ⟨gc, 0, none⟩ (getH M k1).cells _ Tryd.underlying59 rfl HSE2.out (fun j u hu => by rw [addr_row, Nat.zero_add]; exact (RC8.out.cell j).trans hu) ?_ ?_; go_simp)))
            go_ret
            exact ⟨by rw [E1.out]; rfl, B8.out⟩
        · rw [decide_eq_false hm]
          have E1 : Hid (decide (L = M) = false) := Lib.hid (decide_eq_false fun e => hm (by rw [← e]; exact HIN.out))
          clear hm HNEQ
          go_wp2_with fail
          go_ret
          exact ⟨by rw [E1.out]; rfl, B8.out⟩
  · have hne : ¬ (n : Int) = (m : Int) := fun e => hnm (by exact_mod_cast e)
    have E1 : Hid (decide (L = M) = false) := Lib.hid (decide_eq_false fun e => hnm (by rw [HN.out, HMM.out, e]))
    clear hnm
    go_enter Tryd.func45, Tryd.ntmps45
    go_wp2_with fail
    go_ret
    exact ⟨by rw [E1.out]; rfl, Below.refl _ _⟩
set_option maxHeartbeats 1000000 in
theorem same13 (sb mb sb' mb' : Nat) (L M : List LHold) (w : World) (h : StIn w sb mb L) (h' : StIn w sb' mb' M) (hL : L.length ≤ 5000) (hM : M.length ≤ 5000) : Calls Tryd.prog 24 #[.pointer (some ⟨sb, 0, none⟩), .pointer (some ⟨sb', 0, none⟩)] w fun e w' => e = .returned (.bool (decide (L = M))) ∧ Below w.heap.size w w' := by
  have HT := Lib.hid (there13 sb mb L w h)
  have HU := Lib.hid (there13 sb' mb' M w h')
  have c0 : w.cell? ⟨sb, 0, none⟩ = some (.map (some mb)) := h.row.cell 0
  have c1 : w.cell? ⟨sb', 0, none⟩ = some (.map (some mb')) := h'.row.cell 0
  obtain ⟨D, ho, hd⟩ := h.map
  obtain ⟨E, ho', he⟩ := h'.map
  have HE : Hid (∀ V, Below w.heap.size w V → Calls Tryd.prog 45 #[.map (some mb), .map (some mb')] V fun e w' => e = .returned (.bool (decide (L = M))) ∧ Below w.heap.size w w') := Lib.hid fun V hV =>
    (equal13 mb mb' L M V (ho.kept (grown_none hV) (by simp)) hd (ho'.kept (grown_none hV) (by simp)) he h.sto h'.sto hL hM).mono fun e w' ⟨h1, h2⟩ => ⟨h1, hV.trans (h2.mono hV.size)⟩
  have HC : Hid (∀ V, Below w.heap.size w V → V.cell? ⟨sb, 0, none⟩ = some (.map (some mb)) ∧ V.cell? ⟨sb', 0, none⟩ = some (.map (some mb'))) := Lib.hid fun V hV => ⟨(hV.cell h.lt.1).trans c0, (hV.cell h'.lt.1).trans c1⟩
  clear c0 c1
  clear h h' ho ho' hd he
  generalize decide (L = M) = r at *
  go_enter Tryd.func24, Tryd.ntmps24
  go_wp2_with fail
  refine HT.out.mono ?_
  rintro e w' ⟨rfl, rfl⟩
  go_wp2_with fail
  refine HU.out.mono ?_
  rintro e w' ⟨rfl, rfl⟩
  go_wp2_with fail
  refine wp_region_held_drew (S := (fun V => Below w.heap.size w V)) (by kernel_rfl) (Below.refl w.heap.size w).drew (fun _ => ?_)
  refine takeL (i := 0) (v := ?_) rfl (by kernel_rfl) (by kernel_rfl) (by kernel_rfl) (fun _ _ _ h => h) (Or.inl ⟨by rfl, ?_⟩) (Below.refl w.heap.size w).drew ?_
  rotate_left
  · intro w hw
    try dsimp only at hw
    go_simp
    try with_reducible rfl
  try simp only [Act.put, List.setIfInBounds_toArray, List.set_cons_zero, List.set_cons_succ]
  refine takeL (i := 1) (v := ?_) rfl (by kernel_rfl) (by kernel_rfl) (by kernel_rfl) (fun _ _ _ h => h) (Or.inl ⟨by rfl, ?_⟩) (Below.refl w.heap.size w).drew ?_
  rotate_left
  · intro w hw
    try dsimp only at hw
    go_simp
    try with_reducible rfl
  try simp only [Act.put, List.setIfInBounds_toArray, List.set_cons_zero, List.set_cons_succ]
  refine takeL (i := 2) (v := ?_) rfl (by kernel_rfl) (by kernel_rfl) (by kernel_rfl) (fun _ _ _ h => h) (Or.inl ⟨by rfl, ?_⟩) (Below.refl w.heap.size w).drew ?_
  rotate_left
  · intro w hw
    try dsimp only at hw
    go_simp
    try with_reducible rfl
  try simp only [Act.put, List.setIfInBounds_toArray, List.set_cons_zero, List.set_cons_succ]
  refine takeL (i := 3) (v := ?_) rfl (by kernel_rfl) (by kernel_rfl) (by kernel_rfl) (fun _ _ _ h => h) (Or.inl ⟨by rfl, ?_⟩) (Below.refl w.heap.size w).drew ?_
  rotate_left
  · intro w hw
    try dsimp only at hw
    have hc := (HC.out _ hw).1
    go_simp
    try with_reducible rfl
  try simp only [Act.put, List.setIfInBounds_toArray, List.set_cons_zero, List.set_cons_succ]
  refine takeL (i := 4) (v := ?_) rfl (by kernel_rfl) (by kernel_rfl) (by kernel_rfl) (fun _ _ _ h => h) (Or.inl ⟨by rfl, ?_⟩) (Below.refl w.heap.size w).drew ?_
  rotate_left
  · intro w hw
    try dsimp only at hw
    go_simp
    try with_reducible rfl
  try simp only [Act.put, List.setIfInBounds_toArray, List.set_cons_zero, List.set_cons_succ]
  refine takeL (i := 5) (v := ?_) rfl (by kernel_rfl) (by kernel_rfl) (by kernel_rfl) (fun _ _ _ h => h) (Or.inl ⟨by rfl, ?_⟩) (Below.refl w.heap.size w).drew ?_
  rotate_left
  · intro w hw
    try dsimp only at hw
    go_simp
    try with_reducible rfl
  try simp only [Act.put, List.setIfInBounds_toArray, List.set_cons_zero, List.set_cons_succ]
  refine takeL (i := 6) (v := ?_) rfl (by kernel_rfl) (by kernel_rfl) (by kernel_rfl) (fun _ _ _ h => h) (Or.inl ⟨by rfl, ?_⟩) (Below.refl w.heap.size w).drew ?_
  rotate_left
  · intro w hw
    try dsimp only at hw
    go_simp
    try with_reducible rfl
  try simp only [Act.put, List.setIfInBounds_toArray, List.set_cons_zero, List.set_cons_succ]
  refine takeL (i := 7) (v := ?_) rfl (by kernel_rfl) (by kernel_rfl) (by kernel_rfl) (fun _ _ _ h => h) (Or.inl ⟨by rfl, ?_⟩) (Below.refl w.heap.size w).drew ?_
  rotate_left
  · intro w hw
    try dsimp only at hw
    have hc := (HC.out _ hw).2
    go_simp
    try with_reducible rfl
  try simp only [Act.put, List.setIfInBounds_toArray, List.set_cons_zero, List.set_cons_succ]
  refine readyL (i := 8) rfl (by kernel_rfl) (by kernel_rfl) fun K hK => ?_
  go_simp
  refine (HE.out _ (Below.refl w.heap.size w).drew).mono ?_
  rintro e w1 ⟨rfl, hb⟩
  have B1 := Lib.hid hb
  clear hb
  refine hK.out _ _ B1.out ?_
  clear hK K
  try simp only [Act.put, List.setIfInBounds_toArray, List.set_cons_zero, List.set_cons_succ]
  refine takeL (i := 9) (v := ?_) rfl (by kernel_rfl) (by kernel_rfl) (by kernel_rfl) (fun _ _ _ h => h) (Or.inl ⟨by rfl, ?_⟩) B1.out ?_
  rotate_left
  · intro w hw
    try dsimp only at hw
    go_simp
    try with_reducible rfl
  try simp only [Act.put, List.setIfInBounds_toArray, List.set_cons_zero, List.set_cons_succ]
  refine wpAnyH_done (by kernel_rfl) ?_ _
  go_wp2_with fail
  go_ret
  exact ⟨rfl, B1.out⟩
end Go.Proofs.YtfaefpniiiandaaDoor
