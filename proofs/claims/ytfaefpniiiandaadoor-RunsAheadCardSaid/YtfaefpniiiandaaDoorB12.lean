/-
  Parts joined: AheadWalk15.
-/
import Derived.Below
import Derived.Laws.OwnMore
import Derived.Deep.AppendLies
import Derived.Deep.Draws
import Derived.Lib.Hide
import Derived.Laws.MakeOwn
import Derived.Laws.CopyOwn
import Derived.Laws.Rows
import Derived.Laws.BitsAllLaws
import Derived.WalkKit
import Derived.Test.YtfaefpniiiandaaDoorRows
import Derived.WalkSpells
import Derived.WalkLawsBesides
import Derived.IntWalk
import Derived.Deep.MidRow
import Derived.Deep.WholeRow
import Derived.Maps.AppendAt
import Derived.OwnWalk
import Derived.Great.BuildSlice
import Derived.Recover
import Derived.Deep.RegionHeld
import Derived.Deep.QuietTactic
import Derived.BigQuiet
import Derived.ChangeKeysEq
import Derived.Deep.RegionHeld2
import Derived.Deep.CutBlock
import Derived.Laws.Tables
import Derived.ProofKit
import Derived.OpenShut
import Derived.ShutString
import Derived.ChangeOld
import Derived.Lib.SmallJoins
import Derived.Deep.Slices
import Derived.Deep.Strs
import Derived.SizedLaws
import Derived.Laws.StructEq
import Derived.Laws.Slices
import Derived.Deep.DeepCutAuto
import Derived.Maps.OwnSet
import Derived.DeepKeys4
import Derived.WideKeyArr
import Derived.Laws.EntriesVeiled
import Derived.Deep.RegionHeld3
import Derived.WideKeyEntry
import Derived.WalkMore
import Derived.Shelf.SlMaps.Clone
import Derived.Laws.Append
import Derived.Laws.AppendOwn
import Derived.LaidMore
import Derived.Maps.OwnOps
import Derived.Maps.RangeWalk
import Derived.Laws.BytesArg
import Derived.Laws.Strings
import Derived.Lib.Strings
import Derived.Great.Walk
import Derived.Laws.Bits64b
import Derived.Laws.Externs
import Derived.LaidHandle
import Derived.LaidLaws
import Derived.LaidEql
import Derived.Stop.Asserts
import Derived.RowKitTokens
import Derived.Test.YtfaefpniiiandaaDoorB1
import Derived.Test.YtfaefpniiiandaaDoorB2
import Derived.Test.YtfaefpniiiandaaDoorB3
import Derived.Test.YtfaefpniiiandaaDoorB4
import Derived.Test.YtfaefpniiiandaaDoorB5
import Derived.Test.YtfaefpniiiandaaDoorB6
import Derived.Test.YtfaefpniiiandaaDoorB7
import Derived.Test.YtfaefpniiiandaaDoorB8
import Derived.Test.YtfaefpniiiandaaDoorB9
import Derived.Test.YtfaefpniiiandaaDoorB10
import Derived.Test.YtfaefpniiiandaaDoorB11
/-
  Of part AheadWalk15: what is needed here.
-/
namespace Go.Proofs.YtfaefpniiiandaaDoor
open Go.RowKit
set_option linter.unusedVariables false
set_option maxRecDepth 100000
/-- what is there once the transaction has run -/
structure AW15 (w V : World) (B g2 g7 g9 b7 : Nat) (q : YRaw) (x : LReady) (LA : Option Addr) (ln : Nat) (l : List LAcc) (A2 : Option Addr) (c2 : Nat) (o : LOut) (cs : List Value) : Prop where
  f : FW15 w V B g2 q x LA ln l
  r7 : Row V g7 54 (o.cells (.slice A2 o.ch.length o.ch.length))
  o7 : V.ownsRow b7 64 66 (.slice A2 o.ch.length c2) o.ch.length (holC o.ch)
  r9 : Row V g9 41 cs
section
variable {w V V' : World} {B g2 g7 g9 b7 ln c2 : Nat} {q : YRaw} {x : LReady} {LA A2 : Option Addr} {l : List LAcc} {o : LOut} {cs : List Value}
theorem AW15.below (h : AW15 w V B g2 g7 g9 b7 q x LA ln l A2 c2 o cs) (hB : B ≤ w.heap.size) {N : Nat} (hw : w.heap.size ≤ N) (h2 : g2 < N) (h7 : g7 < N) (h9 : g9 < N) (ho : ∀ g, (Value.slice A2 o.ch.length c2).ownBlock = some g → g < N) (hb : Below N V V') : AW15 w V' B g2 g7 g9 b7 q x LA ln l A2 c2 o cs :=
  ⟨⟨h.f.b.trans (hb.mono hw), h.f.r2.below hb h2, h.f.rd.below (hb.mono (Nat.le_trans hB hw)), h.f.ac.below (hb.mono (Nat.le_trans hB hw))⟩, h.r7.below hb h7, own_keep h.o7 fun g hg => hb.block g (ho g hg), h.r9.below hb h9⟩
theorem AW15.set9 (h : AW15 w V B g2 g7 g9 b7 q x LA ln l A2 c2 o cs) (hB : B ≤ w.heap.size) (hw : w.heap.size ≤ g9) (h2 : g2 ≠ g9) (h7 : g7 ≠ g9) (j : Nat) (u : Value) : AW15 w (V.setCell ⟨g9, j, none⟩ u) B g2 g7 g9 b7 q x LA ln l A2 c2 o (cs.set j u) := by
  have ht := turned_setCell V ⟨g9, j, none⟩ u
  exact ⟨⟨h.f.b.trans (ht.below hw), ht.row h.f.r2 h2, h.f.rd.below (ht.below (Nat.le_trans hB hw)), h.f.ac.below (ht.below (Nat.le_trans hB hw))⟩, ht.row h.r7 h7, own_turned h.o7 h.r9 (by decide) ht, h.r9.set_ j u⟩
end
set_option maxHeartbeats 16000000 in
theorem ahead_walk15 (q : YRaw) (x : LReady) (B : Nat) (LA : Option Addr) (ln lc : Nat) (l : List LAcc) (DA : Option Addr) (dn dc : Nat) (dat : List Int) (w : World) (h : ReadyIn w B q x) (hl : AccsIn w B LA ln l) (hlc : ln ≤ lc ∧ lc ≤ maxLen) (hd : Sees w B DA dn (bv dat)) (hdb : AllBytes dat) (hdc : dn ≤ dc ∧ dc ≤ maxLen) (hB : B ≤ w.heap.size) (hwd : Wide15 x) (hlm : ln ≤ 140737488355328) (hok : RdOk15 x) (htw : TypAt w) :
    Calls Tryd.prog 4 #[.agg (q.cells x).toArray, .slice LA ln lc, .slice DA dn dc] w fun e w' => e = .returned (.bool true) ∧ Below w.heap.size w w' := by
  have hb0 := (Below.refl w.heap.size w).alloc (Nat.le_refl _) (.cells (q.cells x).toArray 41)
  have X0 : Hid (FW15 w (w.alloc (.cells (q.cells x).toArray 41)) B w.heap.size q x LA ln l) := Lib.hid ⟨hb0, Row.new w 41 (q.cells x), h.below (hb0.mono hB), hl.below (hb0.mono hB)⟩
  have HB := Lib.hid hB
  have HT := Lib.hid htw
  have HOK := Lib.hid hok
  have HLC := Lib.hid hlc
  have HD := Lib.hid (fun (V : World) (hb : Below w.heap.size w V) => hd.below (hb.mono hB))
  have HDB := Lib.hid hdb
  have HBW : Hid (BytesIn w B (.slice DA dn dc) dat) := Lib.hid (by
    have hz : dat.length = dn := by have := hd.len; rwa [bv_length] at this
    subst hz
    exact ⟨DA, dc, rfl, hd, hdc⟩)
  have HDC := Lib.hid hdc
  have HDL : Hid (dat.length = dn) := Lib.hid (by have := hd.len; rwa [bv_length] at this)
  have H32 := Lib.hid h.tx.m.recent
  have HNI := Lib.hid h.tx.m.ins.len
  have HRL := Lib.hid h.rs.len
  have HLL := Lib.hid hl.len
  have HWD := Lib.hid hwd
  obtain ⟨g2, hg2⟩ : ∃ g, g = w.heap.size := ⟨_, rfl⟩
  have HG2 : Hid (w.heap.size = g2) := Lib.hid hg2.symm
  have HG2K : Hid (w.heap.size = g2) := Lib.hid hg2.symm
  rw [← hg2] at X0
  clear hb0 h hl hlc hd hdb hdc hB hwd hok htw hg2
  generalize hW : w.alloc (.cells (q.cells x).toArray 41) = W at *
  have HW := Lib.hid hW
  clear hW
  go_enter Tryd.func4, Tryd.ntmps4
  go_upto_region 1 with fail
  try rw [HG2.out]
  rw [HW.out]
  clear HG2 HW
  by_cases hlong : 300 < ln
  · have hl1 : (300 : Int) < ln := by omega
    go_wp2_with fail
    refine (lives15 _ (HT.out.below X0.out.b HT.out.pos)).mono ?_
    rintro e wl ⟨rfl, hbl⟩
    have BL := Lib.hid (X0.out.b.trans (hbl.mono X0.out.b.size))
    clear hbl
    go_wp2_with fail
    go_ret
    exact ⟨rfl, BL.out⟩
  have hl1 : ¬ (300 : Int) < ln := by omega
  have hl2 : (ln : Int) ≤ 300 := by omega
  have HGR := Lib.hid (great15 q x B W X0.out.rd (Nat.le_trans HB.out X0.out.b.size) HWD.out)
  go_wp2_with (first
    | ((with_reducible show wpList _ _ _ ({ dst := some 18, op := Op.load _ _, type := _, pos := _, after := _, guard := _ } :: _) _ _); go_must (refine wpList_load_atg (by kernel_rfl) 41 (.tmp 3) rfl ⟨g2, 0, none⟩ (q.cells x) _ Tryd.underlying41 rfl (size_rd15b H32.out) (fun j v hv => by rw [addr_row, X0.out.r2.cell, Nat.zero_add]; exact hv) ?_ ?_; go_simp))
    | fail)
  refine HGR.out.mono ?_
  rintro e w1 ⟨⟨bg, rfl, hfew⟩, hb1⟩
  have X1 := Lib.hid (X0.out.below HB.out hb1)
  clear hb1 X0 HGR HWD
  cases bg with
  | true =>
    clear hfew
    go_wp2_with fail
    refine (lives15 _ (HT.out.below X1.out.b HT.out.pos)).mono ?_
    rintro e wl ⟨rfl, hbl⟩
    have BL := Lib.hid (X1.out.b.trans (hbl.mono X1.out.b.size))
    clear hbl
    go_wp2_with fail
    go_ret
    exact ⟨rfl, BL.out⟩
  | false =>
    have HF := Lib.hid (hfew rfl)
    clear hfew hlm
    by_cases hdl : 1000 < dn
    · have hd1 : (1000 : Int) < dn := by omega
      go_wp2_with fail
      refine (lives15 _ (HT.out.below X1.out.b HT.out.pos)).mono ?_
      rintro e wl ⟨rfl, hbl⟩
      have BL := Lib.hid (X1.out.b.trans (hbl.mono X1.out.b.size))
      clear hbl
      go_wp2_with fail
      go_ret
      exact ⟨rfl, BL.out⟩
    have hd1 : (dn : Int) ≤ 1000 := by omega
    have hd2 : ¬ (1000 : Int) < dn := by omega
    obtain ⟨rn, hrn⟩ : ∃ n, n = q.rn := ⟨_, rfl⟩
    have HRN := Lib.hid hrn
    have c41 : w1.cell? ⟨g2, 41, none⟩ = some (.slice q.RA rn q.rc) := by rw [hrn]; exact (X1.out.r2.cell 41).trans (ycells_41 H32.out 0)
    clear hrn
    by_cases hr0 : rn = 0
    · have hr1 : (rn : Int) = 0 := by omega
      go_wp2_with fail
      refine (lives15 _ (HT.out.below X1.out.b HT.out.pos)).mono ?_
      rintro e wl ⟨rfl, hbl⟩
      have BL := Lib.hid (X1.out.b.trans (hbl.mono X1.out.b.size))
      clear hbl
      go_wp2_with fail
      go_ret
      exact ⟨rfl, BL.out⟩
    have hr1 : ¬ (rn : Int) = 0 := by omega
    by_cases hr2 : 200 < rn
    · have hr3 : (200 : Int) < rn := by omega
      go_wp2_with fail
      refine (lives15 _ (HT.out.below X1.out.b HT.out.pos)).mono ?_
      rintro e wl ⟨rfl, hbl⟩
      have BL := Lib.hid (X1.out.b.trans (hbl.mono X1.out.b.size))
      clear hbl
      go_wp2_with fail
      go_ret
      exact ⟨rfl, BL.out⟩
    have hr3 : ¬ (200 : Int) < rn := by omega
    have hr4 : (rn : Int) ≤ 200 := by omega
    have d1 : decide ((1000 : Int) < (dn : Int)) = false := decide_eq_false hd2
    have d2 : ((rn : Int) == 0) = false := by simpa using hr0
    have d3 : decide ((200 : Int) < (rn : Int)) = false := decide_eq_false hr3
    have HRU := Lib.hid (fw_run15 X1.out HB.out HLC.out (by omega) HF.out HOK.out HT.out)
    obtain ⟨R, hR⟩ : ∃ R, R = run15 x l := ⟨_, rfl⟩
    rw [← hR] at HRU
    have HR := Lib.hid hR
    clear hR
    go_wp2_with (first
      | ((with_reducible show wpList _ _ _ ({ dst := some 40, op := Op.load _ _, type := _, pos := _, after := _, guard := _ } :: _) _ _); go_must (refine wpList_load_whole rfl 41 (.tmp 3) rfl g2 _ (q.cells x) _ Tryd.underlying41 rfl (size_rd15b H32.out) X1.out.r2 ?_ ?_; go_simp))
      | fail)
    clear c41 d1 d2 d3
    refine HRU.out.mono ?_
    clear HRU
    rintro e w2 ⟨A2, c2, rfl, ho2, hb2⟩
    have X2 := Lib.hid (X1.out.below HB.out hb2)
    have O2 := Lib.hid ho2
    have HGW : Hid (w.heap.size ≤ w1.heap.size) := Lib.hid X1.out.b.size
    clear ho2 hb2 X1
    obtain ⟨o, oe⟩ := R
    obtain ⟨b7, hb7⟩ : ∃ b, b = w1.heap.size := ⟨_, rfl⟩
    rw [← hb7] at O2
    clear hb7 HGW
    dsimp only at O2 ⊢
    go_upto_region 4 with (first
      | ((with_reducible show wpList _ _ _ ({ dst := some 7, op := Op.alloc _, type := _, pos := _, after := _, guard := _ } :: _) _ _); go_must (refine wpList_alloc_zero rfl 54 rfl (out0.cells (.slice none 0 0)) zero_out15 ?_))
      | ((with_reducible show wpList _ _ _ ({ dst := none, op := Op.store 54 _ _, type := _, pos := _, after := _, guard := _ } :: _) _ _); go_must (refine wpList_store_new rfl 54 (.tmp 7) (.tmp 43) rfl (o.cells (.slice A2 o.ch.length o.ch.length)) (size_out15 _ _) (out_one15 _ rfl) rfl ?_ ?_ ?_; go_simp; go_simp; intro w5 hr5 hb5 hz5)))
    have R5 := Lib.hid hr5
    have X3 := Lib.hid (X2.out.below HB.out hb5)
    have O3 := Lib.hid (own_below O2.out hb5)
    obtain ⟨g7, hg7⟩ : ∃ g, g = w2.heap.size := ⟨_, rfl⟩
    have HG7 : Hid (g2 < g7 ∧ w.heap.size ≤ g7 ∧ ∀ g, (Value.slice A2 o.ch.length c2).ownBlock = some g → g < g7) := Lib.hid ⟨by rw [hg7]; exact X2.out.r2.lt, by rw [hg7]; exact X2.out.b.size, fun g hg => by rw [hg7]; exact (O2.out.lt g hg).2⟩
    rw [← hg7] at R5 ⊢
    clear hr5 hb5 hz5 hg7 X2 O2
    by_cases hoe : oe = 0
    rotate_left
    · have h1 : (oe == 0) = false := by simpa using hoe
      have h2 : (oe != 0) = true := by simpa using hoe
      go_wp2_with fail
      refine (lives15 _ (HT.out.below X3.out.b HT.out.pos)).mono ?_
      rintro e wl ⟨rfl, hbl⟩
      have BL := Lib.hid (X3.out.b.trans (hbl.mono X3.out.b.size))
      clear hbl
      go_wp2_with fail
      go_ret
      exact ⟨rfl, BL.out⟩
    subst hoe
    have H15 := Lib.hid (ahead15 (x := x) (l := l) (dat := dat) (by rw [← HR.out]) (fun a ha => ⟨(HOK.out.p a ha).1, (HOK.out.ab a ha).1⟩))
    rw [← HR.out] at H15
    have H2 := Lib.hid (run_two15 (x := x) (l := l) (by rw [← HR.out]))
    have HCS := Lib.hid (run_is15 x l HOK.out.u.1)
    rw [← HR.out] at HCS
    go_upto_region 7 with (first
      | ((with_reducible show wpList _ _ _ ({ dst := some 48, op := Op.load _ _, type := _, pos := _, after := _, guard := _ } :: _) _ _); go_must (refine wpList_load_whole rfl 41 (.tmp 3) rfl g2 _ (q.cells x) _ Tryd.underlying41 rfl (size_rd15b H32.out) X3.out.r2 ?_ ?_; go_simp))
      | ((with_reducible show wpList _ _ _ ({ dst := some 9, op := Op.alloc _, type := _, pos := _, after := _, guard := _ } :: _) _ _); go_must (refine wpList_alloc_zero rfl 41 rfl zrdC zero_rdx ?_))
      | ((with_reducible show wpList _ _ _ ({ dst := none, op := Op.store 41 _ _, type := _, pos := _, after := _, guard := _ } :: _) _ _); go_must (refine wpList_store_new rfl 41 (.tmp 9) (.tmp 48) rfl (q.cells x) (size_rd15b H32.out) ycells_one (by rw [ycells_len H32.out]; rfl) ?_ ?_ ?_; go_simp; go_simp; intro w6 hr6 hb6 hz6)))
    have hr9a := hr6
    obtain ⟨g9, hg9⟩ : ∃ g, g = w5.heap.size := ⟨_, rfl⟩
    have HG9 : Hid (g7 < g9 ∧ w.heap.size ≤ g9 ∧ g2 ≠ g9 ∧ g7 ≠ g9) := Lib.hid (by rw [hg9]; have h1 := R5.out.lt; have h2 := X3.out.r2.lt; have h3 := X3.out.b.size; exact ⟨h1, h3, by omega, by omega⟩)
    have HG9Z : Hid (w6.heap.size = g9 + 1) := Lib.hid (by rw [hz6, hg9])
    rw [← hg9] at hr6 ⊢
    have M6 : Hid (AW15 w w6 B g2 g7 g9 b7 q x LA ln l A2 c2 o (q.cells x)) := Lib.hid ⟨X3.out.below HB.out hb6, R5.out.below hb6 R5.out.lt, own_below O3.out hb6, hr6⟩
    clear hr6 hb6 hz6 hg9 hr9a X3 R5 O3
    have c41 : w6.cell? ⟨g2, 41, none⟩ = some (.slice q.RA rn q.rc) := by rw [HRN.out]; exact (M6.out.f.r2.cell 41).trans (ycells_41 H32.out 0)
    have HSR : Hid (Sees w6 B q.RA (rn * 34) (rolC15 x.roles)) := Lib.hid (by rw [HRN.out]; exact M6.out.f.rd.rs.cs.sees)
    have HBZ : Hid (B ≤ w6.heap.size) := Lib.hid (Nat.le_trans HB.out M6.out.f.b.size)
    go_upto_region 8 with (first
      | ((with_reducible show wpList _ _ _ ({ dst := some 51, op := _, type := _, pos := _, after := _, guard := _ } :: _) _ _); go_must (refine wpList_appendN rfl (.const (.slice none 0 0)) (.tmp 50) 36 62 _ 34 34 rfl Tryd.underlying36 infoR (by kernel_rfl) (by omega) (.slice none 0 0) 0 [] w6.heap.size B q.RA rn q.rc (rolC15 x.roles) rfl (own_nilN _ _ _ _) ?_ HSR.out (rolC_one15 _) (by unfold maxLen; omega) (by omega) (Nat.le_refl _) ?_; go_simp; intro v1 w7 ho1 hg1; rw [Nat.zero_add, List.nil_append] at ho1; obtain ⟨A3, c3, rfl, _, _, _, _⟩ := own_form2 ho1; have BB7 := Lib.hid ((Below.refl w6.heap.size w6).grown hg1.grown (Nat.le_refl _) (fun k hk => by cases hk)); have OO7 := Lib.hid ho1; clear hg1 ho1))
      | (go_at_call 16; refine (budget_ _).mono ?_; rintro e w8 ⟨rfl, hb8⟩; have BB8 := Lib.hid (BB7.out.trans (hb8.mono BB7.out.size)); have OO8 := Lib.hid (own_below OO7.out hb8); clear hb8 OO7 BB7)
      | ((with_reducible show wpList _ _ _ ({ dst := some 53, op := Op.build _ _, type := _, pos := _, after := _, guard := _ } :: _) _ _); go_must (refine wpList_plain rfl fun K hK => wp_built _ _ _ rfl (by simp only [List.map_toArray, List.map_cons, List.map_nil]; exact built_r315) (hK _ _ ?_)))
      | ((with_reducible show wpList _ _ _ ({ dst := some 54, op := Op.buildSlice _ _ _, type := _, pos := _, after := _, guard := _ } :: _) _ _); go_must (refine wpList_buildOne rfl 36 62 (.tmp 53) rfl (LRole.mk k3 false false).cells _ 34 34 Tryd.underlying36 infoR (by kernel_rfl) (by omega) (by omega) r3_len15 ?_ ?_; go_simp))
      | ((with_reducible show wpList _ _ _ ({ dst := some 55, op := _, type := _, pos := _, after := _, guard := _ } :: _) _ _); go_must (refine wpList_addRow rfl (.tmp 51) (.tmp 54) 36 rfl w6.heap.size 62 _ 34 34 Tryd.underlying36 infoR (by kernel_rfl) (by omega) (.slice A3 rn c3) rn (rolC15 x.roles) (LRole.mk k3 false false).cells 1 r3_len15 (role_one _) rfl ?_ OO8.out ?_ BB8.out.size (by unfold maxLen; omega) (by omega) ?_; go_simp; go_simp; intro v2 w9 ho2 hg2; obtain ⟨A4, c4, rfl, _, _, _, _⟩ := own_form2 ho2; have BB9 := Lib.hid (BB8.out.trans (hg2.below OO8.out BB8.out.size)); have OO9 := Lib.hid ho2; have M9 := Lib.hid (M6.out.below HB.out M6.out.f.b.size M6.out.f.r2.lt M6.out.r7.lt M6.out.r9.lt (fun g hg => (M6.out.o7.lt g hg).2) BB9.out); have c9 : w9.cell? ⟨g9, 41, none⟩ = some (.slice q.RA rn q.rc) := (M9.out.r9.cell 41).trans (by rw [HRN.out]; exact ycells_41 H32.out 0); have f9 := M9.out.r9.frozen 41; clear hg2 ho2))
      | fail)
    have ht9 := turned_setCell w9 ⟨g9, 41, none⟩ (.slice A4 (rn + 1) c4)
    have or9 := own_turned OO9.out M9.out.r9 (by decide) ht9
    rw [rolC_snoc15] at or9
    have OR := Lib.hid or9
    have m10 := M9.out.set9 HB.out HG9.out.2.1 HG9.out.2.2.1 HG9.out.2.2.2 41 (.slice A4 (rn + 1) c4)
    rw [cells_roles15 q x H32.out A4 (rn + 1) c4 (x.roles ++ [⟨k3, false, false⟩])] at m10
    have M10 := Lib.hid m10
    generalize w9.setCell ⟨g9, 41, none⟩ (.slice A4 (rn + 1) c4) = w10 at *
    clear ht9 or9 m10 c9 f9 c41 OO8 BB8 OO9 BB9 M9 M6 HSR HBZ HG9Z
    have HRX : Hid ((x.roles.length : Int) = rn) := Lib.hid (by rw [HRL.out, HRN.out])
    have HRO : Hid (∀ y ∈ x.roles ++ [(⟨k3, false, false⟩ : LRole)], RoleOk y) := Lib.hid fun y hy => by
      rcases List.mem_append.1 hy with hy | hy
      · exact M10.out.f.rd.rs.ok y hy
      · obtain rfl := List.mem_singleton.1 hy
        exact r3_ok15
    have HRK : Hid ((x.roles ++ [(⟨k3, false, false⟩ : LRole)]).length = rn + 1) := Lib.hid (by rw [List.length_append, HRL.out, HRN.out]; rfl)
    obtain ⟨n, hn⟩ : ∃ n, n = q.t.q.n := ⟨_, rfl⟩
    have HN := Lib.hid hn
    have HN2 : Hid (n ≤ 200) := Lib.hid (by have h1 := HF.out.n; have h2 := HNI.out; omega)
    clear hn
    go_cut [9] (fun s9 wx => ∃ A5 c5, s9 = .pointer (some ⟨g9, 0, none⟩) ∧ AW15 w wx B g2 g7 g9 b7 q x LA ln l A2 c2 o ((rawIns15 (rawRoles15 q A4 (rn + 1) c4) A5 (n + 1) c5).cells (more15 x dat)) ∧ ReadyIn wx wx.heap.size (rawIns15 (rawRoles15 q A4 (rn + 1) c4) A5 (n + 1) c5) (more15 x dat))
    case first =>
      have BD := Lib.hid ((Below.refl w10.heap.size w10).drew)
      have OR := Lib.hid (own_below OR.out BD.out)
      have M := Lib.hid (M10.out.below HB.out M10.out.f.b.size M10.out.f.r2.lt M10.out.r7.lt M10.out.r9.lt (fun g hg => (M10.out.o7.lt g hg).2) BD.out)
      have HSS : Hid (∀ V, FW15 w V B g2 q x LA ln l → V.cell? ⟨g2, 39, none⟩ = some (.slice q.t.q.IA n q.t.q.ic) ∧ V.cell? ⟨g2, 41, none⟩ = some (.slice q.RA rn q.rc)) := Lib.hid fun V f => ⟨by rw [HN.out]; exact (f.r2.cell 39).trans (ycells_39 H32.out), by rw [HRN.out]; exact (f.r2.cell 41).trans (ycells_41 H32.out 0)⟩
      have S0 := Lib.hid (HSS.out _ M.out.f)
      refine wp_region_held_drew (S := fun V => V.cell? ⟨g2, 39, none⟩ = some (.slice q.t.q.IA n q.t.q.ic) ∧ V.cell? ⟨g2, 41, none⟩ = some (.slice q.RA rn q.rc)) (by kernel_rfl) S0.out (fun _ => ?_)
      try dsimp only [List.append]
      clear BD M10
      generalize w10.drew = V0 at *
      have E := Lib.hid (Below.refl V0.heap.size V0)
      have G9 := Lib.hid M.out.r9.lt
      have HBV : Hid (B ≤ V0.heap.size) := Lib.hid (Nat.le_trans HB.out M.out.f.b.size)
      obtain ⟨news, hic, hsee⟩ := M.out.f.rd.tx.m.ins.cells
      rw [← HN.out] at hsee
      have HIC := Lib.hid hic
      have HSE := Lib.hid hsee
      have HUP : Hid (∀ V, Below V0.heap.size V0 V → AW15 w V B g2 g7 g9 b7 q x LA ln l A2 c2 o ((rawRoles15 q A4 (rn + 1) c4).cells (inR15 x (x.roles ++ [⟨k3, false, false⟩])))) := Lib.hid fun V hV => M.out.below HB.out M.out.f.b.size M.out.f.r2.lt M.out.r7.lt M.out.r9.lt (fun g hg => (M.out.o7.lt g hg).2) hV
      clear hic hsee
      have HBY : Hid (BytesIn V0 B (.slice DA dn dc) dat) := Lib.hid (HBW.out.below (M.out.f.b.mono HB.out))
      have hw8 : IntKind.u8.wrap (rn : Int) = (rn : Int) := by rw [IntKind.wrap_u8]; omega
      refine takeL (i := 0) (v := ?_) rfl (by kernel_rfl) (by kernel_rfl) (by kernel_rfl) (fun _ _ _ h => h) (Or.inl ⟨by rfl, ?_⟩) S0.out ?_
      rotate_left
      · intro w hw
        try dsimp only at hw
        obtain ⟨q0, q1⟩ := hw
        go_simp
        try with_reducible rfl
      try simp only [Act.put, List.setIfInBounds_toArray, List.set_cons_zero, List.set_cons_succ]
      refine takeL (i := 1) (v := ?_) rfl (by kernel_rfl) (by kernel_rfl) (by kernel_rfl) (fun _ _ _ h => h) (Or.inl ⟨by rfl, ?_⟩) S0.out ?_
      rotate_left
      · intro w hw
        try dsimp only at hw
        obtain ⟨q0, q1⟩ := hw
        go_simp
        try with_reducible rfl
      try simp only [Act.put, List.setIfInBounds_toArray, List.set_cons_zero, List.set_cons_succ]
      refine takeL (i := 2) (v := ?_) rfl (by kernel_rfl) (by kernel_rfl) (by kernel_rfl) (fun _ _ _ h => h) (Or.inl ⟨by rfl, ?_⟩) S0.out ?_
      rotate_left
      · intro w hw
        try dsimp only at hw
        obtain ⟨q0, q1⟩ := hw
        go_simp
        try with_reducible rfl
      try simp only [Act.put, List.setIfInBounds_toArray, List.set_cons_zero, List.set_cons_succ]
      refine takeL (i := 3) (v := ?_) rfl (by kernel_rfl) (by kernel_rfl) (by kernel_rfl) (fun _ _ _ h => h) (Or.inl ⟨by rfl, ?_⟩) S0.out ?_
      rotate_left
      · intro w hw
        try dsimp only at hw
        obtain ⟨q0, q1⟩ := hw
        go_simp
        try with_reducible rfl
      try simp only [Act.put, List.setIfInBounds_toArray, List.set_cons_zero, List.set_cons_succ]
      refine takeL (i := 5) (v := ?_) rfl (by kernel_rfl) (by kernel_rfl) (by kernel_rfl) (fun _ _ _ h => h) (Or.inl ⟨by rfl, ?_⟩) S0.out ?_
      rotate_left
      · intro w hw
        try dsimp only at hw
        obtain ⟨q0, q1⟩ := hw
        go_simp
        try with_reducible rfl
      try simp only [Act.put, List.setIfInBounds_toArray, List.set_cons_zero, List.set_cons_succ]
      refine takeL (i := 6) (v := ?_) rfl (by kernel_rfl) (by kernel_rfl) (by kernel_rfl) (fun _ _ _ h => h) (Or.inl ⟨by rfl, ?_⟩) S0.out ?_
      rotate_left
      · intro w hw
        try dsimp only at hw
        obtain ⟨q0, q1⟩ := hw
        go_simp
        try with_reducible rfl
      try simp only [Act.put, List.setIfInBounds_toArray, List.set_cons_zero, List.set_cons_succ]
      refine takeL (i := 7) (v := ?_) rfl (by kernel_rfl) (by kernel_rfl) (by kernel_rfl) (fun _ _ _ h => h) (Or.inl ⟨by rfl, ?_⟩) S0.out ?_
      rotate_left
      · intro w hw
        try dsimp only at hw
        obtain ⟨q0, q1⟩ := hw
        go_simp
        try with_reducible rfl
      try simp only [Act.put, List.setIfInBounds_toArray, List.set_cons_zero, List.set_cons_succ]
      refine takeL (i := 8) (v := ?_) rfl (by kernel_rfl) (by kernel_rfl) (by kernel_rfl) (fun _ _ _ h => h) (Or.inl ⟨by rfl, ?_⟩) S0.out ?_
      rotate_left
      · intro w hw
        try dsimp only at hw
        obtain ⟨q0, q1⟩ := hw
        go_simp
        try with_reducible rfl
      try simp only [Act.put, List.setIfInBounds_toArray, List.set_cons_zero, List.set_cons_succ]
      refine takeL (i := 9) (v := ?_) rfl (by kernel_rfl) (by kernel_rfl) (by kernel_rfl) (fun _ _ _ h => h) (Or.inl ⟨by rfl, ?_⟩) S0.out ?_
      rotate_left
      · intro w hw
        try dsimp only at hw
        obtain ⟨q0, q1⟩ := hw
        go_simp
        try with_reducible rfl
      try simp only [Act.put, List.setIfInBounds_toArray, List.set_cons_zero, List.set_cons_succ]
      refine takeL (i := 10) (v := .agg (inCells (rn : Int) (.slice none 0 0) (.slice DA dn dc)).toArray) rfl (by kernel_rfl) (by kernel_rfl) (by kernel_rfl) (fun _ _ _ h => h) (Or.inl ⟨by rfl, fun wz hwz => exec_built wz _ _ _ rfl (by simp only [List.map_toArray, List.map_cons, List.map_nil]; exact built_in15 _ _ _ _)⟩) S0.out ?_
      try simp only [Act.put, List.setIfInBounds_toArray, List.set_cons_zero, List.set_cons_succ]
      clear hw8
      refine readyL2 (i := 4) (j := 11) rfl rfl (by kernel_rfl) (by kernel_rfl) (by kernel_rfl) (fun K hK => ?_) (fun K hK => ?_)
      · as_aux_lemma =>
          refine wp_appendN (.const (.slice none 0 0)) (.tmp 60) 30 70 _ 3 56 rfl Tryd.underlying30 info_in15 (by kernel_rfl) (by omega) (.slice none 0 0) 0 [] V0.heap.size B q.t.q.IA n q.t.q.ic news rfl (own_nilN _ _ _ _) (by go_simp) (HSE.out.below (E.out.mono HBV.out)) HIC.out.one (by have := HN2.out; unfold maxLen; omega) (by have := HN2.out; omega) E.out.size ?_
          intro v1 V1 ho1 hg1
          rw [Nat.zero_add, List.nil_append] at ho1
          obtain ⟨A5, c5, rfl, _, _, _, _⟩ := own_form2 ho1
          have hb : Below V0.heap.size V0 V1 := (Below.refl _ _).grown hg1.grown (Nat.le_refl _) (fun k hk => by cases hk)
          have OO := Lib.hid ho1
          clear ho1 hg1
          have E := Lib.hid (E.out.trans (hb.mono E.out.size))
          have S0 := Lib.hid (HSS.out _ (HUP.out _ E.out).f)
          clear hb
          refine hK.out _ _ S0.out ?_
          clear hK K
          try simp only [Act.put, List.setIfInBounds_toArray, List.set_cons_zero, List.set_cons_succ]
          refine readyL (i := 11) rfl (by kernel_rfl) (by kernel_rfl) fun K hK => ?_
          refine wp_buildOne 30 70 (.tmp 67) rfl (inCells (rn : Int) (.slice none 0 0) (.slice DA dn dc)) _ 3 56 Tryd.underlying30 info_in15 (by kernel_rfl) (by omega) (by omega) rfl (by go_simp) ?_
          have hb := (Below.refl V1.heap.size V1).alloc (Nat.le_refl _) (.cells (inCells (rn : Int) (.slice none 0 0) (.slice DA dn dc)).toArray 70)
          have RL := Lib.hid (Row.new V1 70 (inCells (rn : Int) (.slice none 0 0) (.slice DA dn dc)))
          have OO := Lib.hid (own_below OO.out hb)
          have E := Lib.hid (E.out.trans (hb.mono E.out.size))
          have S0 := Lib.hid (HSS.out _ (HUP.out _ E.out).f)
          clear hb
          obtain ⟨gl, hgl⟩ : ∃ g, g = V1.heap.size := ⟨_, rfl⟩
          rw [← hgl] at RL ⊢
          clear hgl
          generalize V1.alloc (.cells (inCells (rn : Int) (.slice none 0 0) (.slice DA dn dc)).toArray 70) = V2 at *
          refine hK.out _ _ S0.out ?_
          clear hK K
          try simp only [Act.put, List.setIfInBounds_toArray, List.set_cons_zero, List.set_cons_succ]
          refine readyL (i := 12) rfl (by kernel_rfl) (by kernel_rfl) fun K hK => ?_
          refine wp_appendN (.tmp 61) (.tmp 68) 30 70 _ 3 56 rfl Tryd.underlying30 info_in15 (by kernel_rfl) (by omega) (.slice A5 n c5) n news V0.heap.size V2.heap.size (some ⟨gl, 0, none⟩) 1 1 (inCells (rn : Int) (.slice none 0 0) (.slice DA dn dc)) (by go_simp) OO.out (by go_simp) RL.out.sees0 (inCells_one (bytes_nil15 V0 0) (HBY.out)) (by have := HN2.out; unfold maxLen; omega) (by have := HN2.out; omega) E.out.size ?_
          intro v2 V3 ho2 hg2
          obtain ⟨A6, c6, rfl, _, _, _, _⟩ := own_form2 ho2
          have hb : Below V0.heap.size V2 V3 := hg2.below OO.out E.out.size
          have OO := Lib.hid ho2
          clear ho2 hg2 RL
          have E := Lib.hid (E.out.trans hb)
          have S0 := Lib.hid (HSS.out _ (HUP.out _ E.out).f)
          clear hb
          refine hK.out _ _ S0.out ?_
          clear hK K
          try simp only [Act.put, List.setIfInBounds_toArray, List.set_cons_zero, List.set_cons_succ]
          refine takeL (i := 13) (v := ?_) rfl (by kernel_rfl) (by kernel_rfl) (by kernel_rfl) (fun _ _ _ h => h) (Or.inl ⟨by rfl, ?_⟩) S0.out ?_
          rotate_left
          · intro w hw
            try dsimp only at hw
            obtain ⟨q0, q1⟩ := hw
            go_simp
            try with_reducible rfl
          try simp only [Act.put, List.setIfInBounds_toArray, List.set_cons_zero, List.set_cons_succ]
          refine takeL (i := 14) (v := ?_) rfl (by kernel_rfl) (by kernel_rfl) (by kernel_rfl) (fun _ _ _ h => h) (Or.inl ⟨by rfl, ?_⟩) S0.out ?_
          rotate_left
          · intro w hw
            try dsimp only at hw
            obtain ⟨q0, q1⟩ := hw
            go_simp
            try with_reducible rfl
          try simp only [Act.put, List.setIfInBounds_toArray, List.set_cons_zero, List.set_cons_succ]
          refine takeL (i := 15) (v := ?_) rfl (by kernel_rfl) (by kernel_rfl) (by kernel_rfl) (fun _ _ _ h => h) (Or.inl ⟨by rfl, ?_⟩) S0.out ?_
          rotate_left
          · intro w hw
            try dsimp only at hw
            obtain ⟨q0, q1⟩ := hw
            go_simp
            try with_reducible rfl
          try simp only [Act.put, List.setIfInBounds_toArray, List.set_cons_zero, List.set_cons_succ]
          have M := Lib.hid (HUP.out _ E.out)
          have c9 : V3.cell? ⟨g9, 39, none⟩ = some (.slice q.t.q.IA n q.t.q.ic) := by rw [HN.out]; exact (M.out.r9.cell 39).trans (ycells_39 H32.out)
          have f9 := M.out.r9.frozen 39
          refine readyL (i := 16) rfl (by kernel_rfl) (by kernel_rfl) fun K hK => ?_
          go_simp
          have ht := turned_setCell V3 ⟨g9, 39, none⟩ (.slice A6 (n + 1) c6)
          have m4 := M.out.set9 HB.out HG9.out.2.1 HG9.out.2.2.1 HG9.out.2.2.2 39 (.slice A6 (n + 1) c6)
          have S0 := Lib.hid (HSS.out _ m4.f)
          clear c9 f9
          refine hK.out _ _ S0.out ?_
          clear hK K
          try simp only [Act.put, List.setIfInBounds_toArray, List.set_cons_zero, List.set_cons_succ]
          refine wpAnyH_done (by kernel_rfl) ?_ _
          go_wp2_with fail
          go_meet
          rw [cells_ins15 (rawRoles15 q A4 (rn + 1) c4) (inR15 x (x.roles ++ [(⟨k3, false, false⟩ : LRole)])) H32.out A6 (n + 1) c6 (x.tx.m.ins ++ [(⟨(x.roles.length : Int), [], dat⟩ : LIn)])] at m4
          have or4 := own_turned (own_below OR.out E.out) M.out.r9 (by decide) ht
          have oi4 := own_turned OO.out M.out.r9 (by decide) ht
          have be4 : Below B V0 (V3.setCell ⟨g9, 39, none⟩ (.slice A6 (n + 1) c6)) := (E.out.mono HBV.out).trans (ht.below (Nat.le_trans HB.out HG9.out.2.1))
          have bd4 : BytesIn (V3.setCell ⟨g9, 39, none⟩ (.slice A6 (n + 1) c6)) B (.slice DA dn dc) dat := HBY.out.below be4
          have hz4 : B ≤ (V3.setCell ⟨g9, 39, none⟩ (.slice A6 (n + 1) c6)).heap.size := by rw [ht.size]; exact Nat.le_trans HBV.out E.out.size
          have ic4 := ((HIC.out.below be4).snoc (y := ⟨(rn : Int), [], dat⟩) ⟨by show (0 : Int) ≤ (rn : Int); omega, by show (rn : Int) < 256; omega⟩ (bytes_nil15 _ B) bd4).more hz4
          have in4 := ins_own15 oi4 ic4 (by rw [List.length_append, HNI.out, HN.out]; rfl)
          have ro4 := roles_own15 or4 HRK.out HRO.out
          refine ⟨A6, c6, rfl, m4, ?_⟩
          have rd4 := rd_ins15 (rd_roles15 (m4.f.rd.more hz4) ro4.1 ro4.2) in4.1 in4.2
          rw [← HRX.out] at rd4
          exact rd4
      · as_aux_lemma =>
          refine wp_buildOne 30 70 (.tmp 67) rfl (inCells (rn : Int) (.slice none 0 0) (.slice DA dn dc)) _ 3 56 Tryd.underlying30 info_in15 (by kernel_rfl) (by omega) (by omega) rfl (by go_simp) ?_
          have hb := (Below.refl V0.heap.size V0).alloc (Nat.le_refl _) (.cells (inCells (rn : Int) (.slice none 0 0) (.slice DA dn dc)).toArray 70)
          have RL := Lib.hid (Row.new V0 70 (inCells (rn : Int) (.slice none 0 0) (.slice DA dn dc)))
          have E := Lib.hid (E.out.trans (hb.mono E.out.size))
          have S0 := Lib.hid (HSS.out _ (HUP.out _ E.out).f)
          clear hb
          obtain ⟨gl, hgl⟩ : ∃ g, g = V0.heap.size := ⟨_, rfl⟩
          rw [← hgl] at RL ⊢
          clear hgl
          generalize V0.alloc (.cells (inCells (rn : Int) (.slice none 0 0) (.slice DA dn dc)).toArray 70) = V1 at *
          refine hK.out _ _ S0.out ?_
          clear hK K
          try simp only [Act.put, List.setIfInBounds_toArray, List.set_cons_zero, List.set_cons_succ]
          refine readyL (i := 4) rfl (by kernel_rfl) (by kernel_rfl) fun K hK => ?_
          refine wp_appendN (.const (.slice none 0 0)) (.tmp 60) 30 70 _ 3 56 rfl Tryd.underlying30 info_in15 (by kernel_rfl) (by omega) (.slice none 0 0) 0 [] V0.heap.size B q.t.q.IA n q.t.q.ic news rfl (own_nilN _ _ _ _) (by go_simp) (HSE.out.below (E.out.mono HBV.out)) HIC.out.one (by have := HN2.out; unfold maxLen; omega) (by have := HN2.out; omega) E.out.size ?_
          intro v1 V2 ho1 hg1
          rw [Nat.zero_add, List.nil_append] at ho1
          obtain ⟨A5, c5, rfl, _, _, _, _⟩ := own_form2 ho1
          have hb : Below V1.heap.size V1 V2 := (Below.refl _ _).grown hg1.grown (Nat.le_refl _) (fun k hk => by cases hk)
          have OO := Lib.hid ho1
          clear ho1 hg1
          have RL := Lib.hid (RL.out.below hb RL.out.lt)
          have E := Lib.hid (E.out.trans (hb.mono E.out.size))
          have S0 := Lib.hid (HSS.out _ (HUP.out _ E.out).f)
          clear hb
          refine hK.out _ _ S0.out ?_
          clear hK K
          try simp only [Act.put, List.setIfInBounds_toArray, List.set_cons_zero, List.set_cons_succ]
          refine readyL (i := 12) rfl (by kernel_rfl) (by kernel_rfl) fun K hK => ?_
          refine wp_appendN (.tmp 61) (.tmp 68) 30 70 _ 3 56 rfl Tryd.underlying30 info_in15 (by kernel_rfl) (by omega) (.slice A5 n c5) n news V0.heap.size V2.heap.size (some ⟨gl, 0, none⟩) 1 1 (inCells (rn : Int) (.slice none 0 0) (.slice DA dn dc)) (by go_simp) OO.out (by go_simp) RL.out.sees0 (inCells_one (bytes_nil15 V0 0) (HBY.out)) (by have := HN2.out; unfold maxLen; omega) (by have := HN2.out; omega) E.out.size ?_
          intro v2 V3 ho2 hg2
          obtain ⟨A6, c6, rfl, _, _, _, _⟩ := own_form2 ho2
          have hb : Below V0.heap.size V2 V3 := hg2.below OO.out E.out.size
          have OO := Lib.hid ho2
          clear ho2 hg2 RL
          have E := Lib.hid (E.out.trans hb)
          have S0 := Lib.hid (HSS.out _ (HUP.out _ E.out).f)
          clear hb
          refine hK.out _ _ S0.out ?_
          clear hK K
          try simp only [Act.put, List.setIfInBounds_toArray, List.set_cons_zero, List.set_cons_succ]
          refine takeL (i := 13) (v := ?_) rfl (by kernel_rfl) (by kernel_rfl) (by kernel_rfl) (fun _ _ _ h => h) (Or.inl ⟨by rfl, ?_⟩) S0.out ?_
          rotate_left
          · intro w hw
            try dsimp only at hw
            obtain ⟨q0, q1⟩ := hw
            go_simp
            try with_reducible rfl
          try simp only [Act.put, List.setIfInBounds_toArray, List.set_cons_zero, List.set_cons_succ]
          refine takeL (i := 14) (v := ?_) rfl (by kernel_rfl) (by kernel_rfl) (by kernel_rfl) (fun _ _ _ h => h) (Or.inl ⟨by rfl, ?_⟩) S0.out ?_
          rotate_left
          · intro w hw
            try dsimp only at hw
            obtain ⟨q0, q1⟩ := hw
            go_simp
            try with_reducible rfl
          try simp only [Act.put, List.setIfInBounds_toArray, List.set_cons_zero, List.set_cons_succ]
          refine takeL (i := 15) (v := ?_) rfl (by kernel_rfl) (by kernel_rfl) (by kernel_rfl) (fun _ _ _ h => h) (Or.inl ⟨by rfl, ?_⟩) S0.out ?_
          rotate_left
          · intro w hw
            try dsimp only at hw
            obtain ⟨q0, q1⟩ := hw
            go_simp
            try with_reducible rfl
          try simp only [Act.put, List.setIfInBounds_toArray, List.set_cons_zero, List.set_cons_succ]
          have M := Lib.hid (HUP.out _ E.out)
          have c9 : V3.cell? ⟨g9, 39, none⟩ = some (.slice q.t.q.IA n q.t.q.ic) := by rw [HN.out]; exact (M.out.r9.cell 39).trans (ycells_39 H32.out)
          have f9 := M.out.r9.frozen 39
          refine readyL (i := 16) rfl (by kernel_rfl) (by kernel_rfl) fun K hK => ?_
          go_simp
          have ht := turned_setCell V3 ⟨g9, 39, none⟩ (.slice A6 (n + 1) c6)
          have m4 := M.out.set9 HB.out HG9.out.2.1 HG9.out.2.2.1 HG9.out.2.2.2 39 (.slice A6 (n + 1) c6)
          have S0 := Lib.hid (HSS.out _ m4.f)
          clear c9 f9
          refine hK.out _ _ S0.out ?_
          clear hK K
          try simp only [Act.put, List.setIfInBounds_toArray, List.set_cons_zero, List.set_cons_succ]
          refine wpAnyH_done (by kernel_rfl) ?_ _
          go_wp2_with fail
          go_meet
          rw [cells_ins15 (rawRoles15 q A4 (rn + 1) c4) (inR15 x (x.roles ++ [(⟨k3, false, false⟩ : LRole)])) H32.out A6 (n + 1) c6 (x.tx.m.ins ++ [(⟨(x.roles.length : Int), [], dat⟩ : LIn)])] at m4
          have or4 := own_turned (own_below OR.out E.out) M.out.r9 (by decide) ht
          have oi4 := own_turned OO.out M.out.r9 (by decide) ht
          have be4 : Below B V0 (V3.setCell ⟨g9, 39, none⟩ (.slice A6 (n + 1) c6)) := (E.out.mono HBV.out).trans (ht.below (Nat.le_trans HB.out HG9.out.2.1))
          have bd4 : BytesIn (V3.setCell ⟨g9, 39, none⟩ (.slice A6 (n + 1) c6)) B (.slice DA dn dc) dat := HBY.out.below be4
          have hz4 : B ≤ (V3.setCell ⟨g9, 39, none⟩ (.slice A6 (n + 1) c6)).heap.size := by rw [ht.size]; exact Nat.le_trans HBV.out E.out.size
          have ic4 := ((HIC.out.below be4).snoc (y := ⟨(rn : Int), [], dat⟩) ⟨by show (0 : Int) ≤ (rn : Int); omega, by show (rn : Int) < 256; omega⟩ (bytes_nil15 _ B) bd4).more hz4
          have in4 := ins_own15 oi4 ic4 (by rw [List.length_append, HNI.out, HN.out]; rfl)
          have ro4 := roles_own15 or4 HRK.out HRO.out
          refine ⟨A6, c6, rfl, m4, ?_⟩
          have rd4 := rd_ins15 (rd_roles15 (m4.f.rd.more hz4) ro4.1 ro4.2) in4.1 in4.2
          rw [← HRX.out] at rd4
          exact rd4
    case rest =>
      obtain ⟨A5, c5, rfl, hm, hrd⟩ := hcut
      have M11 := Lib.hid hm
      have RD := Lib.hid hrd
      clear hm hrd M10 OR
      rename World => w11
      obtain ⟨Z, hZ⟩ : ∃ Z, Z = run15 (more15 x dat) (l ++ [blank13]) := ⟨_, rfl⟩
      have HZE := Lib.hid hZ
      obtain ⟨Q2, hQ2⟩ : ∃ Q2, Q2 = rawIns15 (rawRoles15 q A4 (rn + 1) c4) A5 (n + 1) c5 := ⟨_, rfl⟩
      rw [← hQ2] at M11 RD
      obtain ⟨CS, hCS⟩ : ∃ CS, CS = Q2.cells (more15 x dat) := ⟨_, rfl⟩
      rw [← hCS] at M11
      have HCSE := Lib.hid hCS
      have HSZ : Hid ((Tryd.prog.info? 41).map (·.size) = some CS.length) := Lib.hid (by rw [hCS]; exact size_rd15b (x := more15 x dat) H32.out)
      have HRX2 : Hid (x.roles.length ≤ 200) := Lib.hid (by have := HRX.out; omega)
      clear hZ hQ2 hCS HRO HRK
      have HLN : Hid (ln ≤ 300) := Lib.hid (by omega)
      go_upto_region 9 with fail
      go_cut [10, 11] (fun s10 s11 wx => ∃ gz A7 c7 b9, s10 = .pointer (some ⟨gz, 0, none⟩) ∧ s11 = .int .i64 Z.2 ∧ AW15 w wx B g2 g7 g9 b7 q x LA ln l A2 c2 o CS ∧ Row wx gz 54 (Z.1.cells (.slice A7 Z.1.ch.length Z.1.ch.length)) ∧ wx.ownsRow b9 64 66 (.slice A7 Z.1.ch.length c7) Z.1.ch.length (holC Z.1.ch))
      case first =>
        have BD := Lib.hid ((Below.refl w11.heap.size w11).drew)
        have M := Lib.hid (M11.out.below HB.out M11.out.f.b.size M11.out.f.r2.lt M11.out.r7.lt M11.out.r9.lt (fun g hg => (M11.out.o7.lt g hg).2) BD.out)
        have RD := Lib.hid ((RD.out.below BD.out).more BD.out.size)
        have S0 := Lib.hid M.out.r9
        refine wp_region_held_drew (S := fun V => Row V g9 41 CS) (by kernel_rfl) S0.out (fun _ => ?_)
        try dsimp only [List.append]
        clear BD M11
        generalize w11.drew = V0 at *
        have E := Lib.hid (Below.refl V0.heap.size V0)
        have HBV : Hid (B ≤ V0.heap.size) := Lib.hid (Nat.le_trans HB.out M.out.f.b.size)
        have HUP : Hid (∀ V, Below V0.heap.size V0 V → AW15 w V B g2 g7 g9 b7 q x LA ln l A2 c2 o CS) := Lib.hid fun V hV => M.out.below HB.out M.out.f.b.size M.out.f.r2.lt M.out.r7.lt M.out.r9.lt (fun g hg => (M.out.o7.lt g hg).2) hV
        refine takeL (i := 1) (v := ?_) rfl (by kernel_rfl) (by kernel_rfl) (by kernel_rfl) (fun _ _ _ h => h) (Or.inl ⟨by rfl, ?_⟩) S0.out ?_
        rotate_left
        · intro w hw
          try dsimp only at hw
          go_simp
          try with_reducible rfl
        try simp only [Act.put, List.setIfInBounds_toArray, List.set_cons_zero, List.set_cons_succ]
        refine takeL (i := 3) (v := .agg blank13.cells.toArray) rfl (by kernel_rfl) (by kernel_rfl) (by kernel_rfl) (fun _ _ _ h => h) (Or.inl ⟨by rfl, fun wz hwz => exec_built wz _ _ _ rfl (by simp only [List.map_toArray, List.map_nil]; exact built_blank)⟩) S0.out ?_
        try simp only [Act.put, List.setIfInBounds_toArray, List.set_cons_zero, List.set_cons_succ]
        refine takeL (i := 0) (v := .agg CS.toArray) rfl (by kernel_rfl) (by kernel_rfl) (by kernel_rfl) (fun _ _ _ h => h) (Or.inl ⟨by rfl, fun wz hwz => exec_load_at wz 41 (.tmp 9) rfl ⟨g9, 0, none⟩ CS _ Tryd.underlying41 rfl HSZ.out (fun j u hu => by rw [addr_row, hwz.cell, Nat.zero_add]; exact hu) (by go_simp)⟩) S0.out ?_
        try simp only [Act.put, List.setIfInBounds_toArray, List.set_cons_zero, List.set_cons_succ]
        refine ready15 (i := 2) (j := 4) (k := 10) rfl rfl rfl (by kernel_rfl) (by kernel_rfl) (by kernel_rfl) (by kernel_rfl) (fun K hK => ?_) (fun K hK => ?_) (fun K hK => ?_)
        · as_aux_lemma =>
            refine wp_appendN (.const (.slice none 0 0)) (.tmp 75) 49 59 _ 34 48 rfl Tryd.underlying49 info_ac15 (by kernel_rfl) (by omega) (.slice none 0 0) 0 [] V0.heap.size B LA ln lc (accsC l) rfl (own_nilN _ _ _ _) (by go_simp) (HUP.out _ E.out).f.ac.sees (accsC_one _) (by have := HLN.out; unfold maxLen; omega) (by have := HLN.out; omega) E.out.size ?_
            intro v1 V1 ho1 hg1
            rw [Nat.zero_add, List.nil_append] at ho1
            obtain ⟨A8, c8, rfl, _, _, _, _⟩ := own_form2 ho1
            have hb : Below V0.heap.size V0 V1 := (Below.refl _ _).grown hg1.grown (Nat.le_refl _) (fun k hk => by cases hk)
            have OO := Lib.hid ho1
            clear ho1 hg1
            have E := Lib.hid (E.out.trans (hb.mono E.out.size))
            have S0 := Lib.hid (HUP.out _ E.out).r9
            clear hb
            refine hK.out _ _ S0.out ?_
            clear hK K
            try simp only [Act.put, List.setIfInBounds_toArray, List.set_cons_zero, List.set_cons_succ]
            refine readyL2 (i := 4) (j := 10) rfl rfl (by kernel_rfl) (by kernel_rfl) (by kernel_rfl) (fun K hK => ?_) (fun K hK => ?_)
            · as_aux_lemma =>
                refine wp_buildOne 49 59 (.tmp 77) rfl blank13.cells _ 34 48 Tryd.underlying49 info_ac15 (by kernel_rfl) (by omega) (by omega) rfl (by go_simp) ?_
                have hb := (Below.refl V1.heap.size V1).alloc (Nat.le_refl _) (.cells blank13.cells.toArray 59)
                have RL := Lib.hid (Row.new V1 59 blank13.cells)
                have OO := Lib.hid (own_below OO.out hb)
                have E := Lib.hid (E.out.trans (hb.mono E.out.size))
                have S0 := Lib.hid (HUP.out _ E.out).r9
                clear hb
                obtain ⟨gl, hgl⟩ : ∃ g, g = V1.heap.size := ⟨_, rfl⟩

                rw [← hgl] at RL ⊢
                clear hgl
                generalize V1.alloc (.cells blank13.cells.toArray 59) = V2 at *
                refine hK.out _ _ S0.out ?_
                clear hK K
                try simp only [Act.put, List.setIfInBounds_toArray, List.set_cons_zero, List.set_cons_succ]
                refine readyL2 (i := 5) (j := 10) rfl rfl (by kernel_rfl) (by kernel_rfl) (by kernel_rfl) (fun K hK => ?_) (fun K hK => ?_)
                · as_aux_lemma =>
                    refine wp_appendN (.tmp 76) (.tmp 78) 49 59 _ 34 48 rfl Tryd.underlying49 info_ac15 (by kernel_rfl) (by omega) (.slice A8 ln c8) ln (accsC l) V0.heap.size V2.heap.size (some ⟨gl, 0, none⟩) 1 1 blank13.cells (by go_simp) OO.out (by go_simp) RL.out.sees0 (acc_one _) (by have := HLN.out; unfold maxLen; omega) (by have := HLN.out; omega) E.out.size ?_
                    intro v2 V3 ho2 hg2
                    rw [← accsC_snoc] at ho2
                    obtain ⟨A9, c9, rfl, _, hc1, hc2, _⟩ := own_form2 ho2
                    have HC9 := Lib.hid (And.intro hc1 hc2)
                    have hb : Below V0.heap.size V2 V3 := hg2.below OO.out E.out.size
                    have OO := Lib.hid ho2
                    clear ho2 hg2 RL hc1 hc2
                    have E := Lib.hid (E.out.trans hb)
                    have S0 := Lib.hid (HUP.out _ E.out).r9
                    clear hb
                    refine hK.out _ _ S0.out ?_
                    clear hK K
                    try simp only [Act.put, List.setIfInBounds_toArray, List.set_cons_zero, List.set_cons_succ]
                    refine readyL2 (i := 6) (j := 10) rfl rfl (by kernel_rfl) (by kernel_rfl) (by kernel_rfl) (fun K hK => ?_) (fun K hK => ?_)
                    · as_aux_lemma =>
                        have HAC : Hid (AccsIn V3 V3.heap.size A9 (ln + 1) (l ++ [blank13])) := Lib.hid (accs_own (L := l ++ [blank13]) (by rw [List.length_append, HLL.out]; exact OO.out) (fun a ha => by
                          rcases List.mem_append.1 ha with ha | ha
                          · exact (HUP.out _ E.out).f.ac.ok a ha
                          · obtain rfl := List.mem_singleton.1 ha
                            exact blank_ok15) (by rw [List.length_append, HLL.out]; rfl))
                        have HRU := Lib.hid (run_more15 (HUP.out _ E.out).f ((RD.out.below E.out).more E.out.size) HAC.out HC9.out (Nat.le_refl _) (by have := HLN.out; omega) HRX2.out HF.out HOK.out HDB.out HT.out)
                        rw [← HZE.out, ← HCSE.out] at HRU
                        go_simp
                        refine HRU.out.mono ?_
                        clear HRU HAC
                        rintro e V4 ⟨A7, c7, rfl, hoz, hb⟩
                        have OZ := Lib.hid hoz
                        clear hoz
                        have E := Lib.hid (E.out.trans (hb.mono E.out.size))
                        have S0 := Lib.hid (HUP.out _ E.out).r9
                        clear hb OO
                        refine hK.out _ _ S0.out ?_
                        clear hK K
                        try simp only [Act.put, List.setIfInBounds_toArray, List.set_cons_zero, List.set_cons_succ]
                        refine takeL (i := 7) (v := ?_) rfl (by kernel_rfl) (by kernel_rfl) (by kernel_rfl) (fun _ _ _ h => h) (Or.inl ⟨by rfl, ?_⟩) S0.out ?_
                        rotate_left
                        · intro w hw
                          try dsimp only at hw
                          go_simp
                          try with_reducible rfl
                        try simp only [Act.put, List.setIfInBounds_toArray, List.set_cons_zero, List.set_cons_succ]
                        refine takeL (i := 8) (v := ?_) rfl (by kernel_rfl) (by kernel_rfl) (by kernel_rfl) (fun _ _ _ h => h) (Or.inl ⟨by rfl, ?_⟩) S0.out ?_
                        rotate_left
                        · intro w hw
                          try dsimp only at hw
                          go_simp
                          try with_reducible rfl
                        try simp only [Act.put, List.setIfInBounds_toArray, List.set_cons_zero, List.set_cons_succ]
                        refine takeL (i := 9) (v := ?_) rfl (by kernel_rfl) (by kernel_rfl) (by kernel_rfl) (fun _ _ _ h => h) (Or.inl ⟨by rfl, ?_⟩) S0.out ?_
                        rotate_left
                        · intro w hw
                          try dsimp only at hw
                          go_simp
                          try with_reducible rfl
                        try simp only [Act.put, List.setIfInBounds_toArray, List.set_cons_zero, List.set_cons_succ]
                        refine readyL (i := 10) rfl (by kernel_rfl) (by kernel_rfl) fun K hK => ?_
                        refine wp_alloc_zero 54 rfl (out0.cells (.slice none 0 0)) zero_out15 ?_
                        have hb := (Below.refl V4.heap.size V4).alloc (Nat.le_refl _) (.cells (out0.cells (.slice none 0 0)).toArray 54)
                        have RZ := Lib.hid (Row.new V4 54 (out0.cells (.slice none 0 0)))
                        have OZ := Lib.hid (own_below OZ.out hb)
                        have GZ := Lib.hid E.out.size
                        have E := Lib.hid (E.out.trans (hb.mono E.out.size))
                        have S0 := Lib.hid (HUP.out _ E.out).r9
                        clear hb
                        obtain ⟨gz, hgl⟩ : ∃ g, g = V4.heap.size := ⟨_, rfl⟩
                        have GZ : Hid (V0.heap.size ≤ gz) := Lib.hid (by rw [hgl]; exact GZ.out)
                        rw [← hgl] at RZ ⊢
                        clear hgl
                        generalize V4.alloc (.cells (out0.cells (.slice none 0 0)).toArray 54) = V5 at *
                        refine hK.out _ _ S0.out ?_
                        clear hK K
                        try simp only [Act.put, List.setIfInBounds_toArray, List.set_cons_zero, List.set_cons_succ]
                        refine readyL (i := 11) rfl (by kernel_rfl) (by kernel_rfl) fun K hK => ?_
                        refine wp_store_whole 54 (.tmp 10) (.tmp 81) rfl gz (out0.cells (.slice none 0 0)) (Z.1.cells (.slice A7 Z.1.ch.length Z.1.ch.length)) RZ.out (size_out15 _ _) rfl (out_one15 _ rfl) (by go_simp) (by go_simp) ?_
                        intro VE hre hte
                        have OZE := Lib.hid (own_turned OZ.out RZ.out (by decide) hte)
                        have E := Lib.hid (E.out.trans (hte.below GZ.out))
                        have RZ := Lib.hid hre
                        have ME := HUP.out _ E.out
                        have S0 := Lib.hid ME.r9
                        clear hre hte OZ
                        refine hK.out _ _ S0.out ?_
                        clear hK K
                        try simp only [Act.put]
                        refine takeL (i := 12) (v := ?_) rfl (by kernel_rfl) (by kernel_rfl) (by kernel_rfl) (fun _ _ _ h => h) (Or.inl ⟨by rfl, ?_⟩) S0.out ?_
                        rotate_left
                        · intro w hw
                          try dsimp only at hw
                          go_simp
                          try with_reducible rfl
                        try simp only [Act.put, List.setIfInBounds_toArray, List.set_cons_zero, List.set_cons_succ]
                        refine wpAnyH_done (by kernel_rfl) ?_ _
                        go_wp2_with fail
                        go_meet
                        exact ⟨gz, A7, c7, _, rfl, rfl, ME, RZ.out, OZE.out⟩
                    · as_aux_lemma =>
                        refine wp_alloc_zero 54 rfl (out0.cells (.slice none 0 0)) zero_out15 ?_
                        have hb := (Below.refl V3.heap.size V3).alloc (Nat.le_refl _) (.cells (out0.cells (.slice none 0 0)).toArray 54)
                        have RZ := Lib.hid (Row.new V3 54 (out0.cells (.slice none 0 0)))
                        have OO := Lib.hid (own_below OO.out hb)
                        have GZ := Lib.hid E.out.size
                        have E := Lib.hid (E.out.trans (hb.mono E.out.size))
                        have S0 := Lib.hid (HUP.out _ E.out).r9
                        clear hb
                        obtain ⟨gz, hgl⟩ : ∃ g, g = V3.heap.size := ⟨_, rfl⟩
                        have GZ : Hid (V0.heap.size ≤ gz) := Lib.hid (by rw [hgl]; exact GZ.out)
                        rw [← hgl] at RZ ⊢
                        clear hgl
                        generalize V3.alloc (.cells (out0.cells (.slice none 0 0)).toArray 54) = V4 at *
                        refine hK.out _ _ S0.out ?_
                        clear hK K
                        try simp only [Act.put, List.setIfInBounds_toArray, List.set_cons_zero, List.set_cons_succ]
                        refine readyL (i := 6) rfl (by kernel_rfl) (by kernel_rfl) fun K hK => ?_
                        have HAC : Hid (AccsIn V4 V4.heap.size A9 (ln + 1) (l ++ [blank13])) := Lib.hid (accs_own (L := l ++ [blank13]) (by rw [List.length_append, HLL.out]; exact OO.out) (fun a ha => by
                          rcases List.mem_append.1 ha with ha | ha
                          · exact (HUP.out _ E.out).f.ac.ok a ha
                          · obtain rfl := List.mem_singleton.1 ha
                            exact blank_ok15) (by rw [List.length_append, HLL.out]; rfl))
                        have HRU := Lib.hid (run_more15 (HUP.out _ E.out).f ((RD.out.below E.out).more E.out.size) HAC.out HC9.out (Nat.le_refl _) (by have := HLN.out; omega) HRX2.out HF.out HOK.out HDB.out HT.out)
                        rw [← HZE.out, ← HCSE.out] at HRU
                        go_simp
                        refine HRU.out.mono ?_
                        clear HRU HAC
                        rintro e V5 ⟨A7, c7, rfl, hoz, hb⟩
                        have OZ := Lib.hid hoz
                        clear hoz
                        have RZ := Lib.hid (RZ.out.below hb RZ.out.lt)
                        have E := Lib.hid (E.out.trans (hb.mono E.out.size))
                        have S0 := Lib.hid (HUP.out _ E.out).r9
                        clear hb OO
                        refine hK.out _ _ S0.out ?_
                        clear hK K
                        try simp only [Act.put, List.setIfInBounds_toArray, List.set_cons_zero, List.set_cons_succ]
                        refine takeL (i := 7) (v := ?_) rfl (by kernel_rfl) (by kernel_rfl) (by kernel_rfl) (fun _ _ _ h => h) (Or.inl ⟨by rfl, ?_⟩) S0.out ?_
                        rotate_left
                        · intro w hw
                          try dsimp only at hw
                          go_simp
                          try with_reducible rfl
                        try simp only [Act.put, List.setIfInBounds_toArray, List.set_cons_zero, List.set_cons_succ]
                        refine takeL (i := 8) (v := ?_) rfl (by kernel_rfl) (by kernel_rfl) (by kernel_rfl) (fun _ _ _ h => h) (Or.inl ⟨by rfl, ?_⟩) S0.out ?_
                        rotate_left
                        · intro w hw
                          try dsimp only at hw
                          go_simp
                          try with_reducible rfl
                        try simp only [Act.put, List.setIfInBounds_toArray, List.set_cons_zero, List.set_cons_succ]
                        refine takeL (i := 9) (v := ?_) rfl (by kernel_rfl) (by kernel_rfl) (by kernel_rfl) (fun _ _ _ h => h) (Or.inl ⟨by rfl, ?_⟩) S0.out ?_
                        rotate_left
                        · intro w hw
                          try dsimp only at hw
                          go_simp
                          try with_reducible rfl
                        try simp only [Act.put, List.setIfInBounds_toArray, List.set_cons_zero, List.set_cons_succ]
                        refine readyL (i := 11) rfl (by kernel_rfl) (by kernel_rfl) fun K hK => ?_
                        refine wp_store_whole 54 (.tmp 10) (.tmp 81) rfl gz (out0.cells (.slice none 0 0)) (Z.1.cells (.slice A7 Z.1.ch.length Z.1.ch.length)) RZ.out (size_out15 _ _) rfl (out_one15 _ rfl) (by go_simp) (by go_simp) ?_
                        intro VE hre hte
                        have OZE := Lib.hid (own_turned OZ.out RZ.out (by decide) hte)
                        have E := Lib.hid (E.out.trans (hte.below GZ.out))
                        have RZ := Lib.hid hre
                        have ME := HUP.out _ E.out
                        have S0 := Lib.hid ME.r9
                        clear hre hte OZ
                        refine hK.out _ _ S0.out ?_
                        clear hK K
                        try simp only [Act.put]
                        refine takeL (i := 12) (v := ?_) rfl (by kernel_rfl) (by kernel_rfl) (by kernel_rfl) (fun _ _ _ h => h) (Or.inl ⟨by rfl, ?_⟩) S0.out ?_
                        rotate_left
                        · intro w hw
                          try dsimp only at hw
                          go_simp
                          try with_reducible rfl
                        try simp only [Act.put, List.setIfInBounds_toArray, List.set_cons_zero, List.set_cons_succ]
                        refine wpAnyH_done (by kernel_rfl) ?_ _
                        go_wp2_with fail
                        go_meet
                        exact ⟨gz, A7, c7, _, rfl, rfl, ME, RZ.out, OZE.out⟩
                · as_aux_lemma =>
                    refine wp_alloc_zero 54 rfl (out0.cells (.slice none 0 0)) zero_out15 ?_
                    have hb := (Below.refl V2.heap.size V2).alloc (Nat.le_refl _) (.cells (out0.cells (.slice none 0 0)).toArray 54)
                    have RL := Lib.hid (RL.out.below hb RL.out.lt)
                    have RZ := Lib.hid (Row.new V2 54 (out0.cells (.slice none 0 0)))
                    have OO := Lib.hid (own_below OO.out hb)
                    have GZ := Lib.hid E.out.size
                    have E := Lib.hid (E.out.trans (hb.mono E.out.size))
                    have S0 := Lib.hid (HUP.out _ E.out).r9
                    clear hb
                    obtain ⟨gz, hgl⟩ : ∃ g, g = V2.heap.size := ⟨_, rfl⟩
                    have GZ : Hid (V0.heap.size ≤ gz) := Lib.hid (by rw [hgl]; exact GZ.out)
                    rw [← hgl] at RZ ⊢
                    clear hgl
                    generalize V2.alloc (.cells (out0.cells (.slice none 0 0)).toArray 54) = V3 at *
                    refine hK.out _ _ S0.out ?_
                    clear hK K
                    try simp only [Act.put, List.setIfInBounds_toArray, List.set_cons_zero, List.set_cons_succ]
                    refine readyL (i := 5) rfl (by kernel_rfl) (by kernel_rfl) fun K hK => ?_
                    refine wp_appendN (.tmp 76) (.tmp 78) 49 59 _ 34 48 rfl Tryd.underlying49 info_ac15 (by kernel_rfl) (by omega) (.slice A8 ln c8) ln (accsC l) V0.heap.size V3.heap.size (some ⟨gl, 0, none⟩) 1 1 blank13.cells (by go_simp) OO.out (by go_simp) RL.out.sees0 (acc_one _) (by have := HLN.out; unfold maxLen; omega) (by have := HLN.out; omega) E.out.size ?_
                    intro v2 V4 ho2 hg2
                    rw [← accsC_snoc] at ho2
                    obtain ⟨A9, c9, rfl, _, hc1, hc2, _⟩ := own_form2 ho2
                    have HC9 := Lib.hid (And.intro hc1 hc2)
                    have hb : Below V0.heap.size V3 V4 := hg2.below OO.out E.out.size
                    have RZ := Lib.hid (RZ.out.grown hg2.grown (own_row_neN OO.out RZ.out (by decide)))
                    have OO := Lib.hid ho2
                    clear ho2 hg2 RL hc1 hc2
                    have E := Lib.hid (E.out.trans hb)
                    have S0 := Lib.hid (HUP.out _ E.out).r9
                    clear hb
                    refine hK.out _ _ S0.out ?_
                    clear hK K
                    try simp only [Act.put, List.setIfInBounds_toArray, List.set_cons_zero, List.set_cons_succ]
                    refine readyL (i := 6) rfl (by kernel_rfl) (by kernel_rfl) fun K hK => ?_
                    have HAC : Hid (AccsIn V4 V4.heap.size A9 (ln + 1) (l ++ [blank13])) := Lib.hid (accs_own (L := l ++ [blank13]) (by rw [List.length_append, HLL.out]; exact OO.out) (fun a ha => by
                      rcases List.mem_append.1 ha with ha | ha
                      · exact (HUP.out _ E.out).f.ac.ok a ha
                      · obtain rfl := List.mem_singleton.1 ha
                        exact blank_ok15) (by rw [List.length_append, HLL.out]; rfl))
                    have HRU := Lib.hid (run_more15 (HUP.out _ E.out).f ((RD.out.below E.out).more E.out.size) HAC.out HC9.out (Nat.le_refl _) (by have := HLN.out; omega) HRX2.out HF.out HOK.out HDB.out HT.out)
                    rw [← HZE.out, ← HCSE.out] at HRU
                    go_simp
                    refine HRU.out.mono ?_
                    clear HRU HAC
                    rintro e V5 ⟨A7, c7, rfl, hoz, hb⟩
                    have OZ := Lib.hid hoz
                    clear hoz
                    have RZ := Lib.hid (RZ.out.below hb RZ.out.lt)
                    have E := Lib.hid (E.out.trans (hb.mono E.out.size))
                    have S0 := Lib.hid (HUP.out _ E.out).r9
                    clear hb OO
                    refine hK.out _ _ S0.out ?_
                    clear hK K
                    try simp only [Act.put, List.setIfInBounds_toArray, List.set_cons_zero, List.set_cons_succ]
                    refine takeL (i := 7) (v := ?_) rfl (by kernel_rfl) (by kernel_rfl) (by kernel_rfl) (fun _ _ _ h => h) (Or.inl ⟨by rfl, ?_⟩) S0.out ?_
                    rotate_left
                    · intro w hw
                      try dsimp only at hw
                      go_simp
                      try with_reducible rfl
                    try simp only [Act.put, List.setIfInBounds_toArray, List.set_cons_zero, List.set_cons_succ]
                    refine takeL (i := 8) (v := ?_) rfl (by kernel_rfl) (by kernel_rfl) (by kernel_rfl) (fun _ _ _ h => h) (Or.inl ⟨by rfl, ?_⟩) S0.out ?_
                    rotate_left
                    · intro w hw
                      try dsimp only at hw
                      go_simp
                      try with_reducible rfl
                    try simp only [Act.put, List.setIfInBounds_toArray, List.set_cons_zero, List.set_cons_succ]
                    refine takeL (i := 9) (v := ?_) rfl (by kernel_rfl) (by kernel_rfl) (by kernel_rfl) (fun _ _ _ h => h) (Or.inl ⟨by rfl, ?_⟩) S0.out ?_
                    rotate_left
                    · intro w hw
                      try dsimp only at hw
                      go_simp
                      try with_reducible rfl
                    try simp only [Act.put, List.setIfInBounds_toArray, List.set_cons_zero, List.set_cons_succ]
                    refine readyL (i := 11) rfl (by kernel_rfl) (by kernel_rfl) fun K hK => ?_
                    refine wp_store_whole 54 (.tmp 10) (.tmp 81) rfl gz (out0.cells (.slice none 0 0)) (Z.1.cells (.slice A7 Z.1.ch.length Z.1.ch.length)) RZ.out (size_out15 _ _) rfl (out_one15 _ rfl) (by go_simp) (by go_simp) ?_
                    intro VE hre hte
                    have OZE := Lib.hid (own_turned OZ.out RZ.out (by decide) hte)
                    have E := Lib.hid (E.out.trans (hte.below GZ.out))
                    have RZ := Lib.hid hre
                    have ME := HUP.out _ E.out
                    have S0 := Lib.hid ME.r9
                    clear hre hte OZ
                    refine hK.out _ _ S0.out ?_
                    clear hK K
                    try simp only [Act.put]
                    refine takeL (i := 12) (v := ?_) rfl (by kernel_rfl) (by kernel_rfl) (by kernel_rfl) (fun _ _ _ h => h) (Or.inl ⟨by rfl, ?_⟩) S0.out ?_
                    rotate_left
                    · intro w hw
                      try dsimp only at hw
                      go_simp
                      try with_reducible rfl
                    try simp only [Act.put, List.setIfInBounds_toArray, List.set_cons_zero, List.set_cons_succ]
                    refine wpAnyH_done (by kernel_rfl) ?_ _
                    go_wp2_with fail
                    go_meet
                    exact ⟨gz, A7, c7, _, rfl, rfl, ME, RZ.out, OZE.out⟩
            · as_aux_lemma =>
                refine wp_alloc_zero 54 rfl (out0.cells (.slice none 0 0)) zero_out15 ?_
                have hb := (Below.refl V1.heap.size V1).alloc (Nat.le_refl _) (.cells (out0.cells (.slice none 0 0)).toArray 54)
                have RZ := Lib.hid (Row.new V1 54 (out0.cells (.slice none 0 0)))
                have OO := Lib.hid (own_below OO.out hb)
                have GZ := Lib.hid E.out.size
                have E := Lib.hid (E.out.trans (hb.mono E.out.size))
                have S0 := Lib.hid (HUP.out _ E.out).r9
                clear hb
                obtain ⟨gz, hgl⟩ : ∃ g, g = V1.heap.size := ⟨_, rfl⟩
                have GZ : Hid (V0.heap.size ≤ gz) := Lib.hid (by rw [hgl]; exact GZ.out)
                rw [← hgl] at RZ ⊢
                clear hgl
                generalize V1.alloc (.cells (out0.cells (.slice none 0 0)).toArray 54) = V2 at *
                refine hK.out _ _ S0.out ?_
                clear hK K
                try simp only [Act.put, List.setIfInBounds_toArray, List.set_cons_zero, List.set_cons_succ]
                refine readyL (i := 4) rfl (by kernel_rfl) (by kernel_rfl) fun K hK => ?_
                refine wp_buildOne 49 59 (.tmp 77) rfl blank13.cells _ 34 48 Tryd.underlying49 info_ac15 (by kernel_rfl) (by omega) (by omega) rfl (by go_simp) ?_
                have hb := (Below.refl V2.heap.size V2).alloc (Nat.le_refl _) (.cells blank13.cells.toArray 59)
                have RZ := Lib.hid (RZ.out.below hb RZ.out.lt)
                have RL := Lib.hid (Row.new V2 59 blank13.cells)
                have OO := Lib.hid (own_below OO.out hb)
                have E := Lib.hid (E.out.trans (hb.mono E.out.size))
                have S0 := Lib.hid (HUP.out _ E.out).r9
                clear hb
                obtain ⟨gl, hgl⟩ : ∃ g, g = V2.heap.size := ⟨_, rfl⟩

                rw [← hgl] at RL ⊢
                clear hgl
                generalize V2.alloc (.cells blank13.cells.toArray 59) = V3 at *
                refine hK.out _ _ S0.out ?_
                clear hK K
                try simp only [Act.put, List.setIfInBounds_toArray, List.set_cons_zero, List.set_cons_succ]
                refine readyL (i := 5) rfl (by kernel_rfl) (by kernel_rfl) fun K hK => ?_
                refine wp_appendN (.tmp 76) (.tmp 78) 49 59 _ 34 48 rfl Tryd.underlying49 info_ac15 (by kernel_rfl) (by omega) (.slice A8 ln c8) ln (accsC l) V0.heap.size V3.heap.size (some ⟨gl, 0, none⟩) 1 1 blank13.cells (by go_simp) OO.out (by go_simp) RL.out.sees0 (acc_one _) (by have := HLN.out; unfold maxLen; omega) (by have := HLN.out; omega) E.out.size ?_
                intro v2 V4 ho2 hg2
                rw [← accsC_snoc] at ho2
                obtain ⟨A9, c9, rfl, _, hc1, hc2, _⟩ := own_form2 ho2
                have HC9 := Lib.hid (And.intro hc1 hc2)
                have hb : Below V0.heap.size V3 V4 := hg2.below OO.out E.out.size
                have RZ := Lib.hid (RZ.out.grown hg2.grown (own_row_neN OO.out RZ.out (by decide)))
                have OO := Lib.hid ho2
                clear ho2 hg2 RL hc1 hc2
                have E := Lib.hid (E.out.trans hb)
                have S0 := Lib.hid (HUP.out _ E.out).r9
                clear hb
                refine hK.out _ _ S0.out ?_
                clear hK K
                try simp only [Act.put, List.setIfInBounds_toArray, List.set_cons_zero, List.set_cons_succ]
                refine readyL (i := 6) rfl (by kernel_rfl) (by kernel_rfl) fun K hK => ?_
                have HAC : Hid (AccsIn V4 V4.heap.size A9 (ln + 1) (l ++ [blank13])) := Lib.hid (accs_own (L := l ++ [blank13]) (by rw [List.length_append, HLL.out]; exact OO.out) (fun a ha => by
                  rcases List.mem_append.1 ha with ha | ha
                  · exact (HUP.out _ E.out).f.ac.ok a ha
                  · obtain rfl := List.mem_singleton.1 ha
                    exact blank_ok15) (by rw [List.length_append, HLL.out]; rfl))
                have HRU := Lib.hid (run_more15 (HUP.out _ E.out).f ((RD.out.below E.out).more E.out.size) HAC.out HC9.out (Nat.le_refl _) (by have := HLN.out; omega) HRX2.out HF.out HOK.out HDB.out HT.out)
                rw [← HZE.out, ← HCSE.out] at HRU
                go_simp
                refine HRU.out.mono ?_
                clear HRU HAC
                rintro e V5 ⟨A7, c7, rfl, hoz, hb⟩
                have OZ := Lib.hid hoz
                clear hoz
                have RZ := Lib.hid (RZ.out.below hb RZ.out.lt)
                have E := Lib.hid (E.out.trans (hb.mono E.out.size))
                have S0 := Lib.hid (HUP.out _ E.out).r9
                clear hb OO
                refine hK.out _ _ S0.out ?_
                clear hK K
                try simp only [Act.put, List.setIfInBounds_toArray, List.set_cons_zero, List.set_cons_succ]
                refine takeL (i := 7) (v := ?_) rfl (by kernel_rfl) (by kernel_rfl) (by kernel_rfl) (fun _ _ _ h => h) (Or.inl ⟨by rfl, ?_⟩) S0.out ?_
                rotate_left
                · intro w hw
                  try dsimp only at hw
                  go_simp
                  try with_reducible rfl
                try simp only [Act.put, List.setIfInBounds_toArray, List.set_cons_zero, List.set_cons_succ]
                refine takeL (i := 8) (v := ?_) rfl (by kernel_rfl) (by kernel_rfl) (by kernel_rfl) (fun _ _ _ h => h) (Or.inl ⟨by rfl, ?_⟩) S0.out ?_
                rotate_left
                · intro w hw
                  try dsimp only at hw
                  go_simp
                  try with_reducible rfl
                try simp only [Act.put, List.setIfInBounds_toArray, List.set_cons_zero, List.set_cons_succ]
                refine takeL (i := 9) (v := ?_) rfl (by kernel_rfl) (by kernel_rfl) (by kernel_rfl) (fun _ _ _ h => h) (Or.inl ⟨by rfl, ?_⟩) S0.out ?_
                rotate_left
                · intro w hw
                  try dsimp only at hw
                  go_simp
                  try with_reducible rfl
                try simp only [Act.put, List.setIfInBounds_toArray, List.set_cons_zero, List.set_cons_succ]
                refine readyL (i := 11) rfl (by kernel_rfl) (by kernel_rfl) fun K hK => ?_
                refine wp_store_whole 54 (.tmp 10) (.tmp 81) rfl gz (out0.cells (.slice none 0 0)) (Z.1.cells (.slice A7 Z.1.ch.length Z.1.ch.length)) RZ.out (size_out15 _ _) rfl (out_one15 _ rfl) (by go_simp) (by go_simp) ?_
                intro VE hre hte
                have OZE := Lib.hid (own_turned OZ.out RZ.out (by decide) hte)
                have E := Lib.hid (E.out.trans (hte.below GZ.out))
                have RZ := Lib.hid hre
                have ME := HUP.out _ E.out
                have S0 := Lib.hid ME.r9
                clear hre hte OZ
                refine hK.out _ _ S0.out ?_
                clear hK K
                try simp only [Act.put]
                refine takeL (i := 12) (v := ?_) rfl (by kernel_rfl) (by kernel_rfl) (by kernel_rfl) (fun _ _ _ h => h) (Or.inl ⟨by rfl, ?_⟩) S0.out ?_
                rotate_left
                · intro w hw
                  try dsimp only at hw
                  go_simp
                  try with_reducible rfl
                try simp only [Act.put, List.setIfInBounds_toArray, List.set_cons_zero, List.set_cons_succ]
                refine wpAnyH_done (by kernel_rfl) ?_ _
                go_wp2_with fail
                go_meet
                exact ⟨gz, A7, c7, _, rfl, rfl, ME, RZ.out, OZE.out⟩
        · as_aux_lemma =>
            refine wp_buildOne 49 59 (.tmp 77) rfl blank13.cells _ 34 48 Tryd.underlying49 info_ac15 (by kernel_rfl) (by omega) (by omega) rfl (by go_simp) ?_
            have hb := (Below.refl V0.heap.size V0).alloc (Nat.le_refl _) (.cells blank13.cells.toArray 59)
            have RL := Lib.hid (Row.new V0 59 blank13.cells)
            have E := Lib.hid (E.out.trans (hb.mono E.out.size))
            have S0 := Lib.hid (HUP.out _ E.out).r9
            clear hb
            obtain ⟨gl, hgl⟩ : ∃ g, g = V0.heap.size := ⟨_, rfl⟩

            rw [← hgl] at RL ⊢
            clear hgl
            generalize V0.alloc (.cells blank13.cells.toArray 59) = V1 at *
            refine hK.out _ _ S0.out ?_
            clear hK K
            try simp only [Act.put, List.setIfInBounds_toArray, List.set_cons_zero, List.set_cons_succ]
            refine readyL2 (i := 2) (j := 10) rfl rfl (by kernel_rfl) (by kernel_rfl) (by kernel_rfl) (fun K hK => ?_) (fun K hK => ?_)
            · as_aux_lemma =>
                refine wp_appendN (.const (.slice none 0 0)) (.tmp 75) 49 59 _ 34 48 rfl Tryd.underlying49 info_ac15 (by kernel_rfl) (by omega) (.slice none 0 0) 0 [] V0.heap.size B LA ln lc (accsC l) rfl (own_nilN _ _ _ _) (by go_simp) (HUP.out _ E.out).f.ac.sees (accsC_one _) (by have := HLN.out; unfold maxLen; omega) (by have := HLN.out; omega) E.out.size ?_
                intro v1 V2 ho1 hg1
                rw [Nat.zero_add, List.nil_append] at ho1
                obtain ⟨A8, c8, rfl, _, _, _, _⟩ := own_form2 ho1
                have hb : Below V1.heap.size V1 V2 := (Below.refl _ _).grown hg1.grown (Nat.le_refl _) (fun k hk => by cases hk)
                have OO := Lib.hid ho1
                clear ho1 hg1
                have RL := Lib.hid (RL.out.below hb RL.out.lt)
                have E := Lib.hid (E.out.trans (hb.mono E.out.size))
                have S0 := Lib.hid (HUP.out _ E.out).r9
                clear hb
                refine hK.out _ _ S0.out ?_
                clear hK K
                try simp only [Act.put, List.setIfInBounds_toArray, List.set_cons_zero, List.set_cons_succ]
                refine readyL2 (i := 5) (j := 10) rfl rfl (by kernel_rfl) (by kernel_rfl) (by kernel_rfl) (fun K hK => ?_) (fun K hK => ?_)
                · as_aux_lemma =>
                    refine wp_appendN (.tmp 76) (.tmp 78) 49 59 _ 34 48 rfl Tryd.underlying49 info_ac15 (by kernel_rfl) (by omega) (.slice A8 ln c8) ln (accsC l) V0.heap.size V2.heap.size (some ⟨gl, 0, none⟩) 1 1 blank13.cells (by go_simp) OO.out (by go_simp) RL.out.sees0 (acc_one _) (by have := HLN.out; unfold maxLen; omega) (by have := HLN.out; omega) E.out.size ?_
                    intro v2 V3 ho2 hg2
                    rw [← accsC_snoc] at ho2
                    obtain ⟨A9, c9, rfl, _, hc1, hc2, _⟩ := own_form2 ho2
                    have HC9 := Lib.hid (And.intro hc1 hc2)
                    have hb : Below V0.heap.size V2 V3 := hg2.below OO.out E.out.size
                    have OO := Lib.hid ho2
                    clear ho2 hg2 RL hc1 hc2
                    have E := Lib.hid (E.out.trans hb)
                    have S0 := Lib.hid (HUP.out _ E.out).r9
                    clear hb
                    refine hK.out _ _ S0.out ?_
                    clear hK K
                    try simp only [Act.put, List.setIfInBounds_toArray, List.set_cons_zero, List.set_cons_succ]
                    refine readyL2 (i := 6) (j := 10) rfl rfl (by kernel_rfl) (by kernel_rfl) (by kernel_rfl) (fun K hK => ?_) (fun K hK => ?_)
                    · as_aux_lemma =>
                        have HAC : Hid (AccsIn V3 V3.heap.size A9 (ln + 1) (l ++ [blank13])) := Lib.hid (accs_own (L := l ++ [blank13]) (by rw [List.length_append, HLL.out]; exact OO.out) (fun a ha => by
                          rcases List.mem_append.1 ha with ha | ha
                          · exact (HUP.out _ E.out).f.ac.ok a ha
                          · obtain rfl := List.mem_singleton.1 ha
                            exact blank_ok15) (by rw [List.length_append, HLL.out]; rfl))
                        have HRU := Lib.hid (run_more15 (HUP.out _ E.out).f ((RD.out.below E.out).more E.out.size) HAC.out HC9.out (Nat.le_refl _) (by have := HLN.out; omega) HRX2.out HF.out HOK.out HDB.out HT.out)
                        rw [← HZE.out, ← HCSE.out] at HRU
                        go_simp
                        refine HRU.out.mono ?_
                        clear HRU HAC
                        rintro e V4 ⟨A7, c7, rfl, hoz, hb⟩
                        have OZ := Lib.hid hoz
                        clear hoz
                        have E := Lib.hid (E.out.trans (hb.mono E.out.size))
                        have S0 := Lib.hid (HUP.out _ E.out).r9
                        clear hb OO
                        refine hK.out _ _ S0.out ?_
                        clear hK K
                        try simp only [Act.put, List.setIfInBounds_toArray, List.set_cons_zero, List.set_cons_succ]
                        refine takeL (i := 7) (v := ?_) rfl (by kernel_rfl) (by kernel_rfl) (by kernel_rfl) (fun _ _ _ h => h) (Or.inl ⟨by rfl, ?_⟩) S0.out ?_
                        rotate_left
                        · intro w hw
                          try dsimp only at hw
                          go_simp
                          try with_reducible rfl
                        try simp only [Act.put, List.setIfInBounds_toArray, List.set_cons_zero, List.set_cons_succ]
                        refine takeL (i := 8) (v := ?_) rfl (by kernel_rfl) (by kernel_rfl) (by kernel_rfl) (fun _ _ _ h => h) (Or.inl ⟨by rfl, ?_⟩) S0.out ?_
                        rotate_left
                        · intro w hw
                          try dsimp only at hw
                          go_simp
                          try with_reducible rfl
                        try simp only [Act.put, List.setIfInBounds_toArray, List.set_cons_zero, List.set_cons_succ]
                        refine takeL (i := 9) (v := ?_) rfl (by kernel_rfl) (by kernel_rfl) (by kernel_rfl) (fun _ _ _ h => h) (Or.inl ⟨by rfl, ?_⟩) S0.out ?_
                        rotate_left
                        · intro w hw
                          try dsimp only at hw
                          go_simp
                          try with_reducible rfl
                        try simp only [Act.put, List.setIfInBounds_toArray, List.set_cons_zero, List.set_cons_succ]
                        refine readyL (i := 10) rfl (by kernel_rfl) (by kernel_rfl) fun K hK => ?_
                        refine wp_alloc_zero 54 rfl (out0.cells (.slice none 0 0)) zero_out15 ?_
                        have hb := (Below.refl V4.heap.size V4).alloc (Nat.le_refl _) (.cells (out0.cells (.slice none 0 0)).toArray 54)
                        have RZ := Lib.hid (Row.new V4 54 (out0.cells (.slice none 0 0)))
                        have OZ := Lib.hid (own_below OZ.out hb)
                        have GZ := Lib.hid E.out.size
                        have E := Lib.hid (E.out.trans (hb.mono E.out.size))
                        have S0 := Lib.hid (HUP.out _ E.out).r9
                        clear hb
                        obtain ⟨gz, hgl⟩ : ∃ g, g = V4.heap.size := ⟨_, rfl⟩
                        have GZ : Hid (V0.heap.size ≤ gz) := Lib.hid (by rw [hgl]; exact GZ.out)
                        rw [← hgl] at RZ ⊢
                        clear hgl
                        generalize V4.alloc (.cells (out0.cells (.slice none 0 0)).toArray 54) = V5 at *
                        refine hK.out _ _ S0.out ?_
                        clear hK K
                        try simp only [Act.put, List.setIfInBounds_toArray, List.set_cons_zero, List.set_cons_succ]
                        refine readyL (i := 11) rfl (by kernel_rfl) (by kernel_rfl) fun K hK => ?_
                        refine wp_store_whole 54 (.tmp 10) (.tmp 81) rfl gz (out0.cells (.slice none 0 0)) (Z.1.cells (.slice A7 Z.1.ch.length Z.1.ch.length)) RZ.out (size_out15 _ _) rfl (out_one15 _ rfl) (by go_simp) (by go_simp) ?_
                        intro VE hre hte
                        have OZE := Lib.hid (own_turned OZ.out RZ.out (by decide) hte)
                        have E := Lib.hid (E.out.trans (hte.below GZ.out))
                        have RZ := Lib.hid hre
                        have ME := HUP.out _ E.out
                        have S0 := Lib.hid ME.r9
                        clear hre hte OZ
                        refine hK.out _ _ S0.out ?_
                        clear hK K
                        try simp only [Act.put]
                        refine takeL (i := 12) (v := ?_) rfl (by kernel_rfl) (by kernel_rfl) (by kernel_rfl) (fun _ _ _ h => h) (Or.inl ⟨by rfl, ?_⟩) S0.out ?_
                        rotate_left
                        · intro w hw
                          try dsimp only at hw
                          go_simp
                          try with_reducible rfl
                        try simp only [Act.put, List.setIfInBounds_toArray, List.set_cons_zero, List.set_cons_succ]
                        refine wpAnyH_done (by kernel_rfl) ?_ _
                        go_wp2_with fail
                        go_meet
                        exact ⟨gz, A7, c7, _, rfl, rfl, ME, RZ.out, OZE.out⟩
                    · as_aux_lemma =>
                        refine wp_alloc_zero 54 rfl (out0.cells (.slice none 0 0)) zero_out15 ?_
                        have hb := (Below.refl V3.heap.size V3).alloc (Nat.le_refl _) (.cells (out0.cells (.slice none 0 0)).toArray 54)
                        have RZ := Lib.hid (Row.new V3 54 (out0.cells (.slice none 0 0)))
                        have OO := Lib.hid (own_below OO.out hb)
                        have GZ := Lib.hid E.out.size
                        have E := Lib.hid (E.out.trans (hb.mono E.out.size))
                        have S0 := Lib.hid (HUP.out _ E.out).r9
                        clear hb
                        obtain ⟨gz, hgl⟩ : ∃ g, g = V3.heap.size := ⟨_, rfl⟩
                        have GZ : Hid (V0.heap.size ≤ gz) := Lib.hid (by rw [hgl]; exact GZ.out)
                        rw [← hgl] at RZ ⊢
                        clear hgl
                        generalize V3.alloc (.cells (out0.cells (.slice none 0 0)).toArray 54) = V4 at *
                        refine hK.out _ _ S0.out ?_
                        clear hK K
                        try simp only [Act.put, List.setIfInBounds_toArray, List.set_cons_zero, List.set_cons_succ]
                        refine readyL (i := 6) rfl (by kernel_rfl) (by kernel_rfl) fun K hK => ?_
                        have HAC : Hid (AccsIn V4 V4.heap.size A9 (ln + 1) (l ++ [blank13])) := Lib.hid (accs_own (L := l ++ [blank13]) (by rw [List.length_append, HLL.out]; exact OO.out) (fun a ha => by
                          rcases List.mem_append.1 ha with ha | ha
                          · exact (HUP.out _ E.out).f.ac.ok a ha
                          · obtain rfl := List.mem_singleton.1 ha
                            exact blank_ok15) (by rw [List.length_append, HLL.out]; rfl))
                        have HRU := Lib.hid (run_more15 (HUP.out _ E.out).f ((RD.out.below E.out).more E.out.size) HAC.out HC9.out (Nat.le_refl _) (by have := HLN.out; omega) HRX2.out HF.out HOK.out HDB.out HT.out)
                        rw [← HZE.out, ← HCSE.out] at HRU
                        go_simp
                        refine HRU.out.mono ?_
                        clear HRU HAC
                        rintro e V5 ⟨A7, c7, rfl, hoz, hb⟩
                        have OZ := Lib.hid hoz
                        clear hoz
                        have RZ := Lib.hid (RZ.out.below hb RZ.out.lt)
                        have E := Lib.hid (E.out.trans (hb.mono E.out.size))
                        have S0 := Lib.hid (HUP.out _ E.out).r9
                        clear hb OO
                        refine hK.out _ _ S0.out ?_
                        clear hK K
                        try simp only [Act.put, List.setIfInBounds_toArray, List.set_cons_zero, List.set_cons_succ]
                        refine takeL (i := 7) (v := ?_) rfl (by kernel_rfl) (by kernel_rfl) (by kernel_rfl) (fun _ _ _ h => h) (Or.inl ⟨by rfl, ?_⟩) S0.out ?_
                        rotate_left
                        · intro w hw
                          try dsimp only at hw
                          go_simp
                          try with_reducible rfl
                        try simp only [Act.put, List.setIfInBounds_toArray, List.set_cons_zero, List.set_cons_succ]
                        refine takeL (i := 8) (v := ?_) rfl (by kernel_rfl) (by kernel_rfl) (by kernel_rfl) (fun _ _ _ h => h) (Or.inl ⟨by rfl, ?_⟩) S0.out ?_
                        rotate_left
                        · intro w hw
                          try dsimp only at hw
                          go_simp
                          try with_reducible rfl
                        try simp only [Act.put, List.setIfInBounds_toArray, List.set_cons_zero, List.set_cons_succ]
                        refine takeL (i := 9) (v := ?_) rfl (by kernel_rfl) (by kernel_rfl) (by kernel_rfl) (fun _ _ _ h => h) (Or.inl ⟨by rfl, ?_⟩) S0.out ?_
                        rotate_left
                        · intro w hw
                          try dsimp only at hw
                          go_simp
                          try with_reducible rfl
                        try simp only [Act.put, List.setIfInBounds_toArray, List.set_cons_zero, List.set_cons_succ]
                        refine readyL (i := 11) rfl (by kernel_rfl) (by kernel_rfl) fun K hK => ?_
                        refine wp_store_whole 54 (.tmp 10) (.tmp 81) rfl gz (out0.cells (.slice none 0 0)) (Z.1.cells (.slice A7 Z.1.ch.length Z.1.ch.length)) RZ.out (size_out15 _ _) rfl (out_one15 _ rfl) (by go_simp) (by go_simp) ?_
                        intro VE hre hte
                        have OZE := Lib.hid (own_turned OZ.out RZ.out (by decide) hte)
                        have E := Lib.hid (E.out.trans (hte.below GZ.out))
                        have RZ := Lib.hid hre
                        have ME := HUP.out _ E.out
                        have S0 := Lib.hid ME.r9
                        clear hre hte OZ
                        refine hK.out _ _ S0.out ?_
                        clear hK K
                        try simp only [Act.put]
                        refine takeL (i := 12) (v := ?_) rfl (by kernel_rfl) (by kernel_rfl) (by kernel_rfl) (fun _ _ _ h => h) (Or.inl ⟨by rfl, ?_⟩) S0.out ?_
                        rotate_left
                        · intro w hw
                          try dsimp only at hw
                          go_simp
                          try with_reducible rfl
                        try simp only [Act.put, List.setIfInBounds_toArray, List.set_cons_zero, List.set_cons_succ]
                        refine wpAnyH_done (by kernel_rfl) ?_ _
                        go_wp2_with fail
                        go_meet
                        exact ⟨gz, A7, c7, _, rfl, rfl, ME, RZ.out, OZE.out⟩
                · as_aux_lemma =>
                    refine wp_alloc_zero 54 rfl (out0.cells (.slice none 0 0)) zero_out15 ?_
                    have hb := (Below.refl V2.heap.size V2).alloc (Nat.le_refl _) (.cells (out0.cells (.slice none 0 0)).toArray 54)
                    have RL := Lib.hid (RL.out.below hb RL.out.lt)
                    have RZ := Lib.hid (Row.new V2 54 (out0.cells (.slice none 0 0)))
                    have OO := Lib.hid (own_below OO.out hb)
                    have GZ := Lib.hid E.out.size
                    have E := Lib.hid (E.out.trans (hb.mono E.out.size))
                    have S0 := Lib.hid (HUP.out _ E.out).r9
                    clear hb
                    obtain ⟨gz, hgl⟩ : ∃ g, g = V2.heap.size := ⟨_, rfl⟩
                    have GZ : Hid (V0.heap.size ≤ gz) := Lib.hid (by rw [hgl]; exact GZ.out)
                    rw [← hgl] at RZ ⊢
                    clear hgl
                    generalize V2.alloc (.cells (out0.cells (.slice none 0 0)).toArray 54) = V3 at *
                    refine hK.out _ _ S0.out ?_
                    clear hK K
                    try simp only [Act.put, List.setIfInBounds_toArray, List.set_cons_zero, List.set_cons_succ]
                    refine readyL (i := 5) rfl (by kernel_rfl) (by kernel_rfl) fun K hK => ?_
                    refine wp_appendN (.tmp 76) (.tmp 78) 49 59 _ 34 48 rfl Tryd.underlying49 info_ac15 (by kernel_rfl) (by omega) (.slice A8 ln c8) ln (accsC l) V0.heap.size V3.heap.size (some ⟨gl, 0, none⟩) 1 1 blank13.cells (by go_simp) OO.out (by go_simp) RL.out.sees0 (acc_one _) (by have := HLN.out; unfold maxLen; omega) (by have := HLN.out; omega) E.out.size ?_
                    intro v2 V4 ho2 hg2
                    rw [← accsC_snoc] at ho2
                    obtain ⟨A9, c9, rfl, _, hc1, hc2, _⟩ := own_form2 ho2
                    have HC9 := Lib.hid (And.intro hc1 hc2)
                    have hb : Below V0.heap.size V3 V4 := hg2.below OO.out E.out.size
                    have RZ := Lib.hid (RZ.out.grown hg2.grown (own_row_neN OO.out RZ.out (by decide)))
                    have OO := Lib.hid ho2
                    clear ho2 hg2 RL hc1 hc2
                    have E := Lib.hid (E.out.trans hb)
                    have S0 := Lib.hid (HUP.out _ E.out).r9
                    clear hb
                    refine hK.out _ _ S0.out ?_
                    clear hK K
                    try simp only [Act.put, List.setIfInBounds_toArray, List.set_cons_zero, List.set_cons_succ]
                    refine readyL (i := 6) rfl (by kernel_rfl) (by kernel_rfl) fun K hK => ?_
                    have HAC : Hid (AccsIn V4 V4.heap.size A9 (ln + 1) (l ++ [blank13])) := Lib.hid (accs_own (L := l ++ [blank13]) (by rw [List.length_append, HLL.out]; exact OO.out) (fun a ha => by
                      rcases List.mem_append.1 ha with ha | ha
                      · exact (HUP.out _ E.out).f.ac.ok a ha
                      · obtain rfl := List.mem_singleton.1 ha
                        exact blank_ok15) (by rw [List.length_append, HLL.out]; rfl))
                    have HRU := Lib.hid (run_more15 (HUP.out _ E.out).f ((RD.out.below E.out).more E.out.size) HAC.out HC9.out (Nat.le_refl _) (by have := HLN.out; omega) HRX2.out HF.out HOK.out HDB.out HT.out)
                    rw [← HZE.out, ← HCSE.out] at HRU
                    go_simp
                    refine HRU.out.mono ?_
                    clear HRU HAC
                    rintro e V5 ⟨A7, c7, rfl, hoz, hb⟩
                    have OZ := Lib.hid hoz
                    clear hoz
                    have RZ := Lib.hid (RZ.out.below hb RZ.out.lt)
                    have E := Lib.hid (E.out.trans (hb.mono E.out.size))
                    have S0 := Lib.hid (HUP.out _ E.out).r9
                    clear hb OO
                    refine hK.out _ _ S0.out ?_
                    clear hK K
                    try simp only [Act.put, List.setIfInBounds_toArray, List.set_cons_zero, List.set_cons_succ]
                    refine takeL (i := 7) (v := ?_) rfl (by kernel_rfl) (by kernel_rfl) (by kernel_rfl) (fun _ _ _ h => h) (Or.inl ⟨by rfl, ?_⟩) S0.out ?_
                    rotate_left
                    · intro w hw
                      try dsimp only at hw
                      go_simp
                      try with_reducible rfl
                    try simp only [Act.put, List.setIfInBounds_toArray, List.set_cons_zero, List.set_cons_succ]
                    refine takeL (i := 8) (v := ?_) rfl (by kernel_rfl) (by kernel_rfl) (by kernel_rfl) (fun _ _ _ h => h) (Or.inl ⟨by rfl, ?_⟩) S0.out ?_
                    rotate_left
                    · intro w hw
                      try dsimp only at hw
                      go_simp
                      try with_reducible rfl
                    try simp only [Act.put, List.setIfInBounds_toArray, List.set_cons_zero, List.set_cons_succ]
                    refine takeL (i := 9) (v := ?_) rfl (by kernel_rfl) (by kernel_rfl) (by kernel_rfl) (fun _ _ _ h => h) (Or.inl ⟨by rfl, ?_⟩) S0.out ?_
                    rotate_left
                    · intro w hw
                      try dsimp only at hw
                      go_simp
                      try with_reducible rfl
                    try simp only [Act.put, List.setIfInBounds_toArray, List.set_cons_zero, List.set_cons_succ]
                    refine readyL (i := 11) rfl (by kernel_rfl) (by kernel_rfl) fun K hK => ?_
                    refine wp_store_whole 54 (.tmp 10) (.tmp 81) rfl gz (out0.cells (.slice none 0 0)) (Z.1.cells (.slice A7 Z.1.ch.length Z.1.ch.length)) RZ.out (size_out15 _ _) rfl (out_one15 _ rfl) (by go_simp) (by go_simp) ?_
                    intro VE hre hte
                    have OZE := Lib.hid (own_turned OZ.out RZ.out (by decide) hte)
                    have E := Lib.hid (E.out.trans (hte.below GZ.out))
                    have RZ := Lib.hid hre
                    have ME := HUP.out _ E.out
                    have S0 := Lib.hid ME.r9
                    clear hre hte OZ
                    refine hK.out _ _ S0.out ?_
                    clear hK K
                    try simp only [Act.put]
                    refine takeL (i := 12) (v := ?_) rfl (by kernel_rfl) (by kernel_rfl) (by kernel_rfl) (fun _ _ _ h => h) (Or.inl ⟨by rfl, ?_⟩) S0.out ?_
                    rotate_left
                    · intro w hw
                      try dsimp only at hw
                      go_simp
                      try with_reducible rfl
                    try simp only [Act.put, List.setIfInBounds_toArray, List.set_cons_zero, List.set_cons_succ]
                    refine wpAnyH_done (by kernel_rfl) ?_ _
                    go_wp2_with fail
                    go_meet
                    exact ⟨gz, A7, c7, _, rfl, rfl, ME, RZ.out, OZE.out⟩
            · as_aux_lemma =>
                refine wp_alloc_zero 54 rfl (out0.cells (.slice none 0 0)) zero_out15 ?_
                have hb := (Below.refl V1.heap.size V1).alloc (Nat.le_refl _) (.cells (out0.cells (.slice none 0 0)).toArray 54)
                have RL := Lib.hid (RL.out.below hb RL.out.lt)
                have RZ := Lib.hid (Row.new V1 54 (out0.cells (.slice none 0 0)))
                have GZ := Lib.hid E.out.size
                have E := Lib.hid (E.out.trans (hb.mono E.out.size))
                have S0 := Lib.hid (HUP.out _ E.out).r9
                clear hb
                obtain ⟨gz, hgl⟩ : ∃ g, g = V1.heap.size := ⟨_, rfl⟩
                have GZ : Hid (V0.heap.size ≤ gz) := Lib.hid (by rw [hgl]; exact GZ.out)
                rw [← hgl] at RZ ⊢
                clear hgl
                generalize V1.alloc (.cells (out0.cells (.slice none 0 0)).toArray 54) = V2 at *
                refine hK.out _ _ S0.out ?_
                clear hK K
                try simp only [Act.put, List.setIfInBounds_toArray, List.set_cons_zero, List.set_cons_succ]
                refine readyL (i := 2) rfl (by kernel_rfl) (by kernel_rfl) fun K hK => ?_
                refine wp_appendN (.const (.slice none 0 0)) (.tmp 75) 49 59 _ 34 48 rfl Tryd.underlying49 info_ac15 (by kernel_rfl) (by omega) (.slice none 0 0) 0 [] V0.heap.size B LA ln lc (accsC l) rfl (own_nilN _ _ _ _) (by go_simp) (HUP.out _ E.out).f.ac.sees (accsC_one _) (by have := HLN.out; unfold maxLen; omega) (by have := HLN.out; omega) E.out.size ?_
                intro v1 V3 ho1 hg1
                rw [Nat.zero_add, List.nil_append] at ho1
                obtain ⟨A8, c8, rfl, _, _, _, _⟩ := own_form2 ho1
                have hb : Below V2.heap.size V2 V3 := (Below.refl _ _).grown hg1.grown (Nat.le_refl _) (fun k hk => by cases hk)
                have OO := Lib.hid ho1
                clear ho1 hg1
                have RL := Lib.hid (RL.out.below hb RL.out.lt)
                have RZ := Lib.hid (RZ.out.below hb RZ.out.lt)
                have E := Lib.hid (E.out.trans (hb.mono E.out.size))
                have S0 := Lib.hid (HUP.out _ E.out).r9
                clear hb
                refine hK.out _ _ S0.out ?_
                clear hK K
                try simp only [Act.put, List.setIfInBounds_toArray, List.set_cons_zero, List.set_cons_succ]
                refine readyL (i := 5) rfl (by kernel_rfl) (by kernel_rfl) fun K hK => ?_
                refine wp_appendN (.tmp 76) (.tmp 78) 49 59 _ 34 48 rfl Tryd.underlying49 info_ac15 (by kernel_rfl) (by omega) (.slice A8 ln c8) ln (accsC l) V0.heap.size V3.heap.size (some ⟨gl, 0, none⟩) 1 1 blank13.cells (by go_simp) OO.out (by go_simp) RL.out.sees0 (acc_one _) (by have := HLN.out; unfold maxLen; omega) (by have := HLN.out; omega) E.out.size ?_
                intro v2 V4 ho2 hg2
                rw [← accsC_snoc] at ho2
                obtain ⟨A9, c9, rfl, _, hc1, hc2, _⟩ := own_form2 ho2
                have HC9 := Lib.hid (And.intro hc1 hc2)
                have hb : Below V0.heap.size V3 V4 := hg2.below OO.out E.out.size
                have RZ := Lib.hid (RZ.out.grown hg2.grown (own_row_neN OO.out RZ.out (by decide)))
                have OO := Lib.hid ho2
                clear ho2 hg2 RL hc1 hc2
                have E := Lib.hid (E.out.trans hb)
                have S0 := Lib.hid (HUP.out _ E.out).r9
                clear hb
                refine hK.out _ _ S0.out ?_
                clear hK K
                try simp only [Act.put, List.setIfInBounds_toArray, List.set_cons_zero, List.set_cons_succ]
                refine readyL (i := 6) rfl (by kernel_rfl) (by kernel_rfl) fun K hK => ?_
                have HAC : Hid (AccsIn V4 V4.heap.size A9 (ln + 1) (l ++ [blank13])) := Lib.hid (accs_own (L := l ++ [blank13]) (by rw [List.length_append, HLL.out]; exact OO.out) (fun a ha => by
                  rcases List.mem_append.1 ha with ha | ha
                  · exact (HUP.out _ E.out).f.ac.ok a ha
                  · obtain rfl := List.mem_singleton.1 ha
                    exact blank_ok15) (by rw [List.length_append, HLL.out]; rfl))
                have HRU := Lib.hid (run_more15 (HUP.out _ E.out).f ((RD.out.below E.out).more E.out.size) HAC.out HC9.out (Nat.le_refl _) (by have := HLN.out; omega) HRX2.out HF.out HOK.out HDB.out HT.out)
                rw [← HZE.out, ← HCSE.out] at HRU
                go_simp
                refine HRU.out.mono ?_
                clear HRU HAC
                rintro e V5 ⟨A7, c7, rfl, hoz, hb⟩
                have OZ := Lib.hid hoz
                clear hoz
                have RZ := Lib.hid (RZ.out.below hb RZ.out.lt)
                have E := Lib.hid (E.out.trans (hb.mono E.out.size))
                have S0 := Lib.hid (HUP.out _ E.out).r9
                clear hb OO
                refine hK.out _ _ S0.out ?_
                clear hK K
                try simp only [Act.put, List.setIfInBounds_toArray, List.set_cons_zero, List.set_cons_succ]
                refine takeL (i := 7) (v := ?_) rfl (by kernel_rfl) (by kernel_rfl) (by kernel_rfl) (fun _ _ _ h => h) (Or.inl ⟨by rfl, ?_⟩) S0.out ?_
                rotate_left
                · intro w hw
                  try dsimp only at hw
                  go_simp
                  try with_reducible rfl
                try simp only [Act.put, List.setIfInBounds_toArray, List.set_cons_zero, List.set_cons_succ]
                refine takeL (i := 8) (v := ?_) rfl (by kernel_rfl) (by kernel_rfl) (by kernel_rfl) (fun _ _ _ h => h) (Or.inl ⟨by rfl, ?_⟩) S0.out ?_
                rotate_left
                · intro w hw
                  try dsimp only at hw
                  go_simp
                  try with_reducible rfl
                try simp only [Act.put, List.setIfInBounds_toArray, List.set_cons_zero, List.set_cons_succ]
                refine takeL (i := 9) (v := ?_) rfl (by kernel_rfl) (by kernel_rfl) (by kernel_rfl) (fun _ _ _ h => h) (Or.inl ⟨by rfl, ?_⟩) S0.out ?_
                rotate_left
                · intro w hw
                  try dsimp only at hw
                  go_simp
                  try with_reducible rfl
                try simp only [Act.put, List.setIfInBounds_toArray, List.set_cons_zero, List.set_cons_succ]
                refine readyL (i := 11) rfl (by kernel_rfl) (by kernel_rfl) fun K hK => ?_
                refine wp_store_whole 54 (.tmp 10) (.tmp 81) rfl gz (out0.cells (.slice none 0 0)) (Z.1.cells (.slice A7 Z.1.ch.length Z.1.ch.length)) RZ.out (size_out15 _ _) rfl (out_one15 _ rfl) (by go_simp) (by go_simp) ?_
                intro VE hre hte
                have OZE := Lib.hid (own_turned OZ.out RZ.out (by decide) hte)
                have E := Lib.hid (E.out.trans (hte.below GZ.out))
                have RZ := Lib.hid hre
                have ME := HUP.out _ E.out
                have S0 := Lib.hid ME.r9
                clear hre hte OZ
                refine hK.out _ _ S0.out ?_
                clear hK K
                try simp only [Act.put]
                refine takeL (i := 12) (v := ?_) rfl (by kernel_rfl) (by kernel_rfl) (by kernel_rfl) (fun _ _ _ h => h) (Or.inl ⟨by rfl, ?_⟩) S0.out ?_
                rotate_left
                · intro w hw
                  try dsimp only at hw
                  go_simp
                  try with_reducible rfl
                try simp only [Act.put, List.setIfInBounds_toArray, List.set_cons_zero, List.set_cons_succ]
                refine wpAnyH_done (by kernel_rfl) ?_ _
                go_wp2_with fail
                go_meet
                exact ⟨gz, A7, c7, _, rfl, rfl, ME, RZ.out, OZE.out⟩
        · as_aux_lemma =>
            refine wp_alloc_zero 54 rfl (out0.cells (.slice none 0 0)) zero_out15 ?_
            have hb := (Below.refl V0.heap.size V0).alloc (Nat.le_refl _) (.cells (out0.cells (.slice none 0 0)).toArray 54)
            have RZ := Lib.hid (Row.new V0 54 (out0.cells (.slice none 0 0)))
            have GZ := Lib.hid E.out.size
            have E := Lib.hid (E.out.trans (hb.mono E.out.size))
            have S0 := Lib.hid (HUP.out _ E.out).r9
            clear hb
            obtain ⟨gz, hgl⟩ : ∃ g, g = V0.heap.size := ⟨_, rfl⟩
            have GZ : Hid (V0.heap.size ≤ gz) := Lib.hid (by rw [hgl]; exact GZ.out)
            rw [← hgl] at RZ ⊢
            clear hgl
            generalize V0.alloc (.cells (out0.cells (.slice none 0 0)).toArray 54) = V1 at *
            refine hK.out _ _ S0.out ?_
            clear hK K
            try simp only [Act.put, List.setIfInBounds_toArray, List.set_cons_zero, List.set_cons_succ]
            refine readyL2 (i := 2) (j := 4) rfl rfl (by kernel_rfl) (by kernel_rfl) (by kernel_rfl) (fun K hK => ?_) (fun K hK => ?_)
            · as_aux_lemma =>
                refine wp_appendN (.const (.slice none 0 0)) (.tmp 75) 49 59 _ 34 48 rfl Tryd.underlying49 info_ac15 (by kernel_rfl) (by omega) (.slice none 0 0) 0 [] V0.heap.size B LA ln lc (accsC l) rfl (own_nilN _ _ _ _) (by go_simp) (HUP.out _ E.out).f.ac.sees (accsC_one _) (by have := HLN.out; unfold maxLen; omega) (by have := HLN.out; omega) E.out.size ?_
                intro v1 V2 ho1 hg1
                rw [Nat.zero_add, List.nil_append] at ho1
                obtain ⟨A8, c8, rfl, _, _, _, _⟩ := own_form2 ho1
                have hb : Below V1.heap.size V1 V2 := (Below.refl _ _).grown hg1.grown (Nat.le_refl _) (fun k hk => by cases hk)
                have OO := Lib.hid ho1
                clear ho1 hg1
                have RZ := Lib.hid (RZ.out.below hb RZ.out.lt)
                have E := Lib.hid (E.out.trans (hb.mono E.out.size))
                have S0 := Lib.hid (HUP.out _ E.out).r9
                clear hb
                refine hK.out _ _ S0.out ?_
                clear hK K
                try simp only [Act.put, List.setIfInBounds_toArray, List.set_cons_zero, List.set_cons_succ]
                refine readyL (i := 4) rfl (by kernel_rfl) (by kernel_rfl) fun K hK => ?_
                refine wp_buildOne 49 59 (.tmp 77) rfl blank13.cells _ 34 48 Tryd.underlying49 info_ac15 (by kernel_rfl) (by omega) (by omega) rfl (by go_simp) ?_
                have hb := (Below.refl V2.heap.size V2).alloc (Nat.le_refl _) (.cells blank13.cells.toArray 59)
                have RZ := Lib.hid (RZ.out.below hb RZ.out.lt)
                have RL := Lib.hid (Row.new V2 59 blank13.cells)
                have OO := Lib.hid (own_below OO.out hb)
                have E := Lib.hid (E.out.trans (hb.mono E.out.size))
                have S0 := Lib.hid (HUP.out _ E.out).r9
                clear hb
                obtain ⟨gl, hgl⟩ : ∃ g, g = V2.heap.size := ⟨_, rfl⟩

                rw [← hgl] at RL ⊢
                clear hgl
                generalize V2.alloc (.cells blank13.cells.toArray 59) = V3 at *
                refine hK.out _ _ S0.out ?_
                clear hK K
                try simp only [Act.put, List.setIfInBounds_toArray, List.set_cons_zero, List.set_cons_succ]
                refine readyL (i := 5) rfl (by kernel_rfl) (by kernel_rfl) fun K hK => ?_
                refine wp_appendN (.tmp 76) (.tmp 78) 49 59 _ 34 48 rfl Tryd.underlying49 info_ac15 (by kernel_rfl) (by omega) (.slice A8 ln c8) ln (accsC l) V0.heap.size V3.heap.size (some ⟨gl, 0, none⟩) 1 1 blank13.cells (by go_simp) OO.out (by go_simp) RL.out.sees0 (acc_one _) (by have := HLN.out; unfold maxLen; omega) (by have := HLN.out; omega) E.out.size ?_
                intro v2 V4 ho2 hg2
                rw [← accsC_snoc] at ho2
                obtain ⟨A9, c9, rfl, _, hc1, hc2, _⟩ := own_form2 ho2
                have HC9 := Lib.hid (And.intro hc1 hc2)
                have hb : Below V0.heap.size V3 V4 := hg2.below OO.out E.out.size
                have RZ := Lib.hid (RZ.out.grown hg2.grown (own_row_neN OO.out RZ.out (by decide)))
                have OO := Lib.hid ho2
                clear ho2 hg2 RL hc1 hc2
                have E := Lib.hid (E.out.trans hb)
                have S0 := Lib.hid (HUP.out _ E.out).r9
                clear hb
                refine hK.out _ _ S0.out ?_
                clear hK K
                try simp only [Act.put, List.setIfInBounds_toArray, List.set_cons_zero, List.set_cons_succ]
                refine readyL (i := 6) rfl (by kernel_rfl) (by kernel_rfl) fun K hK => ?_
                have HAC : Hid (AccsIn V4 V4.heap.size A9 (ln + 1) (l ++ [blank13])) := Lib.hid (accs_own (L := l ++ [blank13]) (by rw [List.length_append, HLL.out]; exact OO.out) (fun a ha => by
                  rcases List.mem_append.1 ha with ha | ha
                  · exact (HUP.out _ E.out).f.ac.ok a ha
                  · obtain rfl := List.mem_singleton.1 ha
                    exact blank_ok15) (by rw [List.length_append, HLL.out]; rfl))
                have HRU := Lib.hid (run_more15 (HUP.out _ E.out).f ((RD.out.below E.out).more E.out.size) HAC.out HC9.out (Nat.le_refl _) (by have := HLN.out; omega) HRX2.out HF.out HOK.out HDB.out HT.out)
                rw [← HZE.out, ← HCSE.out] at HRU
                go_simp
                refine HRU.out.mono ?_
                clear HRU HAC
                rintro e V5 ⟨A7, c7, rfl, hoz, hb⟩
                have OZ := Lib.hid hoz
                clear hoz
                have RZ := Lib.hid (RZ.out.below hb RZ.out.lt)
                have E := Lib.hid (E.out.trans (hb.mono E.out.size))
                have S0 := Lib.hid (HUP.out _ E.out).r9
                clear hb OO
                refine hK.out _ _ S0.out ?_
                clear hK K
                try simp only [Act.put, List.setIfInBounds_toArray, List.set_cons_zero, List.set_cons_succ]
                refine takeL (i := 7) (v := ?_) rfl (by kernel_rfl) (by kernel_rfl) (by kernel_rfl) (fun _ _ _ h => h) (Or.inl ⟨by rfl, ?_⟩) S0.out ?_
                rotate_left
                · intro w hw
                  try dsimp only at hw
                  go_simp
                  try with_reducible rfl
                try simp only [Act.put, List.setIfInBounds_toArray, List.set_cons_zero, List.set_cons_succ]
                refine takeL (i := 8) (v := ?_) rfl (by kernel_rfl) (by kernel_rfl) (by kernel_rfl) (fun _ _ _ h => h) (Or.inl ⟨by rfl, ?_⟩) S0.out ?_
                rotate_left
                · intro w hw
                  try dsimp only at hw
                  go_simp
                  try with_reducible rfl
                try simp only [Act.put, List.setIfInBounds_toArray, List.set_cons_zero, List.set_cons_succ]
                refine takeL (i := 9) (v := ?_) rfl (by kernel_rfl) (by kernel_rfl) (by kernel_rfl) (fun _ _ _ h => h) (Or.inl ⟨by rfl, ?_⟩) S0.out ?_
                rotate_left
                · intro w hw
                  try dsimp only at hw
                  go_simp
                  try with_reducible rfl
                try simp only [Act.put, List.setIfInBounds_toArray, List.set_cons_zero, List.set_cons_succ]
                refine readyL (i := 11) rfl (by kernel_rfl) (by kernel_rfl) fun K hK => ?_
                refine wp_store_whole 54 (.tmp 10) (.tmp 81) rfl gz (out0.cells (.slice none 0 0)) (Z.1.cells (.slice A7 Z.1.ch.length Z.1.ch.length)) RZ.out (size_out15 _ _) rfl (out_one15 _ rfl) (by go_simp) (by go_simp) ?_
                intro VE hre hte
                have OZE := Lib.hid (own_turned OZ.out RZ.out (by decide) hte)
                have E := Lib.hid (E.out.trans (hte.below GZ.out))
                have RZ := Lib.hid hre
                have ME := HUP.out _ E.out
                have S0 := Lib.hid ME.r9
                clear hre hte OZ
                refine hK.out _ _ S0.out ?_
                clear hK K
                try simp only [Act.put]
                refine takeL (i := 12) (v := ?_) rfl (by kernel_rfl) (by kernel_rfl) (by kernel_rfl) (fun _ _ _ h => h) (Or.inl ⟨by rfl, ?_⟩) S0.out ?_
                rotate_left
                · intro w hw
                  try dsimp only at hw
                  go_simp
                  try with_reducible rfl
                try simp only [Act.put, List.setIfInBounds_toArray, List.set_cons_zero, List.set_cons_succ]
                refine wpAnyH_done (by kernel_rfl) ?_ _
                go_wp2_with fail
                go_meet
                exact ⟨gz, A7, c7, _, rfl, rfl, ME, RZ.out, OZE.out⟩
            · as_aux_lemma =>
                refine wp_buildOne 49 59 (.tmp 77) rfl blank13.cells _ 34 48 Tryd.underlying49 info_ac15 (by kernel_rfl) (by omega) (by omega) rfl (by go_simp) ?_
                have hb := (Below.refl V1.heap.size V1).alloc (Nat.le_refl _) (.cells blank13.cells.toArray 59)
                have RZ := Lib.hid (RZ.out.below hb RZ.out.lt)
                have RL := Lib.hid (Row.new V1 59 blank13.cells)
                have E := Lib.hid (E.out.trans (hb.mono E.out.size))
                have S0 := Lib.hid (HUP.out _ E.out).r9
                clear hb
                obtain ⟨gl, hgl⟩ : ∃ g, g = V1.heap.size := ⟨_, rfl⟩

                rw [← hgl] at RL ⊢
                clear hgl
                generalize V1.alloc (.cells blank13.cells.toArray 59) = V2 at *
                refine hK.out _ _ S0.out ?_
                clear hK K
                try simp only [Act.put, List.setIfInBounds_toArray, List.set_cons_zero, List.set_cons_succ]
                refine readyL (i := 2) rfl (by kernel_rfl) (by kernel_rfl) fun K hK => ?_
                refine wp_appendN (.const (.slice none 0 0)) (.tmp 75) 49 59 _ 34 48 rfl Tryd.underlying49 info_ac15 (by kernel_rfl) (by omega) (.slice none 0 0) 0 [] V0.heap.size B LA ln lc (accsC l) rfl (own_nilN _ _ _ _) (by go_simp) (HUP.out _ E.out).f.ac.sees (accsC_one _) (by have := HLN.out; unfold maxLen; omega) (by have := HLN.out; omega) E.out.size ?_
                intro v1 V3 ho1 hg1
                rw [Nat.zero_add, List.nil_append] at ho1
                obtain ⟨A8, c8, rfl, _, _, _, _⟩ := own_form2 ho1
                have hb : Below V2.heap.size V2 V3 := (Below.refl _ _).grown hg1.grown (Nat.le_refl _) (fun k hk => by cases hk)
                have OO := Lib.hid ho1
                clear ho1 hg1
                have RL := Lib.hid (RL.out.below hb RL.out.lt)
                have RZ := Lib.hid (RZ.out.below hb RZ.out.lt)
                have E := Lib.hid (E.out.trans (hb.mono E.out.size))
                have S0 := Lib.hid (HUP.out _ E.out).r9
                clear hb
                refine hK.out _ _ S0.out ?_
                clear hK K
                try simp only [Act.put, List.setIfInBounds_toArray, List.set_cons_zero, List.set_cons_succ]
                refine readyL (i := 5) rfl (by kernel_rfl) (by kernel_rfl) fun K hK => ?_
                refine wp_appendN (.tmp 76) (.tmp 78) 49 59 _ 34 48 rfl Tryd.underlying49 info_ac15 (by kernel_rfl) (by omega) (.slice A8 ln c8) ln (accsC l) V0.heap.size V3.heap.size (some ⟨gl, 0, none⟩) 1 1 blank13.cells (by go_simp) OO.out (by go_simp) RL.out.sees0 (acc_one _) (by have := HLN.out; unfold maxLen; omega) (by have := HLN.out; omega) E.out.size ?_
                intro v2 V4 ho2 hg2
                rw [← accsC_snoc] at ho2
                obtain ⟨A9, c9, rfl, _, hc1, hc2, _⟩ := own_form2 ho2
                have HC9 := Lib.hid (And.intro hc1 hc2)
                have hb : Below V0.heap.size V3 V4 := hg2.below OO.out E.out.size
                have RZ := Lib.hid (RZ.out.grown hg2.grown (own_row_neN OO.out RZ.out (by decide)))
                have OO := Lib.hid ho2
                clear ho2 hg2 RL hc1 hc2
                have E := Lib.hid (E.out.trans hb)
                have S0 := Lib.hid (HUP.out _ E.out).r9
                clear hb
                refine hK.out _ _ S0.out ?_
                clear hK K
                try simp only [Act.put, List.setIfInBounds_toArray, List.set_cons_zero, List.set_cons_succ]
                refine readyL (i := 6) rfl (by kernel_rfl) (by kernel_rfl) fun K hK => ?_
                have HAC : Hid (AccsIn V4 V4.heap.size A9 (ln + 1) (l ++ [blank13])) := Lib.hid (accs_own (L := l ++ [blank13]) (by rw [List.length_append, HLL.out]; exact OO.out) (fun a ha => by
                  rcases List.mem_append.1 ha with ha | ha
                  · exact (HUP.out _ E.out).f.ac.ok a ha
                  · obtain rfl := List.mem_singleton.1 ha
                    exact blank_ok15) (by rw [List.length_append, HLL.out]; rfl))
                have HRU := Lib.hid (run_more15 (HUP.out _ E.out).f ((RD.out.below E.out).more E.out.size) HAC.out HC9.out (Nat.le_refl _) (by have := HLN.out; omega) HRX2.out HF.out HOK.out HDB.out HT.out)
                rw [← HZE.out, ← HCSE.out] at HRU
                go_simp
                refine HRU.out.mono ?_
                clear HRU HAC
                rintro e V5 ⟨A7, c7, rfl, hoz, hb⟩
                have OZ := Lib.hid hoz
                clear hoz
                have RZ := Lib.hid (RZ.out.below hb RZ.out.lt)
                have E := Lib.hid (E.out.trans (hb.mono E.out.size))
                have S0 := Lib.hid (HUP.out _ E.out).r9
                clear hb OO
                refine hK.out _ _ S0.out ?_
                clear hK K
                try simp only [Act.put, List.setIfInBounds_toArray, List.set_cons_zero, List.set_cons_succ]
                refine takeL (i := 7) (v := ?_) rfl (by kernel_rfl) (by kernel_rfl) (by kernel_rfl) (fun _ _ _ h => h) (Or.inl ⟨by rfl, ?_⟩) S0.out ?_
                rotate_left
                · intro w hw
                  try dsimp only at hw
                  go_simp
                  try with_reducible rfl
                try simp only [Act.put, List.setIfInBounds_toArray, List.set_cons_zero, List.set_cons_succ]
                refine takeL (i := 8) (v := ?_) rfl (by kernel_rfl) (by kernel_rfl) (by kernel_rfl) (fun _ _ _ h => h) (Or.inl ⟨by rfl, ?_⟩) S0.out ?_
                rotate_left
                · intro w hw
                  try dsimp only at hw
                  go_simp
                  try with_reducible rfl
                try simp only [Act.put, List.setIfInBounds_toArray, List.set_cons_zero, List.set_cons_succ]
                refine takeL (i := 9) (v := ?_) rfl (by kernel_rfl) (by kernel_rfl) (by kernel_rfl) (fun _ _ _ h => h) (Or.inl ⟨by rfl, ?_⟩) S0.out ?_
                rotate_left
                · intro w hw
                  try dsimp only at hw
                  go_simp
                  try with_reducible rfl
                try simp only [Act.put, List.setIfInBounds_toArray, List.set_cons_zero, List.set_cons_succ]
                refine readyL (i := 11) rfl (by kernel_rfl) (by kernel_rfl) fun K hK => ?_
                refine wp_store_whole 54 (.tmp 10) (.tmp 81) rfl gz (out0.cells (.slice none 0 0)) (Z.1.cells (.slice A7 Z.1.ch.length Z.1.ch.length)) RZ.out (size_out15 _ _) rfl (out_one15 _ rfl) (by go_simp) (by go_simp) ?_
                intro VE hre hte
                have OZE := Lib.hid (own_turned OZ.out RZ.out (by decide) hte)
                have E := Lib.hid (E.out.trans (hte.below GZ.out))
                have RZ := Lib.hid hre
                have ME := HUP.out _ E.out
                have S0 := Lib.hid ME.r9
                clear hre hte OZ
                refine hK.out _ _ S0.out ?_
                clear hK K
                try simp only [Act.put]
                refine takeL (i := 12) (v := ?_) rfl (by kernel_rfl) (by kernel_rfl) (by kernel_rfl) (fun _ _ _ h => h) (Or.inl ⟨by rfl, ?_⟩) S0.out ?_
                rotate_left
                · intro w hw
                  try dsimp only at hw
                  go_simp
                  try with_reducible rfl
                try simp only [Act.put, List.setIfInBounds_toArray, List.set_cons_zero, List.set_cons_succ]
                refine wpAnyH_done (by kernel_rfl) ?_ _
                go_wp2_with fail
                go_meet
                exact ⟨gz, A7, c7, _, rfl, rfl, ME, RZ.out, OZE.out⟩
      case rest =>
        obtain ⟨gz, A7, c7, b9, rfl, rfl, hm, hrz, hoz⟩ := hcut
        have M12 := Lib.hid hm
        have RZ := Lib.hid hrz
        have OZ := Lib.hid hoz
        clear hm hrz hoz M11 RD
        rename World => w12
        have HZ0 := Lib.hid H15.out.1
        have HAH := Lib.hid H15.out.2
        rw [← HZE.out] at HZ0 HAH
        have HCO := Lib.hid (run_chg15 (x := x) (l := l) (fun r hr => (M12.out.f.rd.rs.ok r hr).1) M12.out.f.ac.ok HOK.out.ab)
        rw [← HR.out] at HCO
        have HCZ : Hid ((∀ y ∈ Z.1.ch, y.k.length = 32 ∧ y.a.o.length = 32) ∧ Z.1.ch.length ≤ ln + 1) := Lib.hid (by
          have h := run_chg15 (x := more15 x dat) (l := l ++ [blank13]) (fun r hr => by
            rcases List.mem_append.1 (show r ∈ x.roles ++ [_] from hr) with hr | hr
            · exact (M12.out.f.rd.rs.ok r hr).1
            · obtain rfl := List.mem_singleton.1 hr
              rfl) (fun a ha => by
            rcases List.mem_append.1 ha with ha | ha
            · exact M12.out.f.ac.ok a ha
            · obtain rfl := List.mem_singleton.1 ha
              exact blank_ok15) (fun a ha => by
            rcases List.mem_append.1 (show a ∈ x.tx.m.ins ++ [_] from ha) with ha | ha
            · exact HOK.out.ab a ha
            · obtain rfl := List.mem_singleton.1 ha
              exact ⟨fun z hz => (by cases hz), HDB.out⟩)
          rw [← HZE.out, List.length_append, HLL.out] at h
          exact h)
        clear H15 HR HZE HCSE HSZ
        obtain ⟨Z, ze⟩ := Z
        have hze : ze = 0 := HZ0.out
        subst hze
        clear HZ0
        dsimp only at HAH HCZ RZ OZ HCO ⊢
        have c39 : w12.cell? ⟨g2, 39, none⟩ = some (.slice q.t.q.IA n q.t.q.ic) := by rw [HN.out]; exact (M12.out.f.r2.cell 39).trans (ycells_39 H32.out)
        have c44 : w12.cell? ⟨g2, 44, none⟩ = some (.int .i64 x.bad) := (M12.out.f.r2.cell 44).trans (ycells_41 H32.out 3)
        by_cases hbad : (n : Int) ≤ x.bad
        · have hb1 : decide ((n : Int) ≤ x.bad) = true := decide_eq_true hbad
          go_wp2_with fail
          refine (lives15 _ (HT.out.below M12.out.f.b HT.out.pos)).mono ?_
          rintro e wl ⟨rfl, hbl⟩
          have BL := Lib.hid (M12.out.f.b.trans (hbl.mono M12.out.f.b.size))
          clear hbl
          go_wp2_with fail
          go_ret
          exact ⟨rfl, BL.out⟩
        have hb1 : decide ((n : Int) ≤ x.bad) = false := decide_eq_false hbad
        have HBL : Hid ¬ ((x.tx.m.ins.length : Int) ≤ x.bad) := Lib.hid (by have h1 := HNI.out; have h2 := HN.out; omega)
        obtain ⟨cn, hcn⟩ : ∃ k, k = o.ch.length := ⟨_, rfl⟩
        obtain ⟨zn, hzn⟩ : ∃ k, k = Z.ch.length := ⟨_, rfl⟩
        have o5 : w12.cell? ⟨g7, 5, none⟩ = some (.slice A2 cn cn) := by rw [hcn]; exact M12.out.r7.cell 5
        have z5 : w12.cell? ⟨gz, 5, none⟩ = some (.slice A7 zn zn) := by rw [hzn]; exact RZ.out.cell 5
        have HCN := Lib.hid hcn
        have HZN := Lib.hid hzn
        have HCL : Hid (cn ≤ 300 ∧ zn ≤ 301) := Lib.hid (by have h1 := HCO.out.2; have h2 := HCZ.out.2; have h3 := HLL.out; have h4 := HLN.out; omega)
        clear hcn hzn
        go_upto_region 14 with fail
        clear c39 c44 hbad hb1
        go_loopw [12, 13] (fun same i wr => ∃ (k : Nat) (s : Bool), k ≤ cn ∧ i = .int .i64 k ∧ same = .bool s ∧ (s = true → zn = cn ∧ o.ch.take k = Z.ch.take k) ∧ (s = false → o.ch ≠ Z.ch) ∧ Below w12.heap.size w12 wr) (fun _ i _ => cn - (intOf i).toNat)
        case atStart =>
          refine ⟨0, ((zn : Int) == (cn : Int)), Nat.zero_le _, rfl, rfl, fun h => ⟨(by have h2 : (zn : Int) = (cn : Int) := beq_iff_eq.1 h; omega), by rw [List.take_zero, List.take_zero]⟩, fun h e => ?_, Below.refl _ _⟩
          have h1 : ¬ (zn : Int) = (cn : Int) := fun e2 => by rw [e2, beq_self_eq_true] at h; cases h
          exact h1 (by rw [HCN.out, HZN.out, e])
        case round =>
          obtain ⟨k, s, hk, rfl, rfl, hst, hsf, hbw⟩ := hrel
          have BW := Lib.hid hbw
          have HST := Lib.hid hst
          have HSF := Lib.hid hsf
          clear hbw hst hsf
          rename World => wr
          have c42' : wr.cell? ⟨g2, 42, none⟩ = some (.int .u64 x.u) := (BW.out.cell (p := ⟨g2, 42, none⟩) M12.out.f.r2.lt).trans ((M12.out.f.r2.cell 42).trans (ycells_41 H32.out 1))
          have o5' : wr.cell? ⟨g7, 5, none⟩ = some (.slice A2 cn cn) := (BW.out.cell (p := ⟨g7, 5, none⟩) M12.out.r7.lt).trans o5
          have z5' : wr.cell? ⟨gz, 5, none⟩ = some (.slice A7 zn zn) := (BW.out.cell (p := ⟨gz, 5, none⟩) RZ.out.lt).trans z5
          have HXW := Lib.hid (M12.out.f.b.trans (BW.out.mono M12.out.f.b.size))
          have hcn2 : cn ≤ 300 := HCL.out.1
          cases s with
          | false =>
            have HNE := Lib.hid (HSF.out rfl)
            clear HST HSF
            by_cases hlt : (k : Int) < cn
            · have hd : decide ((k : Int) < cn) = true := decide_eq_true hlt
              cases HAH.out with
              | late h => have h9 := HBL.out; omega
              | index h ho =>
                as_aux_lemma =>
                  have hf8 : o.fail = 8 := ho
                  have p0 : wr.cell? ⟨g7, 0, none⟩ = some (.int .i64 8) := (BW.out.cell (p := ⟨g7, 0, none⟩) M12.out.r7.lt).trans (by rw [← hf8]; exact M12.out.r7.cell 0)
                  have p1 : wr.cell? ⟨g7, 1, none⟩ = some (.int .i64 o.at_) := (BW.out.cell (p := ⟨g7, 1, none⟩) M12.out.r7.lt).trans (M12.out.r7.cell 1)
                  have p2 : wr.cell? ⟨g7, 2, none⟩ = some (.int .u64 o.units) := (BW.out.cell (p := ⟨g7, 2, none⟩) M12.out.r7.lt).trans (M12.out.r7.cell 2)
                  have z0 : wr.cell? ⟨gz, 0, none⟩ = some (.int .i64 Z.fail) := (BW.out.cell (p := ⟨gz, 0, none⟩) RZ.out.lt).trans (RZ.out.cell 0)
                  have z1 : wr.cell? ⟨gz, 1, none⟩ = some (.int .i64 Z.at_) := (BW.out.cell (p := ⟨gz, 1, none⟩) RZ.out.lt).trans (RZ.out.cell 1)
                  have z2 : wr.cell? ⟨gz, 2, none⟩ = some (.int .u64 Z.units) := (BW.out.cell (p := ⟨gz, 2, none⟩) RZ.out.lt).trans (RZ.out.cell 2)
                  clear h ho hf8
                  by_cases h1 : Z.fail = (8 : Int)
                  rotate_left
                  · have h1b : (Z.fail == (8 : Int)) = false := by simpa using h1
                    go_wp2_with fail
                    refine (lives15 _ (HT.out.below HXW.out HT.out.pos)).mono ?_
                    rintro e wl ⟨rfl, hbl⟩
                    have BL := Lib.hid (HXW.out.trans (hbl.mono HXW.out.size))
                    clear hbl
                    go_wp2_with fail
                    go_ret
                    exact ⟨rfl, BL.out⟩
                  have h1b : (Z.fail == (8 : Int)) = true := by simpa using h1
                  by_cases h2 : Z.at_ = o.at_
                  rotate_left
                  · have h2b : (Z.at_ == o.at_) = false := by simpa using h2
                    go_wp2_with fail
                    refine (lives15 _ (HT.out.below HXW.out HT.out.pos)).mono ?_
                    rintro e wl ⟨rfl, hbl⟩
                    have BL := Lib.hid (HXW.out.trans (hbl.mono HXW.out.size))
                    clear hbl
                    go_wp2_with fail
                    go_ret
                    exact ⟨rfl, BL.out⟩
                  have h2b : (Z.at_ == o.at_) = true := by simpa using h2
                  by_cases h3 : Z.units = o.units
                  rotate_left
                  · have h3b : (Z.units == o.units) = false := by simpa using h3
                    go_wp2_with fail
                    refine (lives15 _ (HT.out.below HXW.out HT.out.pos)).mono ?_
                    rintro e wl ⟨rfl, hbl⟩
                    have BL := Lib.hid (HXW.out.trans (hbl.mono HXW.out.size))
                    clear hbl
                    go_wp2_with fail
                    go_ret
                    exact ⟨rfl, BL.out⟩
                  have h3b : (Z.units == o.units) = true := by simpa using h3
                  go_wp2_with fail
                  refine (lives15 _ (HT.out.below HXW.out HT.out.pos)).mono ?_
                  rintro e wl ⟨rfl, hbl⟩
                  have BL := Lib.hid (HXW.out.trans (hbl.mono HXW.out.size))
                  clear hbl
                  go_wp2_with fail
                  go_ret
                  exact ⟨rfl, BL.out⟩
              | ill h ho h8 hf ha hu hc =>
                as_aux_lemma =>
                  exact absurd hc.symm HNE.out
              | units h ho hx hf hu =>
                as_aux_lemma =>
                  have hf0 : o.fail = 0 := ho
                  have p0 : wr.cell? ⟨g7, 0, none⟩ = some (.int .i64 0) := (BW.out.cell (p := ⟨g7, 0, none⟩) M12.out.r7.lt).trans (by rw [← hf0]; exact M12.out.r7.cell 0)
                  have p2 : wr.cell? ⟨g7, 2, none⟩ = some (.int .u64 o.units) := (BW.out.cell (p := ⟨g7, 2, none⟩) M12.out.r7.lt).trans (M12.out.r7.cell 2)
                  have z0 : wr.cell? ⟨gz, 0, none⟩ = some (.int .i64 20) := (BW.out.cell (p := ⟨gz, 0, none⟩) RZ.out.lt).trans (by rw [← hf]; exact RZ.out.cell 0)
                  have z2 : wr.cell? ⟨gz, 2, none⟩ = some (.int .u64 x.u) := (BW.out.cell (p := ⟨gz, 2, none⟩) RZ.out.lt).trans (by rw [← hu]; exact RZ.out.cell 2)
                  clear h ho hf hu hf0
                  by_cases hu1 : x.u < 150
                  · have hu2 : decide (x.u < 150) = true := decide_eq_true hu1
                    go_wp2_with fail
                    refine (lives15 _ (HT.out.below HXW.out HT.out.pos)).mono ?_
                    rintro e wl ⟨rfl, hbl⟩
                    have BL := Lib.hid (HXW.out.trans (hbl.mono HXW.out.size))
                    clear hbl
                    go_wp2_with fail
                    go_ret
                    exact ⟨rfl, BL.out⟩
                  have hu2 : decide (x.u < 150) = false := decide_eq_false hu1
                  have hu3 : x.u - 150 < o.units := by omega
                  have hu4 : decide (x.u - 150 < o.units) = true := decide_eq_true hu3
                  have hw1 : IntKind.u64.wrap (x.u - 150) = x.u - 150 := IntWalk.u64_in _ (by have := HOK.out.u; omega)
                  go_wp2_with fail
                  refine (lives15 _ (HT.out.below HXW.out HT.out.pos)).mono ?_
                  rintro e wl ⟨rfl, hbl⟩
                  have BL := Lib.hid (HXW.out.trans (hbl.mono HXW.out.size))
                  clear hbl
                  go_wp2_with fail
                  go_ret
                  exact ⟨rfl, BL.out⟩
              | fine h ho hx hf hu hs hc =>
                as_aux_lemma =>
                  exact absurd hc.symm HNE.out
            have hd : decide ((k : Int) < cn) = false := decide_eq_false hlt
            cases HAH.out with
            | late h => have h9 := HBL.out; omega
            | index h ho =>
              as_aux_lemma =>
                have hf8 : o.fail = 8 := ho
                have p0 : wr.cell? ⟨g7, 0, none⟩ = some (.int .i64 8) := (BW.out.cell (p := ⟨g7, 0, none⟩) M12.out.r7.lt).trans (by rw [← hf8]; exact M12.out.r7.cell 0)
                have p1 : wr.cell? ⟨g7, 1, none⟩ = some (.int .i64 o.at_) := (BW.out.cell (p := ⟨g7, 1, none⟩) M12.out.r7.lt).trans (M12.out.r7.cell 1)
                have p2 : wr.cell? ⟨g7, 2, none⟩ = some (.int .u64 o.units) := (BW.out.cell (p := ⟨g7, 2, none⟩) M12.out.r7.lt).trans (M12.out.r7.cell 2)
                have z0 : wr.cell? ⟨gz, 0, none⟩ = some (.int .i64 Z.fail) := (BW.out.cell (p := ⟨gz, 0, none⟩) RZ.out.lt).trans (RZ.out.cell 0)
                have z1 : wr.cell? ⟨gz, 1, none⟩ = some (.int .i64 Z.at_) := (BW.out.cell (p := ⟨gz, 1, none⟩) RZ.out.lt).trans (RZ.out.cell 1)
                have z2 : wr.cell? ⟨gz, 2, none⟩ = some (.int .u64 Z.units) := (BW.out.cell (p := ⟨gz, 2, none⟩) RZ.out.lt).trans (RZ.out.cell 2)
                clear h ho hf8
                by_cases h1 : Z.fail = (8 : Int)
                rotate_left
                · have h1b : (Z.fail == (8 : Int)) = false := by simpa using h1
                  go_wp2_with fail
                  refine (lives15 _ (HT.out.below HXW.out HT.out.pos)).mono ?_
                  rintro e wl ⟨rfl, hbl⟩
                  have BL := Lib.hid (HXW.out.trans (hbl.mono HXW.out.size))
                  clear hbl
                  go_wp2_with fail
                  go_ret
                  exact ⟨rfl, BL.out⟩
                have h1b : (Z.fail == (8 : Int)) = true := by simpa using h1
                by_cases h2 : Z.at_ = o.at_
                rotate_left
                · have h2b : (Z.at_ == o.at_) = false := by simpa using h2
                  go_wp2_with fail
                  refine (lives15 _ (HT.out.below HXW.out HT.out.pos)).mono ?_
                  rintro e wl ⟨rfl, hbl⟩
                  have BL := Lib.hid (HXW.out.trans (hbl.mono HXW.out.size))
                  clear hbl
                  go_wp2_with fail
                  go_ret
                  exact ⟨rfl, BL.out⟩
                have h2b : (Z.at_ == o.at_) = true := by simpa using h2
                by_cases h3 : Z.units = o.units
                rotate_left
                · have h3b : (Z.units == o.units) = false := by simpa using h3
                  go_wp2_with fail
                  refine (lives15 _ (HT.out.below HXW.out HT.out.pos)).mono ?_
                  rintro e wl ⟨rfl, hbl⟩
                  have BL := Lib.hid (HXW.out.trans (hbl.mono HXW.out.size))
                  clear hbl
                  go_wp2_with fail
                  go_ret
                  exact ⟨rfl, BL.out⟩
                have h3b : (Z.units == o.units) = true := by simpa using h3
                go_wp2_with fail
                refine (lives15 _ (HT.out.below HXW.out HT.out.pos)).mono ?_
                rintro e wl ⟨rfl, hbl⟩
                have BL := Lib.hid (HXW.out.trans (hbl.mono HXW.out.size))
                clear hbl
                go_wp2_with fail
                go_ret
                exact ⟨rfl, BL.out⟩
            | ill h ho h8 hf ha hu hc =>
              as_aux_lemma =>
                exact absurd hc.symm HNE.out
            | units h ho hx hf hu =>
              as_aux_lemma =>
                have hf0 : o.fail = 0 := ho
                have p0 : wr.cell? ⟨g7, 0, none⟩ = some (.int .i64 0) := (BW.out.cell (p := ⟨g7, 0, none⟩) M12.out.r7.lt).trans (by rw [← hf0]; exact M12.out.r7.cell 0)
                have p2 : wr.cell? ⟨g7, 2, none⟩ = some (.int .u64 o.units) := (BW.out.cell (p := ⟨g7, 2, none⟩) M12.out.r7.lt).trans (M12.out.r7.cell 2)
                have z0 : wr.cell? ⟨gz, 0, none⟩ = some (.int .i64 20) := (BW.out.cell (p := ⟨gz, 0, none⟩) RZ.out.lt).trans (by rw [← hf]; exact RZ.out.cell 0)
                have z2 : wr.cell? ⟨gz, 2, none⟩ = some (.int .u64 x.u) := (BW.out.cell (p := ⟨gz, 2, none⟩) RZ.out.lt).trans (by rw [← hu]; exact RZ.out.cell 2)
                clear h ho hf hu hf0
                by_cases hu1 : x.u < 150
                · have hu2 : decide (x.u < 150) = true := decide_eq_true hu1
                  go_wp2_with fail
                  refine (lives15 _ (HT.out.below HXW.out HT.out.pos)).mono ?_
                  rintro e wl ⟨rfl, hbl⟩
                  have BL := Lib.hid (HXW.out.trans (hbl.mono HXW.out.size))
                  clear hbl
                  go_wp2_with fail
                  go_ret
                  exact ⟨rfl, BL.out⟩
                have hu2 : decide (x.u < 150) = false := decide_eq_false hu1
                have hu3 : x.u - 150 < o.units := by omega
                have hu4 : decide (x.u - 150 < o.units) = true := decide_eq_true hu3
                have hw1 : IntKind.u64.wrap (x.u - 150) = x.u - 150 := IntWalk.u64_in _ (by have := HOK.out.u; omega)
                go_wp2_with fail
                refine (lives15 _ (HT.out.below HXW.out HT.out.pos)).mono ?_
                rintro e wl ⟨rfl, hbl⟩
                have BL := Lib.hid (HXW.out.trans (hbl.mono HXW.out.size))
                clear hbl
                go_wp2_with fail
                go_ret
                exact ⟨rfl, BL.out⟩
            | fine h ho hx hf hu hs hc =>
              as_aux_lemma =>
                exact absurd hc.symm HNE.out
          | true =>
            obtain ⟨hzc, htk⟩ := HST.out rfl
            subst hzc
            have HTK := Lib.hid htk
            clear HST HSF htk
            by_cases hlt : (k : Int) < zn
            rotate_left
            · have hd : decide ((k : Int) < zn) = false := decide_eq_false hlt
              have HCE : Hid (o.ch = Z.ch) := Lib.hid (by
                have h1 := HTK.out
                rw [List.take_of_length_le (by rw [← HCN.out]; omega), List.take_of_length_le (by rw [← HZN.out]; omega)] at h1
                exact h1)
              cases HAH.out with
              | late h => have h9 := HBL.out; omega
              | index h ho =>
                as_aux_lemma =>
                  have hf8 : o.fail = 8 := ho
                  have p0 : wr.cell? ⟨g7, 0, none⟩ = some (.int .i64 8) := (BW.out.cell (p := ⟨g7, 0, none⟩) M12.out.r7.lt).trans (by rw [← hf8]; exact M12.out.r7.cell 0)
                  have p1 : wr.cell? ⟨g7, 1, none⟩ = some (.int .i64 o.at_) := (BW.out.cell (p := ⟨g7, 1, none⟩) M12.out.r7.lt).trans (M12.out.r7.cell 1)
                  have p2 : wr.cell? ⟨g7, 2, none⟩ = some (.int .u64 o.units) := (BW.out.cell (p := ⟨g7, 2, none⟩) M12.out.r7.lt).trans (M12.out.r7.cell 2)
                  have z0 : wr.cell? ⟨gz, 0, none⟩ = some (.int .i64 Z.fail) := (BW.out.cell (p := ⟨gz, 0, none⟩) RZ.out.lt).trans (RZ.out.cell 0)
                  have z1 : wr.cell? ⟨gz, 1, none⟩ = some (.int .i64 Z.at_) := (BW.out.cell (p := ⟨gz, 1, none⟩) RZ.out.lt).trans (RZ.out.cell 1)
                  have z2 : wr.cell? ⟨gz, 2, none⟩ = some (.int .u64 Z.units) := (BW.out.cell (p := ⟨gz, 2, none⟩) RZ.out.lt).trans (RZ.out.cell 2)
                  clear h ho hf8
                  by_cases h1 : Z.fail = (8 : Int)
                  rotate_left
                  · have h1b : (Z.fail == (8 : Int)) = false := by simpa using h1
                    go_wp2_with fail
                    refine (lives15 _ (HT.out.below HXW.out HT.out.pos)).mono ?_
                    rintro e wl ⟨rfl, hbl⟩
                    have BL := Lib.hid (HXW.out.trans (hbl.mono HXW.out.size))
                    clear hbl
                    go_wp2_with fail
                    go_ret
                    exact ⟨rfl, BL.out⟩
                  have h1b : (Z.fail == (8 : Int)) = true := by simpa using h1
                  by_cases h2 : Z.at_ = o.at_
                  rotate_left
                  · have h2b : (Z.at_ == o.at_) = false := by simpa using h2
                    go_wp2_with fail
                    refine (lives15 _ (HT.out.below HXW.out HT.out.pos)).mono ?_
                    rintro e wl ⟨rfl, hbl⟩
                    have BL := Lib.hid (HXW.out.trans (hbl.mono HXW.out.size))
                    clear hbl
                    go_wp2_with fail
                    go_ret
                    exact ⟨rfl, BL.out⟩
                  have h2b : (Z.at_ == o.at_) = true := by simpa using h2
                  by_cases h3 : Z.units = o.units
                  rotate_left
                  · have h3b : (Z.units == o.units) = false := by simpa using h3
                    go_wp2_with fail
                    refine (lives15 _ (HT.out.below HXW.out HT.out.pos)).mono ?_
                    rintro e wl ⟨rfl, hbl⟩
                    have BL := Lib.hid (HXW.out.trans (hbl.mono HXW.out.size))
                    clear hbl
                    go_wp2_with fail
                    go_ret
                    exact ⟨rfl, BL.out⟩
                  have h3b : (Z.units == o.units) = true := by simpa using h3
                  go_wp2_with fail
                  refine (lives15 _ (HT.out.below HXW.out HT.out.pos)).mono ?_
                  rintro e wl ⟨rfl, hbl⟩
                  have BL := Lib.hid (HXW.out.trans (hbl.mono HXW.out.size))
                  clear hbl
                  go_wp2_with fail
                  go_ret
                  exact ⟨rfl, BL.out⟩
              | ill h ho h8 hf ha hu hc =>
                as_aux_lemma =>
                  have hf1 : ¬ o.fail = 0 := ho
                  have hf2 : ¬ o.fail = 8 := h8
                  have p0 : wr.cell? ⟨g7, 0, none⟩ = some (.int .i64 o.fail) := (BW.out.cell (p := ⟨g7, 0, none⟩) M12.out.r7.lt).trans (M12.out.r7.cell 0)
                  have p1 : wr.cell? ⟨g7, 1, none⟩ = some (.int .i64 o.at_) := (BW.out.cell (p := ⟨g7, 1, none⟩) M12.out.r7.lt).trans (M12.out.r7.cell 1)
                  have p2 : wr.cell? ⟨g7, 2, none⟩ = some (.int .u64 o.units) := (BW.out.cell (p := ⟨g7, 2, none⟩) M12.out.r7.lt).trans (M12.out.r7.cell 2)
                  have z0 : wr.cell? ⟨gz, 0, none⟩ = some (.int .i64 o.fail) := (BW.out.cell (p := ⟨gz, 0, none⟩) RZ.out.lt).trans (by rw [← hf]; exact RZ.out.cell 0)
                  have z1 : wr.cell? ⟨gz, 1, none⟩ = some (.int .i64 o.at_) := (BW.out.cell (p := ⟨gz, 1, none⟩) RZ.out.lt).trans (by rw [← ha]; exact RZ.out.cell 1)
                  have z2 : wr.cell? ⟨gz, 2, none⟩ = some (.int .u64 o.units) := (BW.out.cell (p := ⟨gz, 2, none⟩) RZ.out.lt).trans (by rw [← hu]; exact RZ.out.cell 2)
                  clear h ho h8 hf ha hu hc
                  go_wp2_with fail
                  refine (lives15 _ (HT.out.below HXW.out HT.out.pos)).mono ?_
                  rintro e wl ⟨rfl, hbl⟩
                  have BL := Lib.hid (HXW.out.trans (hbl.mono HXW.out.size))
                  clear hbl
                  go_wp2_with fail
                  go_ret
                  exact ⟨rfl, BL.out⟩
              | units h ho hx hf hu =>
                as_aux_lemma =>
                  have hf0 : o.fail = 0 := ho
                  have p0 : wr.cell? ⟨g7, 0, none⟩ = some (.int .i64 0) := (BW.out.cell (p := ⟨g7, 0, none⟩) M12.out.r7.lt).trans (by rw [← hf0]; exact M12.out.r7.cell 0)
                  have p2 : wr.cell? ⟨g7, 2, none⟩ = some (.int .u64 o.units) := (BW.out.cell (p := ⟨g7, 2, none⟩) M12.out.r7.lt).trans (M12.out.r7.cell 2)
                  have z0 : wr.cell? ⟨gz, 0, none⟩ = some (.int .i64 20) := (BW.out.cell (p := ⟨gz, 0, none⟩) RZ.out.lt).trans (by rw [← hf]; exact RZ.out.cell 0)
                  have z2 : wr.cell? ⟨gz, 2, none⟩ = some (.int .u64 x.u) := (BW.out.cell (p := ⟨gz, 2, none⟩) RZ.out.lt).trans (by rw [← hu]; exact RZ.out.cell 2)
                  clear h ho hf hu hf0
                  by_cases hu1 : x.u < 150
                  · have hu2 : decide (x.u < 150) = true := decide_eq_true hu1
                    go_wp2_with fail
                    refine (lives15 _ (HT.out.below HXW.out HT.out.pos)).mono ?_
                    rintro e wl ⟨rfl, hbl⟩
                    have BL := Lib.hid (HXW.out.trans (hbl.mono HXW.out.size))
                    clear hbl
                    go_wp2_with fail
                    go_ret
                    exact ⟨rfl, BL.out⟩
                  have hu2 : decide (x.u < 150) = false := decide_eq_false hu1
                  have hu3 : x.u - 150 < o.units := by omega
                  have hu4 : decide (x.u - 150 < o.units) = true := decide_eq_true hu3
                  have hw1 : IntKind.u64.wrap (x.u - 150) = x.u - 150 := IntWalk.u64_in _ (by have := HOK.out.u; omega)
                  go_wp2_with fail
                  refine (lives15 _ (HT.out.below HXW.out HT.out.pos)).mono ?_
                  rintro e wl ⟨rfl, hbl⟩
                  have BL := Lib.hid (HXW.out.trans (hbl.mono HXW.out.size))
                  clear hbl
                  go_wp2_with fail
                  go_ret
                  exact ⟨rfl, BL.out⟩
              | fine h ho hx hf hu hs hc =>
                as_aux_lemma =>
                  have hf0 : o.fail = 0 := ho
                  have p0 : wr.cell? ⟨g7, 0, none⟩ = some (.int .i64 0) := (BW.out.cell (p := ⟨g7, 0, none⟩) M12.out.r7.lt).trans (by rw [← hf0]; exact M12.out.r7.cell 0)
                  have p2 : wr.cell? ⟨g7, 2, none⟩ = some (.int .u64 o.units) := (BW.out.cell (p := ⟨g7, 2, none⟩) M12.out.r7.lt).trans (M12.out.r7.cell 2)
                  have p4 : wr.cell? ⟨g7, 4, none⟩ = some (.int .u64 o.space) := (BW.out.cell (p := ⟨g7, 4, none⟩) M12.out.r7.lt).trans (M12.out.r7.cell 4)
                  have z0 : wr.cell? ⟨gz, 0, none⟩ = some (.int .i64 0) := (BW.out.cell (p := ⟨gz, 0, none⟩) RZ.out.lt).trans (by rw [← hf]; exact RZ.out.cell 0)
                  have z2 : wr.cell? ⟨gz, 2, none⟩ = some (.int .u64 (o.units + 150)) := (BW.out.cell (p := ⟨gz, 2, none⟩) RZ.out.lt).trans (by rw [← hu]; exact RZ.out.cell 2)
                  have z4 : wr.cell? ⟨gz, 4, none⟩ = some (.int .u64 o.space) := (BW.out.cell (p := ⟨gz, 4, none⟩) RZ.out.lt).trans (by rw [← hs]; exact RZ.out.cell 4)
                  have hu1 : ¬ x.u < 150 := by omega
                  have hu2 : decide (x.u < 150) = false := decide_eq_false hu1
                  have hu3 : ¬ x.u - 150 < o.units := by omega
                  have hu4 : decide (x.u - 150 < o.units) = false := decide_eq_false hu3
                  have hou : 0 ≤ o.units ∧ o.units ≤ x.u := by
                    have h9 := HCS.out
                    cases h9 with
                    | fine o' hl' hf' ha' hu' hb' hfee' => exact hb'
                    | ill o' hl' hf' ha' hs' hc' hb' hfee' => exact hb'
                  have hw1 : IntKind.u64.wrap (x.u - 150) = x.u - 150 := IntWalk.u64_in _ (by have := HOK.out.u; omega)
                  have hw2 : IntKind.u64.wrap (o.units + 150) = o.units + 150 := IntWalk.u64_in _ (by have := HOK.out.u; omega)
                  clear h ho hx hf hu hs hc hf0
                  go_wp2_with fail
                  refine (lives15 _ (HT.out.below HXW.out HT.out.pos)).mono ?_
                  rintro e wl ⟨rfl, hbl⟩
                  have BL := Lib.hid (HXW.out.trans (hbl.mono HXW.out.size))
                  clear hbl
                  go_wp2_with fail
                  go_ret
                  exact ⟨rfl, BL.out⟩
            have hd : decide ((k : Int) < zn) = true := decide_eq_true hlt
            have hlt2 : k < zn := by omega
            obtain ⟨y, hy⟩ : ∃ y, o.ch[k]? = some y := ⟨_, List.getElem?_eq_getElem (by rw [← HCN.out]; exact hlt2)⟩
            obtain ⟨v, hv⟩ : ∃ v, Z.ch[k]? = some v := ⟨_, List.getElem?_eq_getElem (by rw [← HZN.out]; exact hlt2)⟩
            obtain ⟨ya, hya, hyb, hyc⟩ := chg_at15 M12.out.o7 (fun u hu => by obtain ⟨h1, h2⟩ := HCO.out.1 u hu; exact hold_len h1 h2) hy
            obtain ⟨va, hva, hvb, hvc⟩ := chg_at15 OZ.out (fun u hu => by obtain ⟨h1, h2⟩ := HCZ.out.1 u hu; exact hold_len h1 h2) hv
            have HYC : Hid (∀ j u, y.cells[j]? = some u → wr.cell? ((ya.add (k * 66)).add j) = some u) := Lib.hid fun j u hu => (BW.out.cell (by rw [addr_block, addr_block]; exact hyb)).trans (hyc j u hu)
            have HVC : Hid (∀ j u, v.cells[j]? = some u → wr.cell? ((va.add (k * 66)).add j) = some u) := Lib.hid fun j u hu => (BW.out.cell (by rw [addr_block, addr_block]; exact hvb)).trans (hvc j u hu)
            have HBB : Hid (ya.block < wr.heap.size ∧ va.block < wr.heap.size) := Lib.hid ⟨Nat.lt_of_lt_of_le hyb BW.out.size, Nat.lt_of_lt_of_le hvb BW.out.size⟩
            have HYO := Lib.hid (HCO.out.1 y (List.mem_of_getElem? hy))
            have HVO := Lib.hid (HCZ.out.1 v (List.mem_of_getElem? hv))
            have HEQ : Hid (∀ w, (binOp .eql 64 (.agg v.cells.toArray) (.agg y.cells.toArray)).run Tryd.prog w = .ok (.bool (decide (v = y))) w) := Lib.hid fun w => hold_eql15 HVO.out.1 HYO.out.1 HVO.out.2 HYO.out.2 w
            have HT1 : Hid (o.ch.take (k + 1) = o.ch.take k ++ [y]) := Lib.hid (by rw [List.take_add_one, hy]; rfl)
            have HT2 : Hid (Z.ch.take (k + 1) = Z.ch.take k ++ [v]) := Lib.hid (by rw [List.take_add_one, hv]; rfl)
            have HYG := Lib.hid hy
            have HVG := Lib.hid hv
            rw [hya] at o5'
            rw [hva] at z5'
            have HSY : Hid ((Tryd.prog.info? 64).map (·.size) = some y.cells.length) := Lib.hid (size_hold HYO.out.1 HYO.out.2)
            have HSV : Hid ((Tryd.prog.info? 64).map (·.size) = some v.cells.length) := Lib.hid (size_hold HVO.out.1 HVO.out.2)
            clear hy hv hya hva hyb hvb hyc hvc
            go_upto_region 16 with fail
            have HO5 := Lib.hid o5'
            have HZ5 := Lib.hid z5'
            have HGL : Hid (g7 < wr.heap.size ∧ gz < wr.heap.size) := Lib.hid ⟨block_lt_of_cell o5', block_lt_of_cell z5'⟩
            clear o5' z5' c42'
            have SF := Lib.hid (show Below wr.heap.size wr wr.drew from (Below.refl wr.heap.size wr).drew)
            refine wp_region_held_drew (S := fun V => Below wr.heap.size wr V) (by kernel_rfl) SF.out (fun _ => ?_)
            try dsimp only [List.append]
            generalize wr.drew = wd at *
            refine takeL (i := 0) (v := ?_) rfl (by kernel_rfl) (by kernel_rfl) (by kernel_rfl) (fun _ _ _ h => h) (Or.inl ⟨by rfl, ?_⟩) SF.out ?_
            rotate_left
            · intro w hw
              try dsimp only at hw
              go_simp
              try with_reducible rfl
            try simp only [Act.put, List.setIfInBounds_toArray, List.set_cons_zero, List.set_cons_succ]
            refine takeL (i := 1) (v := ?_) rfl (by kernel_rfl) (by kernel_rfl) (by kernel_rfl) (fun _ _ _ h => h) (Or.inl ⟨by rfl, ?_⟩) SF.out ?_
            rotate_left
            · intro w hw
              try dsimp only at hw
              have oc := (hw.cell (p := ⟨gz, 5, none⟩) HGL.out.2).trans HZ5.out
              go_simp
              try with_reducible rfl
            try simp only [Act.put, List.setIfInBounds_toArray, List.set_cons_zero, List.set_cons_succ]
            refine takeL (i := 2) (v := ?_) rfl (by kernel_rfl) (by kernel_rfl) (by kernel_rfl) (fun _ _ _ h => h) (Or.inl ⟨by rfl, ?_⟩) SF.out ?_
            rotate_left
            · intro w hw
              try dsimp only at hw
              go_simp
              try with_reducible rfl
            try simp only [Act.put, List.setIfInBounds_toArray, List.set_cons_zero, List.set_cons_succ]
            refine takeL (i := 3) (v := ?_) rfl (by kernel_rfl) (by kernel_rfl) (by kernel_rfl) (fun _ _ _ h => h) (Or.inl ⟨by rfl, ?_⟩) SF.out ?_
            rotate_left
            · intro w hw
              try dsimp only at hw
              have hg : ¬ (zn : Int) ≤ (k : Int) := by omega
              have hg2 : decide ((zn : Int) ≤ (k : Int)) = false := decide_eq_false hg
              go_simp
              try with_reducible rfl
            try simp only [Act.put, List.setIfInBounds_toArray, List.set_cons_zero, List.set_cons_succ]
            refine takeL (i := 4) (v := .agg v.cells.toArray) rfl (by kernel_rfl) (by kernel_rfl) (by kernel_rfl) (fun _ _ _ h => h) (Or.inl ⟨by rfl, fun wz hwz => exec_load_at wz 64 (.tmp 121) rfl (va.add (k * 66)) v.cells _ Tryd.underlying64 rfl HSV.out (fun j u hu => (hwz.cell (by rw [addr_block, addr_block]; exact HBB.out.2)).trans (HVC.out j u hu)) (by go_simp)⟩) SF.out ?_
            try simp only [Act.put, List.setIfInBounds_toArray, List.set_cons_zero, List.set_cons_succ]
            refine takeL (i := 5) (v := ?_) rfl (by kernel_rfl) (by kernel_rfl) (by kernel_rfl) (fun _ _ _ h => h) (Or.inl ⟨by rfl, ?_⟩) SF.out ?_
            rotate_left
            · intro w hw
              try dsimp only at hw
              go_simp
              try with_reducible rfl
            try simp only [Act.put, List.setIfInBounds_toArray, List.set_cons_zero, List.set_cons_succ]
            refine takeL (i := 6) (v := ?_) rfl (by kernel_rfl) (by kernel_rfl) (by kernel_rfl) (fun _ _ _ h => h) (Or.inl ⟨by rfl, ?_⟩) SF.out ?_
            rotate_left
            · intro w hw
              try dsimp only at hw
              have oc := (hw.cell (p := ⟨g7, 5, none⟩) HGL.out.1).trans HO5.out
              go_simp
              try with_reducible rfl
            try simp only [Act.put, List.setIfInBounds_toArray, List.set_cons_zero, List.set_cons_succ]
            refine takeL (i := 7) (v := ?_) rfl (by kernel_rfl) (by kernel_rfl) (by kernel_rfl) (fun _ _ _ h => h) (Or.inl ⟨by rfl, ?_⟩) SF.out ?_
            rotate_left
            · intro w hw
              try dsimp only at hw
              go_simp
              try with_reducible rfl
            try simp only [Act.put, List.setIfInBounds_toArray, List.set_cons_zero, List.set_cons_succ]
            refine takeL (i := 8) (v := ?_) rfl (by kernel_rfl) (by kernel_rfl) (by kernel_rfl) (fun _ _ _ h => h) (Or.inl ⟨by rfl, ?_⟩) SF.out ?_
            rotate_left
            · intro w hw
              try dsimp only at hw
              have hg : ¬ (zn : Int) ≤ (k : Int) := by omega
              have hg2 : decide ((zn : Int) ≤ (k : Int)) = false := decide_eq_false hg
              go_simp
              try with_reducible rfl
            try simp only [Act.put, List.setIfInBounds_toArray, List.set_cons_zero, List.set_cons_succ]
            refine takeL (i := 9) (v := .agg y.cells.toArray) rfl (by kernel_rfl) (by kernel_rfl) (by kernel_rfl) (fun _ _ _ h => h) (Or.inl ⟨by rfl, fun wz hwz => exec_load_at wz 64 (.tmp 126) rfl (ya.add (k * 66)) y.cells _ Tryd.underlying64 rfl HSY.out (fun j u hu => (hwz.cell (by rw [addr_block, addr_block]; exact HBB.out.1)).trans (HYC.out j u hu)) (by go_simp)⟩) SF.out ?_
            try simp only [Act.put, List.setIfInBounds_toArray, List.set_cons_zero, List.set_cons_succ]
            refine takeL (i := 10) (v := ?_) rfl (by kernel_rfl) (by kernel_rfl) (by kernel_rfl) (fun _ _ _ h => h) (Or.inl ⟨by rfl, ?_⟩) SF.out ?_
            rotate_left
            · intro w hw
              try dsimp only at hw
              have hne := HEQ.out
              go_simp
              try with_reducible rfl
            try simp only [Act.put, List.setIfInBounds_toArray, List.set_cons_zero, List.set_cons_succ]
            refine takeL (i := 11) (v := ?_) rfl (by kernel_rfl) (by kernel_rfl) (by kernel_rfl) (fun _ _ _ h => h) (Or.inl ⟨by rfl, ?_⟩) SF.out ?_
            rotate_left
            · intro w hw
              try dsimp only at hw
              go_simp
              try with_reducible rfl
            try simp only [Act.put, List.setIfInBounds_toArray, List.set_cons_zero, List.set_cons_succ]
            refine wpAnyH_done (by kernel_rfl) ?_ _
            go_wp2_with fail
            go_roundw
            case rel =>
              refine ⟨k + 1, decide (v = y), by omega, by go_num, rfl, fun h => ⟨by first | rfl | trivial, ?_⟩, fun h e => ?_, BW.out.trans (SF.out.mono BW.out.size)⟩
              · rw [HT1.out, HT2.out, HTK.out, of_decide_eq_true h]
              · have h1 := HYG.out
                rw [e, HVG.out] at h1
                exact of_decide_eq_false h (Option.some.inj h1)
            case measure => simp [intOf]; omega
end Go.Proofs.YtfaefpniiiandaaDoor
