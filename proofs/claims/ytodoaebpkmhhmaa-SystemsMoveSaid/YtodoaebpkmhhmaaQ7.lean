/-
  Parts joined: Lives14 MoveMath14 Acts13 Open14 CoinsWalk14.
-/
import Derived.Below
import Derived.Laws.OwnMore
import Derived.Deep.AppendLies
import Derived.Deep.Draws
import Derived.Lib.Hide
import Derived.Laws.MakeOwn
import Derived.Laws.CopyOwn
import Derived.Laws.Rows
import Derived.Laws.BitsAllLaws
import Derived.WalkKit
import Derived.Test.YtodoaebpkmhhmaaRows
import Derived.WalkSpells
import Derived.WalkLawsBesides
import Derived.IntWalk
import Derived.Deep.MidRow
import Derived.Deep.WholeRow
import Derived.Maps.AppendAt
import Derived.OwnWalk
import Derived.Great.BuildSlice
import Derived.Recover
import Derived.Deep.RegionHeld
import Derived.Deep.QuietTactic
import Derived.BigQuiet
import Derived.ChangeKeysEq
import Derived.ProofKit
import Derived.OpenShut
import Derived.ShutString
import Derived.ChangeOld
import Derived.Lib.SmallJoins
import Derived.Deep.Slices
import Derived.Deep.Strs
import Derived.SizedLaws
import Derived.Deep.RegionHeld2
import Derived.Deep.CutBlock
import Derived.Laws.Tables
import Derived.Laws.StructEq
import Derived.Laws.Slices
import Derived.Deep.DeepCutAuto
import Derived.Laws.EntriesVeiled
import Derived.Deep.RegionHeld3
import Derived.Maps.OwnSet
import Derived.DeepKeys4
import Derived.WideKeyArr
import Derived.WideKeyEntry
import Derived.WalkMore
import Derived.Shelf.SlMaps.Clone
import Derived.LaidMore
import Derived.Laws.Append
import Derived.Laws.AppendOwn
import Derived.Maps.OwnOps
import Derived.Maps.RangeWalk
import Derived.Laws.BytesArg
import Derived.Laws.Strings
import Derived.Lib.Strings
import Derived.Great.Walk
import Derived.Laws.Bits64b
import Derived.Laws.Externs
import Derived.Test.YtodoaebpkmhhmaaQ1
import Derived.Test.YtodoaebpkmhhmaaQ2
import Derived.Test.YtodoaebpkmhhmaaQ3
import Derived.Test.YtodoaebpkmhhmaaQ4
import Derived.Test.YtodoaebpkmhhmaaQ5
import Derived.Test.YtodoaebpkmhhmaaQ6
/-
  Of part Lives14: what is needed here.
-/
namespace Go.Proofs.Ytodoaebpkmhhmaa
open Go.RowKit
set_option linter.unusedVariables false
set_option maxRecDepth 100000
def a14 (c : Int) : LAcc := ⟨c, key0, 0⟩
theorem a14_ok {c : Int} (h : 0 ≤ c ∧ c < 18446744073709551616) : AccOk (a14 c) := ⟨h, key0_ok, zero_u64⟩
theorem built_a14 (c : Int) : Try.prog.built 48 [(0, .int .u64 c)] = some (a14 c).cells.toArray := by kernel_rfl
def l14 : List LAcc := [a14 10, blank13]
def e14 : List LAcc := [a14 7, a14 3]
theorem l14_ok : ∀ x ∈ l14, AccOk x := by
  intro x hx
  unfold l14 at hx
  simp only [List.mem_cons, List.not_mem_nil, or_false] at hx
  rcases hx with rfl | rfl
  · exact a14_ok (by omega)
  · exact blank_ok
theorem e14_ok : ∀ x ∈ e14, AccOk x := by
  intro x hx
  unfold e14 at hx
  simp only [List.mem_cons, List.not_mem_nil, or_false] at hx
  rcases hx with rfl | rfl <;> exact a14_ok (by omega)
theorem accs_two (x y : LAcc) : accsC [x, y] = x.cells ++ y.cells := by unfold accsC; simp
theorem two_in {w : World} {g B : Nat} {x y : LAcc} (h : Row w g 48 (x.cells ++ y.cells)) (ho : ∀ z ∈ [x, y], AccOk z) (hB : g < B) : AccsIn w B (some ⟨g, 0, none⟩) 2 [x, y] :=
  accs_row (ys := []) (by rw [accs_two, List.append_nil]; exact h) rfl ho hB
theorem mv_ins {w : World} {ga b : Nat} {D : Option Addr} {c dn : Nat} {d : List Int} (hr : Row w ga 5 (bv [0, 1])) (ho : OwnB w b (.slice D dn c) d) (hn : d.length = dn) (hd : AllBytes d) : InsAt14 w w.heap.size 1 (some ⟨ga, 0, none⟩) 2 2 D dn c [0, 1] d := by
  subst hn
  obtain ⟨A', c', h1, h2, h3, h4, h5⟩ := own_form2 ho
  cases h1
  refine ⟨by have := hr.sees0; rw [bv_length] at this; exact this, ho.sees, fun z hz => ?_, hd, ⟨Nat.le_refl _, by unfold maxLen; omega⟩, ⟨h3, h4⟩⟩
  simp only [List.mem_cons, List.not_mem_nil, or_false] at hz
  rcases hz with rfl | rfl <;> (unfold IsByte; omega)
theorem do_l1 : do14 l14 (b14 false) [0, 1] (mv14 3) = ⟨0, e14, 0⟩ := by kernel_rfl
theorem do_l2 : do14 l14 (b14 false) [0, 1] (mv14 11) = ⟨17, [], 0⟩ := by kernel_rfl
theorem do_l3 : do14 l14 (b14 false) [0, 1] (mv14 3 ++ [0]) = ⟨13, [], 0⟩ := by kernel_rfl
theorem b14_set : (b14C true).set 66 (.bool false) = b14C false := by kernel_rfl
/-- the example's accounts and roles -/
structure XLV14 (w V : World) (gl gr : Nat) (s : Bool) : Prop where
  b : Below w.heap.size w V
  rl : Row V gl 48 ((a14 10).cells ++ blank13.cells)
  rr : Row V gr 50 (b14C s)
section
variable {w V V' : World} {gl gr : Nat} {s : Bool}
theorem XLV14.below (h : XLV14 w V gl gr s) (hb : Below V.heap.size V V') : XLV14 w V' gl gr s := ⟨h.b.trans (hb.mono h.b.size), h.rl.below hb h.rl.lt, h.rr.below hb h.rr.lt⟩
theorem XLV14.alloc (h : XLV14 w V gl gr s) (o : Obj) : XLV14 w (V.alloc o) gl gr s := h.below ((Below.refl V.heap.size V).alloc (Nat.le_refl _) o)
theorem XLV14.turned (h : XLV14 w V gl gr s) {g : Nat} (ht : Turned V V' g) (h0 : w.heap.size ≤ g) (h1 : gl ≠ g) (h2 : gr ≠ g) : XLV14 w V' gl gr s := ⟨h.b.trans (ht.below h0), ht.row h.rl h1, ht.row h.rr h2⟩
theorem XLV14.under (h : XLV14 w V gl gr s) {B : Nat} (hb : Below B V V') (hB : w.heap.size ≤ B) (h1 : gl < B) (h2 : gr < B) : XLV14 w V' gl gr s := ⟨h.b.trans (hb.mono hB), h.rl.below hb h1, h.rr.below hb h2⟩
theorem XLV14.do_ (h : XLV14 w V gl gr false) {ga b : Nat} {D : Option Addr} {c dn : Nat} {d : List Int} (hr : Row V ga 5 (bv [0, 1])) (ho : OwnB V b (.slice D dn c) d) (hn : d.length = dn) (hd : AllBytes d) {e n : Int} {L : List LAcc} (hR : do14 l14 (b14 false) [0, 1] d = ⟨e, L, n⟩) :
    Calls Try.prog 12 #[.slice (some ⟨gl, 0, none⟩) 2 2, .slice (some ⟨gr, 0, none⟩) 2 2, .agg (insC 1 (some ⟨ga, 0, none⟩) 2 2 D dn c).toArray] V fun e' w' => ∃ v, e' = .returned (.tuple #[v, .int .u64 n, .int .i64 e]) ∧ OA14 w' V.heap.size v L ∧ Below V.heap.size V w' := by
  have := sysDo14 l14 (b14 false) 1 (some ⟨ga, 0, none⟩) 2 2 D dn c [0, 1] d (some ⟨gl, 0, none⟩) 2 2 (some ⟨gr, 0, none⟩) 2 2 V.heap.size V (two_in h.rl l14_ok h.rl.lt) (Nat.le_refl _) (b14_in h.rr h.rr.lt) (mv_ins hr ho hn hd) (Nat.le_refl _) (by omega) (by omega) (by omega)
  rw [hR] at this
  exact this
end
set_option maxHeartbeats 8000000 in
theorem lives14_ (w : World) : Calls Try.prog 9 #[] w fun e w' => e = .returned (.bool true) ∧ Below w.heap.size w w' := by
  have HA := Lib.hid built_a14
  have HM := Lib.hid (fun V => move14_ 3 V (by omega) (by omega))
  have HM2 := Lib.hid (fun V => move14_ 11 V (by omega) (by omega))
  have HL1 := Lib.hid do_l1
  have HL2 := Lib.hid do_l2
  have HL3 := Lib.hid do_l3
  have RL := Lib.hid (Row.new w 48 ((a14 10).cells ++ blank13.cells))
  have B0 := Lib.hid ((Below.refl w.heap.size w).alloc (Nat.le_refl _) (.cells ((a14 10).cells ++ blank13.cells).toArray 48))
  go_enter Try.func9, Try.ntmps9
  go_upto_region 2 with (first
    | ((with_reducible show wpList _ _ _ ({ dst := some 13, op := Op.build _ _, type := _, pos := _, after := _, guard := _ } :: _) _ _); go_must (refine wpList_plain rfl fun K hK => wp_built _ _ _ rfl (by simp only [List.map_toArray, List.map_cons, List.map_nil]; exact HA.out 10) (hK _ _ ?_)))
    | ((with_reducible show wpList _ _ _ ({ dst := some 14, op := Op.build _ _, type := _, pos := _, after := _, guard := _ } :: _) _ _); go_must (refine wpList_plain rfl fun K hK => wp_built _ _ _ rfl (by simp only [List.map_toArray, List.map_nil]; exact built_blank) (hK _ _ ?_)))
    | ((with_reducible show wpList _ _ _ ({ dst := some 15, op := Op.buildSlice _ _ _, type := _, pos := _, after := _, guard := _ } :: _) _ _); go_must (refine wpList_buildTwo rfl 22 48 (.tmp 13) (.tmp 14) rfl (a14 10).cells blank13.cells _ 34 48 Try.underlying22 infoAc14 zszAc14 (by omega) (by omega) rfl rfl ?_ ?_ ?_; go_simp; go_simp)))
  have HZ := Lib.hid (show w.heap.size < (w.alloc (.cells ((a14 10).cells ++ blank13.cells).toArray 48)).heap.size from RL.out.lt)
  generalize hW : w.alloc (.cells ((a14 10).cells ++ blank13.cells).toArray 48) = W at *
  clear hW
  obtain ⟨gl, hgl⟩ : ∃ g, g = w.heap.size := ⟨_, rfl⟩
  rw [← hgl] at RL ⊢
  go_wp2_with fail
  refine (both14_ W).mono ?_
  rintro e w1 ⟨rfl, hr1, hb1⟩
  have P1 : Hid (XLV14 w w1 gl W.heap.size true) := Lib.hid ⟨B0.out.trans (hb1.mono B0.out.size), RL.out.below hb1 RL.out.lt, hr1⟩
  obtain ⟨gr, hgr⟩ : ∃ g, g = W.heap.size := ⟨_, rfl⟩
  have HGR : Hid (w.heap.size ≤ gr ∧ gl ≠ gr) := Lib.hid (by have := HZ.out; omega)
  rw [← hgr] at P1 ⊢
  clear hr1 hb1 B0 RL hgr hgl HZ
  have crs := P1.out.rr.cell 66
  have frs := P1.out.rr.frozen 66
  go_upto_region 4 with fail
  have P2 := Lib.hid (XLV14.mk ((P1.out.b).trans ((turned_setCell w1 ⟨gr, 66, none⟩ (.bool false)).below HGR.out.1)) ((turned_setCell w1 ⟨gr, 66, none⟩ (.bool false)).row P1.out.rl HGR.out.2) (by have := P1.out.rr.set_ 66 (.bool false); rw [b14_set] at this; exact this))
  clear crs frs P1
  generalize hW2 : w1.setCell ⟨gr, 66, none⟩ (.bool false) = w2 at *
  clear hW2
  go_wp2_with fail
  refine (HM.out _).mono ?_
  rintro e w3 ⟨ga, D, c, rfl, hga, hra, hoa, hne, hb3⟩
  have P3 := Lib.hid (P2.out.below hb3)
  have HDO := Lib.hid (P3.out.do_ hra hoa (mv14_len 3) (mv14_bytes 3) HL1.out)
  clear hga hra hoa hne hb3 P2 HL1
  go_wp2_with fail
  refine HDO.out.mono ?_
  rintro e w4 ⟨v4, rfl, ho4, hb4⟩
  have P4 := Lib.hid (P3.out.below hb4)
  obtain ⟨A4, c4, rfl, hc4⟩ := ho4.form
  have HO4 := Lib.hid ho4
  have HC4 := Lib.hid hc4
  clear ho4 hb4 P3 HDO hc4
  go_wp2_with fail
  refine (HM2.out _).mono ?_
  rintro e w5 ⟨gb, D5, c5, rfl, hga, hra, hoa, hne, hb5⟩
  have P5 := Lib.hid (P4.out.below hb5)
  have HO5 := Lib.hid (HO4.out.below hb5)
  have HDO := Lib.hid (P5.out.do_ hra hoa (mv14_len 11) (mv14_bytes 11) HL2.out)
  clear hga hra hoa hne hb5 P4 HL2 HO4
  go_wp2_with fail
  refine HDO.out.mono ?_
  rintro e w6 ⟨v6, rfl, ho6, hb6⟩
  have P6 := Lib.hid (P5.out.below hb6)
  have HO6 := Lib.hid (HO5.out.below hb6)
  clear ho6 hb6 P5 HDO HO5
  go_wp2_with fail
  refine (HM.out _).mono ?_
  rintro e w7 ⟨ga, D, c, rfl, hga, hra, hoa, hne, hb7⟩
  have P7 := Lib.hid (P6.out.below hb7)
  have HO7 := Lib.hid (HO6.out.below hb7)
  have RA7 := Lib.hid hra
  have RO7 := Lib.hid hoa
  have NE7 := Lib.hid hne
  have HS7 := Lib.hid hb7.size
  have HS6 := Lib.hid (And.intro P6.out.rl.lt P6.out.rr.lt)
  have HS60 := Lib.hid P6.out.b.size
  have HV6 := Lib.hid (HO6.out.lt)
  clear hga hra hoa hne hb7 P6 HO6
  go_upto_region 7 with (first
    | ((with_reducible show wpList _ _ _ ({ dst := some 9, op := Op.alloc _, type := _, pos := _, after := _, guard := _ } :: _) _ _); go_must (refine wpList_alloc_zero rfl 26 rfl (insC 0 none 0 0 none 0 0) zero_ins14 ?_))
    | ((with_reducible show wpList _ _ _ ({ dst := none, op := Op.store 26 _ _, type := _, pos := _, after := _, guard := _ } :: _) _ _); go_must (refine wpList_store_new rfl 26 (.tmp 9) (.tmp 36) rfl (insC 1 (some ⟨ga, 0, none⟩) 2 2 D 12 c) (size_ins14 _ _ _ _ _ _ _) (ins14_one _ _ _ _ _ _ _) rfl ?_ ?_ ?_; go_simp; go_simp; intro w8 hr8 hb8 hz8)))
  obtain ⟨g9, hg9⟩ : ∃ g, g = w7.heap.size := ⟨_, rfl⟩
  rw [← hg9] at hr8 ⊢
  have P8 := Lib.hid (P7.out.below hb8)
  have HO8 := Lib.hid (HO7.out.below hb8)
  have RO8 := Lib.hid (RO7.out.below hb8)
  have RA8 := Lib.hid (RA7.out.below hb8 RA7.out.lt)
  have R98 := Lib.hid hr8
  have HS8 := Lib.hid (Nat.le_trans HS7.out hb8.size)
  have HG9 : Hid (w6.heap.size ≤ g9 ∧ ga < g9) := Lib.hid ⟨by rw [hg9]; exact HS7.out, by rw [hg9]; exact RA7.out.lt⟩
  have c82 : w8.cell? ⟨g9, 2, none⟩ = some (.slice D 12 c) := hr8.cell 2
  have f82 := hr8.frozen 2
  clear P7 HO7 RO7 RA7 HS7 hr8 hb8 hz8 hg9
  go_upto_region 8 with ((with_reducible show wpList _ _ _ ({ dst := some 40, op := _, type := _, pos := _, after := _, guard := _ } :: _) _ _); go_must (refine wpList_addLitg (w0 := w8) (by kernel_rfl) (.tmp 38) (.tmp 39) 24 rfl w6.heap.size Try.underlying24 info_u8 (.slice D 12 c) (mv14 3) [0] 1 rfl ?_ RO8.out ?_ HS8.out ?_ ?_; go_simp; go_simp; (rw [List.length_append, mv14_len]; decide); intro v9 w9 ho9 hg9; obtain ⟨D9, c9, hv9⟩ := ho9.form; rw [List.length_append, mv14_len] at hv9; subst hv9; have RO9 := Lib.hid ho9; have R99 := Lib.hid (R98.out.grown hg9.grown (own_row_ne RO8.out R98.out (by decide))); have RA9 := Lib.hid (RA8.out.grown hg9.grown (fun e => NE7.out ga e.symm rfl)); have HB9 := Lib.hid (hg9.below RO8.out HS8.out); have c92 : w9.cell? ⟨g9, 2, none⟩ = some (.slice D 12 c) := R99.out.cell 2; have f92 := R99.out.frozen 2; clear ho9 hg9 c82 f82))
  have P10 := Lib.hid ((P8.out.under HB9.out HS60.out HS6.out.1 HS6.out.2).turned (turned_setCell w9 ⟨g9, 2, none⟩ (.slice D9 13 c9)) (Nat.le_trans HS60.out HG9.out.1) (by have := HS6.out.1; have := HG9.out.1; show _ ≠ g9; omega) (by have := HS6.out.2; have := HG9.out.1; show _ ≠ g9; omega))
  have HO10 := Lib.hid ((HO8.out.keep fun g hg => HB9.out.block g (HV6.out g hg).2).keep fun g hg => (turned_setCell w9 ⟨g9, 2, none⟩ (.slice D9 13 c9)).block g (by have := (HV6.out g hg).2; have := HG9.out.1; show g ≠ g9; omega))
  have RA10 := Lib.hid ((turned_setCell w9 ⟨g9, 2, none⟩ (.slice D9 13 c9)).row RA9.out (by have := HG9.out.2; show ga ≠ g9; omega))
  have RO10 := Lib.hid (own14_turned RO9.out (turned_setCell w9 ⟨g9, 2, none⟩ (.slice D9 13 c9)) (fun k hk e => own_row_ne RO9.out R99.out (by decide) (by rw [hk]; exact congrArg some e.symm)))
  have R910 : Hid (Row (w9.setCell ⟨g9, 2, none⟩ (.slice D9 13 c9)) g9 26 (insC 1 (some ⟨ga, 0, none⟩) 2 2 D9 13 c9)) := Lib.hid (R99.out.set_ 2 (.slice D9 13 c9))
  clear c92 f92 P8 HO8 RA8 RO8 R98 RA9 RO9 R99 HB9 HV6
  generalize hW10 : w9.setCell ⟨g9, 2, none⟩ (.slice D9 13 c9) = w10 at *
  clear hW10
  have HDO := Lib.hid (P10.out.do_ RA10.out RO10.out (show (mv14 3 ++ [0]).length = 13 by rw [List.length_append, mv14_len]; rfl) (fun z hz => by
    rcases List.mem_append.1 hz with h | h
    · exact mv14_bytes 3 z h
    · simp only [List.mem_cons, List.not_mem_nil, or_false] at h; subst h; unfold IsByte; omega) HL3.out)
  go_wp2_with ((with_reducible show wpList _ _ _ ({ dst := some 45, op := Op.load _ _, type := _, pos := _, after := _, guard := _ } :: _) _ _); go_must (refine wpList_load_whole rfl 26 (.tmp 9) rfl g9 26 (insC 1 (some ⟨ga, 0, none⟩) 2 2 D9 13 c9) _ Try.underlying26 rfl (size_ins14 _ _ _ _ _ _ _) R910.out ?_ ?_; go_simp))
  refine HDO.out.mono ?_
  rintro e w11 ⟨v11, rfl, ho11, hb11⟩
  have P11 := Lib.hid (P10.out.below hb11)
  have HO11 := Lib.hid (HO10.out.below hb11)
  clear ho11 hb11 P10 HO10 RA10 RO10 R910 HDO
  go_wp2_with (first
    | ((with_reducible show wpList _ _ _ ({ dst := some 51, op := Op.build _ _, type := _, pos := _, after := _, guard := _ } :: _) _ _); go_must (refine wpList_plain rfl fun K hK => wp_built _ _ _ rfl (by simp only [List.map_toArray, List.map_cons, List.map_nil]; exact HA.out 7) (hK _ _ ?_)))
    | ((with_reducible show wpList _ _ _ ({ dst := some 52, op := Op.build _ _, type := _, pos := _, after := _, guard := _ } :: _) _ _); go_must (refine wpList_plain rfl fun K hK => wp_built _ _ _ rfl (by simp only [List.map_toArray, List.map_cons, List.map_nil]; exact HA.out 3) (hK _ _ ?_)))
    | ((with_reducible show wpList _ _ _ ({ dst := some 53, op := Op.buildSlice _ _ _, type := _, pos := _, after := _, guard := _ } :: _) _ _); go_must (refine wpList_buildTwo rfl 22 48 (.tmp 51) (.tmp 52) rfl (a14 7).cells (a14 3).cells _ 34 48 Try.underlying22 infoAc14 zszAc14 (by omega) (by omega) rfl rfl ?_ ?_ ?_; go_simp; go_simp)))
  have hb12 := (Below.refl w11.heap.size w11).alloc (Nat.le_refl _) (.cells ((a14 7).cells ++ (a14 3).cells).toArray 48)
  refine (show Calls Try.prog 14 #[.slice A4 e14.length c4, .slice (some ⟨w11.heap.size, 0, none⟩) 2 2] _ _ from sameAccs A4 (some ⟨w11.heap.size, 0, none⟩) 2 c4 2 e14 _ _ _ ((HO11.out.accs rfl).below hb12) (two_in (Row.new w11 48 ((a14 7).cells ++ (a14 3).cells)) e14_ok (Row.new w11 48 ((a14 7).cells ++ (a14 3).cells)).lt) (by unfold maxLen; omega)).mono ?_
  rintro e w12 ⟨rfl, k12, rfl⟩
  have P12 := Lib.hid (P11.out.below hb12)
  clear hb12
  go_wp2_with fail
  go_ret
  exact ⟨rfl, P12.out.b.trans ⟨rfl, rfl, rfl, Nat.le_refl _, fun _ _ => rfl⟩⟩
end Go.Proofs.Ytodoaebpkmhhmaa

/-
  Of part MoveMath14: what is needed here.
-/
namespace Go.Proofs.Ytodoaebpkmhhmaa
open Go.RowKit
set_option linter.unusedVariables false
set_option maxRecDepth 100000
theorem plc_m1 (n : Int) : plc14 ⟨2, n, 0, key0⟩ (b14 true) [0, 1] = 0 := by rfl
theorem plc_m2 (n : Int) : plc14 ⟨2, n, 0, key0⟩ (b14 true) [0, 0] = 0 := by rfl
theorem plc_m3 (n : Int) : plc14 ⟨2, n, 0, key0⟩ (b14 true) [1, 0] = 0 := by rfl
section
variable {x y : LAcc} {n : Int}
theorem do_m1 (h0 : 0 ≤ n) (h1 : n < 18446744073709551616) : do14 [x, y] (b14 true) [0, 1] (mv14 n) = move14 [x, y] ⟨2, n, 0, key0⟩ 0 1 :=
  do_is (a := 0) (b := 1) rfl (dat_mv14 h0 h1) (plc_m1 n) rfl rfl
theorem do_m2 (h0 : 0 ≤ n) (h1 : n < 18446744073709551616) : do14 [x, y] (b14 true) [0, 0] (mv14 n) = move14 [x, y] ⟨2, n, 0, key0⟩ 0 0 :=
  do_is (a := 0) (b := 0) rfl (dat_mv14 h0 h1) (plc_m2 n) rfl rfl
theorem do_m3 (h0 : 0 ≤ n) (h1 : n < 18446744073709551616) : do14 [x, y] (b14 true) [1, 0] (mv14 n) = move14 [x, y] ⟨2, n, 0, key0⟩ 1 0 :=
  do_is (a := 1) (b := 0) rfl (dat_mv14 h0 h1) (plc_m3 n) rfl rfl
theorem m1_owner (b : Nat) (h : ¬ plain14 x) : move14 [x, y] ⟨2, n, 0, key0⟩ 0 b = ⟨16, [], 0⟩ := by unfold move14; rw [if_pos (show ¬ plain14 (getA [x, y] 0) from h)]; rfl
theorem m1_funds (b : Nat) (h : plain14 x) (h2 : x.c < n) : move14 [x, y] ⟨2, n, 0, key0⟩ 0 b = ⟨17, [], 0⟩ := by
  unfold move14
  rw [if_neg (show ¬ ¬ plain14 (getA [x, y] 0) from fun e => e h), if_pos (show (getA [x, y] 0).c < n from h2)]
  rfl
theorem m1_over (h : plain14 x) (h2 : ¬ x.c < n) (h3 : 18446744073709551615 - n < y.c) : move14 [x, y] ⟨2, n, 0, key0⟩ 0 1 = ⟨18, [], 0⟩ := by
  unfold move14
  rw [if_neg (show ¬ ¬ plain14 (getA [x, y] 0) from fun e => e h), if_neg (show ¬ (getA [x, y] 0).c < n from h2), if_neg (by decide), if_pos (show 18446744073709551615 - n < (getA [x, y] 1).c from h3)]
  rfl
theorem m1_good (h : plain14 x) (h2 : ¬ x.c < n) (h3 : ¬ 18446744073709551615 - n < y.c) : move14 [x, y] ⟨2, n, 0, key0⟩ 0 1 = ⟨0, [⟨x.c - n, x.o, x.s⟩, ⟨y.c + n, y.o, y.s⟩], 0⟩ := by
  unfold move14
  rw [if_neg (show ¬ ¬ plain14 (getA [x, y] 0) from fun e => e h), if_neg (show ¬ (getA [x, y] 0).c < n from h2), if_neg (by decide), if_neg (show ¬ 18446744073709551615 - n < (getA [x, y] 1).c from h3)]
  rfl
theorem m2_good (h : plain14 x) (h2 : ¬ x.c < n) : move14 [x, y] ⟨2, n, 0, key0⟩ 0 0 = ⟨0, [x, y], 0⟩ := by
  unfold move14
  rw [if_neg (show ¬ ¬ plain14 (getA [x, y] 0) from fun e => e h), if_neg (show ¬ (getA [x, y] 0).c < n from h2), if_pos rfl]
theorem m3_owner (h : ¬ plain14 y) : move14 [x, y] ⟨2, n, 0, key0⟩ 1 0 = ⟨16, [], 0⟩ := by unfold move14; rw [if_pos (show ¬ plain14 (getA [x, y] 1) from h)]; rfl
/-- what was moved is moved back -/
theorem m3_good (hx : AccOk x) (h0 : 0 ≤ n) (hy0 : 0 ≤ y.c) (h : plain14 y) (h2 : ¬ x.c < n) : move14 [⟨x.c - n, x.o, x.s⟩, ⟨y.c + n, y.o, y.s⟩] ⟨2, n, 0, key0⟩ 1 0 = ⟨0, [x, y], 0⟩ := by
  have hc := hx.c
  unfold move14
  rw [if_neg (show ¬ ¬ plain14 (getA [(⟨x.c - n, x.o, x.s⟩ : LAcc), ⟨y.c + n, y.o, y.s⟩] 1) from fun e => e h), if_neg (show ¬ (getA [(⟨x.c - n, x.o, x.s⟩ : LAcc), ⟨y.c + n, y.o, y.s⟩] 1).c < n from (by show ¬ y.c + n < n; omega)), if_neg (by decide), if_neg (show ¬ 18446744073709551615 - n < (getA [(⟨x.c - n, x.o, x.s⟩ : LAcc), ⟨y.c + n, y.o, y.s⟩] 0).c from (by show ¬ 18446744073709551615 - n < x.c - n; omega))]
  show (⟨0, [⟨x.c - n + n, x.o, x.s⟩, ⟨y.c + n - n, y.o, y.s⟩], 0⟩ : Res14) = _
  rw [Int.sub_add_cancel, Int.add_sub_cancel]
end
end Go.Proofs.Ytodoaebpkmhhmaa

/-
  Of part Acts13: what is needed here.
-/
namespace Go.Proofs.Ytodoaebpkmhhmaa
open Go.ChangeShapes Go.WideShapes Go.RowKit
set_option linter.unusedVariables false
set_option maxRecDepth 100000
theorem u64_wf13 {z : Int} (h : (Lit.int .u64 z).wf = true) : 0 ≤ z ∧ z < 18446744073709551616 := by
  have h' : (decide ((0 : Int) ≤ z) && decide (z ≤ 18446744073709551615)) = true := h
  rw [Bool.and_eq_true, decide_eq_true_iff, decide_eq_true_iff] at h'
  omega
theorem cellsAcc13 : Try.prog.cellsOf 48 = 34 := by kernel_rfl
theorem cellsU64_13 : Try.prog.cellsOf 33 = 1 := by kernel_rfl
theorem three13 {α : Type} {xs : List α} (h : xs.length = 3) : ∃ a b c, xs = [a, b, c] := by
  match xs, h with
  | [a, b, c], _ => exact ⟨a, b, c, rfl⟩
section
variable {H : Type} {enc : TypeId × Value → H} {w : World} {base b0 : Nat} {held : Bool}
theorem open_acc {fuel : Nat} {cs : List Value} {x : DataW H × List MemPlace} (hf : DataW.trod enc Try.prog w base (fun _ => true) held fuel 48 cs = some x) : ∃ a : LAcc, cs = a.cells ∧ AccOk a := by
  obtain ⟨xs, n, _, hx, hl, hlen, ht⟩ := DataW.trod_struct Try.underlying48 hf
  rw [cellsAcc13] at hl
  obtain ⟨y0, y1, y2, rfl⟩ := three13 hlen
  have t0 : DataW.trod enc Try.prog w base (fun _ => true) held n 33 ((cs.drop 0).take 1) = some y0 := by rw [← cellsU64_13]; exact ht 0 _ rfl
  have t1 : DataW.trod enc Try.prog w base (fun _ => true) held n 46 ((cs.drop 1).take 32) = some y1 := by rw [← cellsKey]; exact ht 1 _ rfl
  have t2 : DataW.trod enc Try.prog w base (fun _ => true) held n 33 ((cs.drop 33).take 1) = some y2 := by rw [← cellsU64_13]; exact ht 2 _ rfl
  have hsplit : cs = (cs.drop 0).take 1 ++ ((cs.drop 1).take 32 ++ (cs.drop 33).take 1) := by
    have e5 : cs.drop 33 = (cs.drop 33).take 1 := (List.take_of_length_le (by rw [List.length_drop]; omega)).symm
    rw [← e5, ← cut cs 1 32 33 rfl, ← cut cs 0 1 1 rfl]
    rfl
  obtain ⟨c0, hc0⟩ := one_of (cs := (cs.drop 0).take 1) (by simp; omega)
  obtain ⟨c2, hc2⟩ := one_of (cs := (cs.drop 33).take 1) (by simp; omega)
  rw [hc0] at t0
  rw [hc2] at t2
  obtain ⟨i0, hi0, _, wi0⟩ := DataW.trod_int Try.underlying33 t0
  obtain rfl : c0 = .int .u64 i0 := by simpa using hi0
  obtain ⟨i2, hi2, _, wi2⟩ := DataW.trod_int Try.underlying33 t2
  obtain rfl : c2 = .int .u64 i2 := by simpa using hi2
  obtain ⟨z, hz, hz1, hz2⟩ := open_32 Try.underlying46 cellsKey t1
  refine ⟨⟨i0, z, i2⟩, ?_, ⟨u64_wf13 wi0, ⟨hz1, hz2⟩, u64_wf13 wi2⟩⟩
  rw [hsplit, hc0, hz, hc2]
  rfl
end
end Go.Proofs.Ytodoaebpkmhhmaa

/-
  Of part Open14: what is needed here.
-/
namespace Go.Proofs.Ytodoaebpkmhhmaa
open Go.ChangeShapes Go.WideShapes Go.RowKit
set_option linter.unusedVariables false
set_option maxRecDepth 100000
section
variable {H : Type} {enc : TypeId × Value → H} {w : World} {base b0 : Nat} {held : Bool}
theorem open_acc14 {r : Reach} {v : Value} {d : DataW H} {p : List MemPlace} (hv : Value.okWide Try.prog w r b0 48 v) (h : DataW.Trod enc Try.prog w base (fun _ => true) held 48 v d p) :
    ∃ x : LAcc, v = .agg x.cells.toArray ∧ AccOk x := by
  simp only [Value.okWide, Try.underlying48] at hv
  obtain ⟨arr, rfl, h2, _⟩ := hv
  obtain ⟨fuel, hf⟩ := h
  obtain ⟨x, h3, h4⟩ := open_acc hf
  refine ⟨x, ?_, h4⟩
  have : arr.toList = x.cells := h3
  rw [← this]
end
end Go.Proofs.Ytodoaebpkmhhmaa

/-
  Of part CoinsWalk14: what is needed here.
-/
namespace Go.Proofs.Ytodoaebpkmhhmaa
open Go.RowKit
set_option linter.unusedVariables false
set_option maxRecDepth 100000
theorem quiet_built14 {ops : Array Oper} {C : World → Prop} {Q : Act → Prop} {a : Act} {o : Oper} {rest : List Oper} (hw : Region.wanted o (yielded ops a.tmps) = true) (t : TypeId) (parts : Array (Nat × Operand)) (cells : Array Value) (ho : o.op = .build t parts) (h : Try.prog.built t (parts.map fun (i, x) => (i, a.eval x)).toList = some cells)
    (hk : wpQuiet Try.prog ops C Q rest (a.put o.dst (.agg cells))) : wpQuiet Try.prog ops C Q (o :: rest) a :=
  BigFrame.wpQuiet_want hw fun K hK => ⟨_, fun w hC => by
    unfold Oper.quietAt
    rw [exec_built w t parts cells ho h]
    exact ⟨rfl, rfl⟩, hK _ hk⟩
end Go.Proofs.Ytodoaebpkmhhmaa
