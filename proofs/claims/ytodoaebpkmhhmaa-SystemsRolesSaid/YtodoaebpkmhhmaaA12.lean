/-
  Parts joined: Lives14 Open7 Acts13 Open14 Great14 DoWalk14 Sum14 Coins14 CoinsWalk14 RolesMath14 RoleAt14.
-/
import Derived.Below
import Derived.Laws.OwnMore
import Derived.Deep.AppendLies
import Derived.Deep.Draws
import Derived.Lib.Hide
import Derived.Laws.MakeOwn
import Derived.Laws.CopyOwn
import Derived.Laws.Rows
import Derived.Laws.BitsAllLaws
import Derived.WalkKit
import Derived.Test.YtodoaebpkmhhmaaRows
import Derived.WalkSpells
import Derived.WalkLawsBesides
import Derived.IntWalk
import Derived.Deep.MidRow
import Derived.Deep.WholeRow
import Derived.Maps.AppendAt
import Derived.OwnWalk
import Derived.Great.BuildSlice
import Derived.Recover
import Derived.Deep.RegionHeld
import Derived.Deep.QuietTactic
import Derived.BigQuiet
import Derived.ChangeKeysEq
import Derived.ProofKit
import Derived.OpenShut
import Derived.ShutString
import Derived.ChangeOld
import Derived.Lib.SmallJoins
import Derived.Deep.Slices
import Derived.Deep.Strs
import Derived.SizedLaws
import Derived.Deep.RegionHeld2
import Derived.Deep.CutBlock
import Derived.Laws.Tables
import Derived.Laws.StructEq
import Derived.Laws.Slices
import Derived.Deep.DeepCutAuto
import Derived.Laws.EntriesVeiled
import Derived.Deep.RegionHeld3
import Derived.Maps.OwnSet
import Derived.DeepKeys4
import Derived.WideKeyArr
import Derived.WideKeyEntry
import Derived.WalkMore
import Derived.Shelf.SlMaps.Clone
import Derived.LaidMore
import Derived.Laws.Append
import Derived.Laws.AppendOwn
import Derived.Maps.OwnOps
import Derived.Maps.RangeWalk
import Derived.Laws.BytesArg
import Derived.Laws.Strings
import Derived.Lib.Strings
import Derived.Great.Walk
import Derived.Laws.Bits64b
import Derived.Laws.Externs
import Derived.Test.YtodoaebpkmhhmaaA1
import Derived.Test.YtodoaebpkmhhmaaA2
import Derived.Test.YtodoaebpkmhhmaaA3
import Derived.Test.YtodoaebpkmhhmaaA4
import Derived.Test.YtodoaebpkmhhmaaA5
import Derived.Test.YtodoaebpkmhhmaaA6
import Derived.Test.YtodoaebpkmhhmaaA7
import Derived.Test.YtodoaebpkmhhmaaA8
import Derived.Test.YtodoaebpkmhhmaaA9
import Derived.Test.YtodoaebpkmhhmaaA10
import Derived.Test.YtodoaebpkmhhmaaA11
/-
  Of part Lives14: what is needed here.
-/
namespace Go.Proofs.Ytodoaebpkmhhmaa
open Go.RowKit
set_option linter.unusedVariables false
set_option maxRecDepth 100000
def a14 (c : Int) : LAcc := ⟨c, key0, 0⟩
theorem a14_ok {c : Int} (h : 0 ≤ c ∧ c < 18446744073709551616) : AccOk (a14 c) := ⟨h, key0_ok, zero_u64⟩
theorem built_a14 (c : Int) : Try.prog.built 48 [(0, .int .u64 c)] = some (a14 c).cells.toArray := by kernel_rfl
def l14 : List LAcc := [a14 10, blank13]
def e14 : List LAcc := [a14 7, a14 3]
theorem l14_ok : ∀ x ∈ l14, AccOk x := by
  intro x hx
  unfold l14 at hx
  simp only [List.mem_cons, List.not_mem_nil, or_false] at hx
  rcases hx with rfl | rfl
  · exact a14_ok (by omega)
  · exact blank_ok
theorem e14_ok : ∀ x ∈ e14, AccOk x := by
  intro x hx
  unfold e14 at hx
  simp only [List.mem_cons, List.not_mem_nil, or_false] at hx
  rcases hx with rfl | rfl <;> exact a14_ok (by omega)
theorem accs_two (x y : LAcc) : accsC [x, y] = x.cells ++ y.cells := by unfold accsC; simp
theorem two_in {w : World} {g B : Nat} {x y : LAcc} (h : Row w g 48 (x.cells ++ y.cells)) (ho : ∀ z ∈ [x, y], AccOk z) (hB : g < B) : AccsIn w B (some ⟨g, 0, none⟩) 2 [x, y] :=
  accs_row (ys := []) (by rw [accs_two, List.append_nil]; exact h) rfl ho hB
theorem mv_ins {w : World} {ga b : Nat} {D : Option Addr} {c dn : Nat} {d : List Int} (hr : Row w ga 5 (bv [0, 1])) (ho : OwnB w b (.slice D dn c) d) (hn : d.length = dn) (hd : AllBytes d) : InsAt14 w w.heap.size 1 (some ⟨ga, 0, none⟩) 2 2 D dn c [0, 1] d := by
  subst hn
  obtain ⟨A', c', h1, h2, h3, h4, h5⟩ := own_form2 ho
  cases h1
  refine ⟨by have := hr.sees0; rw [bv_length] at this; exact this, ho.sees, fun z hz => ?_, hd, ⟨Nat.le_refl _, by unfold maxLen; omega⟩, ⟨h3, h4⟩⟩
  simp only [List.mem_cons, List.not_mem_nil, or_false] at hz
  rcases hz with rfl | rfl <;> (unfold IsByte; omega)
theorem do_l1 : do14 l14 (b14 false) [0, 1] (mv14 3) = ⟨0, e14, 0⟩ := by kernel_rfl
theorem do_l2 : do14 l14 (b14 false) [0, 1] (mv14 11) = ⟨17, [], 0⟩ := by kernel_rfl
theorem do_l3 : do14 l14 (b14 false) [0, 1] (mv14 3 ++ [0]) = ⟨13, [], 0⟩ := by kernel_rfl
theorem b14_set : (b14C true).set 66 (.bool false) = b14C false := by kernel_rfl
/-- the example's accounts and roles -/
structure XLV14 (w V : World) (gl gr : Nat) (s : Bool) : Prop where
  b : Below w.heap.size w V
  rl : Row V gl 48 ((a14 10).cells ++ blank13.cells)
  rr : Row V gr 50 (b14C s)
section
variable {w V V' : World} {gl gr : Nat} {s : Bool}
theorem XLV14.below (h : XLV14 w V gl gr s) (hb : Below V.heap.size V V') : XLV14 w V' gl gr s := ⟨h.b.trans (hb.mono h.b.size), h.rl.below hb h.rl.lt, h.rr.below hb h.rr.lt⟩
theorem XLV14.alloc (h : XLV14 w V gl gr s) (o : Obj) : XLV14 w (V.alloc o) gl gr s := h.below ((Below.refl V.heap.size V).alloc (Nat.le_refl _) o)
theorem XLV14.turned (h : XLV14 w V gl gr s) {g : Nat} (ht : Turned V V' g) (h0 : w.heap.size ≤ g) (h1 : gl ≠ g) (h2 : gr ≠ g) : XLV14 w V' gl gr s := ⟨h.b.trans (ht.below h0), ht.row h.rl h1, ht.row h.rr h2⟩
theorem XLV14.under (h : XLV14 w V gl gr s) {B : Nat} (hb : Below B V V') (hB : w.heap.size ≤ B) (h1 : gl < B) (h2 : gr < B) : XLV14 w V' gl gr s := ⟨h.b.trans (hb.mono hB), h.rl.below hb h1, h.rr.below hb h2⟩
theorem XLV14.do_ (h : XLV14 w V gl gr false) {ga b : Nat} {D : Option Addr} {c dn : Nat} {d : List Int} (hr : Row V ga 5 (bv [0, 1])) (ho : OwnB V b (.slice D dn c) d) (hn : d.length = dn) (hd : AllBytes d) {e n : Int} {L : List LAcc} (hR : do14 l14 (b14 false) [0, 1] d = ⟨e, L, n⟩) :
    Calls Try.prog 12 #[.slice (some ⟨gl, 0, none⟩) 2 2, .slice (some ⟨gr, 0, none⟩) 2 2, .agg (insC 1 (some ⟨ga, 0, none⟩) 2 2 D dn c).toArray] V fun e' w' => ∃ v, e' = .returned (.tuple #[v, .int .u64 n, .int .i64 e]) ∧ OA14 w' V.heap.size v L ∧ Below V.heap.size V w' := by
  have := sysDo14 l14 (b14 false) 1 (some ⟨ga, 0, none⟩) 2 2 D dn c [0, 1] d (some ⟨gl, 0, none⟩) 2 2 (some ⟨gr, 0, none⟩) 2 2 V.heap.size V (two_in h.rl l14_ok h.rl.lt) (Nat.le_refl _) (b14_in h.rr h.rr.lt) (mv_ins hr ho hn hd) (Nat.le_refl _) (by omega) (by omega) (by omega)
  rw [hR] at this
  exact this
end
set_option maxHeartbeats 8000000 in
theorem lives14_ (w : World) : Calls Try.prog 9 #[] w fun e w' => e = .returned (.bool true) ∧ Below w.heap.size w w' := by
  have HA := Lib.hid built_a14
  have HM := Lib.hid (fun V => move14_ 3 V (by omega) (by omega))
  have HM2 := Lib.hid (fun V => move14_ 11 V (by omega) (by omega))
  have HL1 := Lib.hid do_l1
  have HL2 := Lib.hid do_l2
  have HL3 := Lib.hid do_l3
  have RL := Lib.hid (Row.new w 48 ((a14 10).cells ++ blank13.cells))
  have B0 := Lib.hid ((Below.refl w.heap.size w).alloc (Nat.le_refl _) (.cells ((a14 10).cells ++ blank13.cells).toArray 48))
  go_enter Try.func9, Try.ntmps9
  go_upto_region 2 with (first
    | ((with_reducible show wpList _ _ _ ({ dst := some 13, op := Op.build _ _, type := _, pos := _, after := _, guard := _ } :: _) _ _); go_must (refine wpList_plain rfl fun K hK => wp_built _ _ _ rfl (by simp only [List.map_toArray, List.map_cons, List.map_nil]; exact HA.out 10) (hK _ _ ?_)))
    | ((with_reducible show wpList _ _ _ ({ dst := some 14, op := Op.build _ _, type := _, pos := _, after := _, guard := _ } :: _) _ _); go_must (refine wpList_plain rfl fun K hK => wp_built _ _ _ rfl (by simp only [List.map_toArray, List.map_nil]; exact built_blank) (hK _ _ ?_)))
    | ((with_reducible show wpList _ _ _ ({ dst := some 15, op := Op.buildSlice _ _ _, type := _, pos := _, after := _, guard := _ } :: _) _ _); go_must (refine wpList_buildTwo rfl 22 48 (.tmp 13) (.tmp 14) rfl (a14 10).cells blank13.cells _ 34 48 Try.underlying22 infoAc14 zszAc14 (by omega) (by omega) rfl rfl ?_ ?_ ?_; go_simp; go_simp)))
  have HZ := Lib.hid (show w.heap.size < (w.alloc (.cells ((a14 10).cells ++ blank13.cells).toArray 48)).heap.size from RL.out.lt)
  generalize hW : w.alloc (.cells ((a14 10).cells ++ blank13.cells).toArray 48) = W at *
  clear hW
  obtain ⟨gl, hgl⟩ : ∃ g, g = w.heap.size := ⟨_, rfl⟩
  rw [← hgl] at RL ⊢
  go_wp2_with fail
  refine (both14_ W).mono ?_
  rintro e w1 ⟨rfl, hr1, hb1⟩
  have P1 : Hid (XLV14 w w1 gl W.heap.size true) := Lib.hid ⟨B0.out.trans (hb1.mono B0.out.size), RL.out.below hb1 RL.out.lt, hr1⟩
  obtain ⟨gr, hgr⟩ : ∃ g, g = W.heap.size := ⟨_, rfl⟩
  have HGR : Hid (w.heap.size ≤ gr ∧ gl ≠ gr) := Lib.hid (by have := HZ.out; omega)
  rw [← hgr] at P1 ⊢
  clear hr1 hb1 B0 RL hgr hgl HZ
  have crs := P1.out.rr.cell 66
  have frs := P1.out.rr.frozen 66
  go_upto_region 4 with fail
  have P2 := Lib.hid (XLV14.mk ((P1.out.b).trans ((turned_setCell w1 ⟨gr, 66, none⟩ (.bool false)).below HGR.out.1)) ((turned_setCell w1 ⟨gr, 66, none⟩ (.bool false)).row P1.out.rl HGR.out.2) (by have := P1.out.rr.set_ 66 (.bool false); rw [b14_set] at this; exact this))
  clear crs frs P1
  generalize hW2 : w1.setCell ⟨gr, 66, none⟩ (.bool false) = w2 at *
  clear hW2
  go_wp2_with fail
  refine (HM.out _).mono ?_
  rintro e w3 ⟨ga, D, c, rfl, hga, hra, hoa, hne, hb3⟩
  have P3 := Lib.hid (P2.out.below hb3)
  have HDO := Lib.hid (P3.out.do_ hra hoa (mv14_len 3) (mv14_bytes 3) HL1.out)
  clear hga hra hoa hne hb3 P2 HL1
  go_wp2_with fail
  refine HDO.out.mono ?_
  rintro e w4 ⟨v4, rfl, ho4, hb4⟩
  have P4 := Lib.hid (P3.out.below hb4)
  obtain ⟨A4, c4, rfl, hc4⟩ := ho4.form
  have HO4 := Lib.hid ho4
  have HC4 := Lib.hid hc4
  clear ho4 hb4 P3 HDO hc4
  go_wp2_with fail
  refine (HM2.out _).mono ?_
  rintro e w5 ⟨gb, D5, c5, rfl, hga, hra, hoa, hne, hb5⟩
  have P5 := Lib.hid (P4.out.below hb5)
  have HO5 := Lib.hid (HO4.out.below hb5)
  have HDO := Lib.hid (P5.out.do_ hra hoa (mv14_len 11) (mv14_bytes 11) HL2.out)
  clear hga hra hoa hne hb5 P4 HL2 HO4
  go_wp2_with fail
  refine HDO.out.mono ?_
  rintro e w6 ⟨v6, rfl, ho6, hb6⟩
  have P6 := Lib.hid (P5.out.below hb6)
  have HO6 := Lib.hid (HO5.out.below hb6)
  clear ho6 hb6 P5 HDO HO5
  go_wp2_with fail
  refine (HM.out _).mono ?_
  rintro e w7 ⟨ga, D, c, rfl, hga, hra, hoa, hne, hb7⟩
  have P7 := Lib.hid (P6.out.below hb7)
  have HO7 := Lib.hid (HO6.out.below hb7)
  have RA7 := Lib.hid hra
  have RO7 := Lib.hid hoa
  have NE7 := Lib.hid hne
  have HS7 := Lib.hid hb7.size
  have HS6 := Lib.hid (And.intro P6.out.rl.lt P6.out.rr.lt)
  have HS60 := Lib.hid P6.out.b.size
  have HV6 := Lib.hid (HO6.out.lt)
  clear hga hra hoa hne hb7 P6 HO6
  go_upto_region 7 with (first
    | ((with_reducible show wpList _ _ _ ({ dst := some 9, op := Op.alloc _, type := _, pos := _, after := _, guard := _ } :: _) _ _); go_must (refine wpList_alloc_zero rfl 26 rfl (insC 0 none 0 0 none 0 0) zero_ins14 ?_))
    | ((with_reducible show wpList _ _ _ ({ dst := none, op := Op.store 26 _ _, type := _, pos := _, after := _, guard := _ } :: _) _ _); go_must (refine wpList_store_new rfl 26 (.tmp 9) (.tmp 36) rfl (insC 1 (some ⟨ga, 0, none⟩) 2 2 D 12 c) (size_ins14 _ _ _ _ _ _ _) (ins14_one _ _ _ _ _ _ _) rfl ?_ ?_ ?_; go_simp; go_simp; intro w8 hr8 hb8 hz8)))
  obtain ⟨g9, hg9⟩ : ∃ g, g = w7.heap.size := ⟨_, rfl⟩
  rw [← hg9] at hr8 ⊢
  have P8 := Lib.hid (P7.out.below hb8)
  have HO8 := Lib.hid (HO7.out.below hb8)
  have RO8 := Lib.hid (RO7.out.below hb8)
  have RA8 := Lib.hid (RA7.out.below hb8 RA7.out.lt)
  have R98 := Lib.hid hr8
  have HS8 := Lib.hid (Nat.le_trans HS7.out hb8.size)
  have HG9 : Hid (w6.heap.size ≤ g9 ∧ ga < g9) := Lib.hid ⟨by rw [hg9]; exact HS7.out, by rw [hg9]; exact RA7.out.lt⟩
  have c82 : w8.cell? ⟨g9, 2, none⟩ = some (.slice D 12 c) := hr8.cell 2
  have f82 := hr8.frozen 2
  clear P7 HO7 RO7 RA7 HS7 hr8 hb8 hz8 hg9
  go_upto_region 8 with ((with_reducible show wpList _ _ _ ({ dst := some 40, op := _, type := _, pos := _, after := _, guard := _ } :: _) _ _); go_must (refine wpList_addLitg (w0 := w8) (by kernel_rfl) (.tmp 38) (.tmp 39) 24 rfl w6.heap.size Try.underlying24 info_u8 (.slice D 12 c) (mv14 3) [0] 1 rfl ?_ RO8.out ?_ HS8.out ?_ ?_; go_simp; go_simp; (rw [List.length_append, mv14_len]; decide); intro v9 w9 ho9 hg9; obtain ⟨D9, c9, hv9⟩ := ho9.form; rw [List.length_append, mv14_len] at hv9; subst hv9; have RO9 := Lib.hid ho9; have R99 := Lib.hid (R98.out.grown hg9.grown (own_row_ne RO8.out R98.out (by decide))); have RA9 := Lib.hid (RA8.out.grown hg9.grown (fun e => NE7.out ga e.symm rfl)); have HB9 := Lib.hid (hg9.below RO8.out HS8.out); have c92 : w9.cell? ⟨g9, 2, none⟩ = some (.slice D 12 c) := R99.out.cell 2; have f92 := R99.out.frozen 2; clear ho9 hg9 c82 f82))
  have P10 := Lib.hid ((P8.out.under HB9.out HS60.out HS6.out.1 HS6.out.2).turned (turned_setCell w9 ⟨g9, 2, none⟩ (.slice D9 13 c9)) (Nat.le_trans HS60.out HG9.out.1) (by have := HS6.out.1; have := HG9.out.1; show _ ≠ g9; omega) (by have := HS6.out.2; have := HG9.out.1; show _ ≠ g9; omega))
  have HO10 := Lib.hid ((HO8.out.keep fun g hg => HB9.out.block g (HV6.out g hg).2).keep fun g hg => (turned_setCell w9 ⟨g9, 2, none⟩ (.slice D9 13 c9)).block g (by have := (HV6.out g hg).2; have := HG9.out.1; show g ≠ g9; omega))
  have RA10 := Lib.hid ((turned_setCell w9 ⟨g9, 2, none⟩ (.slice D9 13 c9)).row RA9.out (by have := HG9.out.2; show ga ≠ g9; omega))
  have RO10 := Lib.hid (own14_turned RO9.out (turned_setCell w9 ⟨g9, 2, none⟩ (.slice D9 13 c9)) (fun k hk e => own_row_ne RO9.out R99.out (by decide) (by rw [hk]; exact congrArg some e.symm)))
  have R910 : Hid (Row (w9.setCell ⟨g9, 2, none⟩ (.slice D9 13 c9)) g9 26 (insC 1 (some ⟨ga, 0, none⟩) 2 2 D9 13 c9)) := Lib.hid (R99.out.set_ 2 (.slice D9 13 c9))
  clear c92 f92 P8 HO8 RA8 RO8 R98 RA9 RO9 R99 HB9 HV6
  generalize hW10 : w9.setCell ⟨g9, 2, none⟩ (.slice D9 13 c9) = w10 at *
  clear hW10
  have HDO := Lib.hid (P10.out.do_ RA10.out RO10.out (show (mv14 3 ++ [0]).length = 13 by rw [List.length_append, mv14_len]; rfl) (fun z hz => by
    rcases List.mem_append.1 hz with h | h
    · exact mv14_bytes 3 z h
    · simp only [List.mem_cons, List.not_mem_nil, or_false] at h; subst h; unfold IsByte; omega) HL3.out)
  go_wp2_with ((with_reducible show wpList _ _ _ ({ dst := some 45, op := Op.load _ _, type := _, pos := _, after := _, guard := _ } :: _) _ _); go_must (refine wpList_load_whole rfl 26 (.tmp 9) rfl g9 26 (insC 1 (some ⟨ga, 0, none⟩) 2 2 D9 13 c9) _ Try.underlying26 rfl (size_ins14 _ _ _ _ _ _ _) R910.out ?_ ?_; go_simp))
  refine HDO.out.mono ?_
  rintro e w11 ⟨v11, rfl, ho11, hb11⟩
  have P11 := Lib.hid (P10.out.below hb11)
  have HO11 := Lib.hid (HO10.out.below hb11)
  clear ho11 hb11 P10 HO10 RA10 RO10 R910 HDO
  go_wp2_with (first
    | ((with_reducible show wpList _ _ _ ({ dst := some 51, op := Op.build _ _, type := _, pos := _, after := _, guard := _ } :: _) _ _); go_must (refine wpList_plain rfl fun K hK => wp_built _ _ _ rfl (by simp only [List.map_toArray, List.map_cons, List.map_nil]; exact HA.out 7) (hK _ _ ?_)))
    | ((with_reducible show wpList _ _ _ ({ dst := some 52, op := Op.build _ _, type := _, pos := _, after := _, guard := _ } :: _) _ _); go_must (refine wpList_plain rfl fun K hK => wp_built _ _ _ rfl (by simp only [List.map_toArray, List.map_cons, List.map_nil]; exact HA.out 3) (hK _ _ ?_)))
    | ((with_reducible show wpList _ _ _ ({ dst := some 53, op := Op.buildSlice _ _ _, type := _, pos := _, after := _, guard := _ } :: _) _ _); go_must (refine wpList_buildTwo rfl 22 48 (.tmp 51) (.tmp 52) rfl (a14 7).cells (a14 3).cells _ 34 48 Try.underlying22 infoAc14 zszAc14 (by omega) (by omega) rfl rfl ?_ ?_ ?_; go_simp; go_simp)))
  have hb12 := (Below.refl w11.heap.size w11).alloc (Nat.le_refl _) (.cells ((a14 7).cells ++ (a14 3).cells).toArray 48)
  refine (show Calls Try.prog 14 #[.slice A4 e14.length c4, .slice (some ⟨w11.heap.size, 0, none⟩) 2 2] _ _ from sameAccs A4 (some ⟨w11.heap.size, 0, none⟩) 2 c4 2 e14 _ _ _ ((HO11.out.accs rfl).below hb12) (two_in (Row.new w11 48 ((a14 7).cells ++ (a14 3).cells)) e14_ok (Row.new w11 48 ((a14 7).cells ++ (a14 3).cells)).lt) (by unfold maxLen; omega)).mono ?_
  rintro e w12 ⟨rfl, k12, rfl⟩
  have P12 := Lib.hid (P11.out.below hb12)
  clear hb12
  go_wp2_with fail
  go_ret
  exact ⟨rfl, P12.out.b.trans ⟨rfl, rfl, rfl, Nat.le_refl _, fun _ _ => rfl⟩⟩
end Go.Proofs.Ytodoaebpkmhhmaa

/-
  Of part Open7: what is needed here.
-/
namespace Go.Proofs.Ytodoaebpkmhhmaa
open Go.ChangeShapes Go.WideShapes Go.RowKit
set_option linter.unusedVariables false
set_option maxRecDepth 100000
theorem cellsRole : Try.prog.cellsOf 50 = 34 := by kernel_rfl
theorem bytesRole : Try.prog.bytesOf 50 = 34 := by kernel_rfl
theorem csIn_of {sz : Nat} {w : World} {B : Nat} {A : Option Addr} {n : Nat} {l : List (List Value)} (h0 : 0 < sz) (hn : l.length = n) (h : ∀ (i : Nat) x, l[i]? = some x → x.length = sz ∧ ∃ a, A = some a ∧ a.block < B ∧ ∀ j u, x[j]? = some u → w.cell? (a.add (i * sz + j)) = some u) : CsIn sz w B A n l := by
  have he : ∀ k ∈ l, k.length = sz := fun k hk => by
    obtain ⟨i, hi, rfl⟩ := List.getElem_of_mem hk
    exact (h i _ (List.getElem?_eq_getElem hi)).1
  refine ⟨hn, he, by rw [cs_flat he, hn], fun i u hu => ?_⟩
  have hi := (List.getElem?_eq_some_iff.1 hu).1
  rw [cs_flat he] at hi
  have hk : i / sz < l.length := (Nat.div_lt_iff_lt_mul h0).2 hi
  obtain ⟨h1, a, rfl, h2, h3⟩ := h (i / sz) _ (List.getElem?_eq_getElem hk)
  refine ⟨_, rfl, h2, ?_⟩
  have hj : i % sz < sz := Nat.mod_lt _ h0
  obtain ⟨v, hv⟩ : ∃ v, (l[i / sz])[i % sz]? = some v := ⟨_, List.getElem?_eq_getElem (by rw [h1]; exact hj)⟩
  have hf := flatten_at sz l (i / sz) _ (fun i y hy => he y (List.mem_of_getElem? hy)) (List.getElem?_eq_getElem hk) _ _ hv
  have hmm : i / sz * sz + i % sz = i := by rw [Nat.mul_comm]; exact Nat.div_add_mod i sz
  rw [hmm, hu] at hf
  obtain rfl := Option.some.inj hf
  have := h3 _ _ hv
  rwa [hmm] at this
section
variable {H : Type} {enc : TypeId × Value → H} {w : World} {base b0 : Nat} {held : Bool}
theorem open_role {fuel : Nat} {cs : List Value} {x : DataW H × List MemPlace} (hf : DataW.trod enc Try.prog w base (fun _ => true) held fuel 50 cs = some x) (e3 : cs.length = 34) : ∃ r : LRole, cs = r.cells ∧ RoleOk r := by
  obtain ⟨y0, y1, y2, k, _, hl, t0, t1, t2⟩ := Go.Deep.trod_struct3 Try.underlying50 hf
  have t0' : DataW.trod enc Try.prog w base (fun _ => true) held k 46 (cs.take 32) = some y0 := by simpa [cellsKey] using t0
  obtain ⟨z, hz, hz1, hz2⟩ := open_32 Try.underlying46 cellsKey t0'
  obtain ⟨c1, c2, hc12⟩ : ∃ c1 c2, cs.drop 32 = [c1, c2] := two_of (by rw [List.length_drop, e3])
  have hcs : cs = bv z ++ [c1, c2] := by rw [← hz, ← hc12, List.take_append_drop]
  have t1' : DataW.trod enc Try.prog w base (fun _ => true) held k 4 [c1] = some y1 := by
    have := t1
    simp only [cellsBool] at this
    rw [hc12] at this
    exact this
  have t2' : DataW.trod enc Try.prog w base (fun _ => true) held k 4 [c2] = some y2 := by
    have := t2
    simp only [cellsBool] at this
    rw [show (33 : Nat) = 32 + 1 from rfl, ← List.drop_drop, hc12] at this
    exact this
  obtain ⟨b1, hb1, _⟩ := DataW.trod_bool Try.underlying4 t1'
  obtain ⟨b2, hb2, _⟩ := DataW.trod_bool Try.underlying4 t2'
  obtain rfl : c1 = .bool b1 := by simpa using hb1
  obtain rfl : c2 = .bool b2 := by simpa using hb2
  exact ⟨⟨z, b1, b2⟩, hcs, hz1, hz2⟩
theorem open_roles_v {A : Option Addr} {n c : Nat} {d : DataW H} {p : List MemPlace} (h : DataW.Trod enc Try.prog w base (fun _ => true) held 23 (.slice A n c) d p) (hw : Wt 23 d) :
    ∃ l, n ≤ c ∧ c ≤ maxLen ∧ RolesIn w w.heap.size A n l ∧ l.length ≤ 140737488355328 := by
  obtain ⟨fuel, hf⟩ := h
  obtain ⟨A', n', c', hcs, h1, h2, h3, h4⟩ := open_sl (cs := [.slice A n c]) Try.underlying23 (by rw [cellsRole]; omega) hf hw
  obtain ⟨rfl, rfl, rfl⟩ : A = A' ∧ n = n' ∧ c = c' := by simpa using hcs
  rw [bytesRole] at h3
  have := reach47
  obtain ⟨l, hl, hp⟩ := list_of (α := LRole) (p := fun i z => RoleOk z ∧ ∃ a, A = some a ∧ a.block < w.heap.size ∧ ∀ j u, z.cells[j]? = some u → w.cell? (a.add (i * 34 + j)) = some u) n fun i hi => by
    obtain ⟨a, cs', y, m, e1, e2, e3, e4, e5, _⟩ := h4 i hi
    rw [cellsRole] at e3 e4
    obtain ⟨z, rfl, hz⟩ := open_role e5 e3
    exact ⟨z, hz, a, e1, e2, e4⟩
  subst hl
  refine ⟨l, h1, h2, ⟨csIn_of (by omega) (by simp) fun i x hx => ?_, fun r hr => ?_⟩, by omega⟩
  · rw [List.getElem?_map] at hx
    obtain ⟨r, hr, rfl⟩ := Option.map_eq_some_iff.1 hx
    exact ⟨role_len (hp i r hr).1.1, (hp i r hr).2⟩
  · obtain ⟨i, hi, rfl⟩ := List.getElem_of_mem hr
    exact (hp i _ (List.getElem?_eq_getElem hi)).1
end
end Go.Proofs.Ytodoaebpkmhhmaa

/-
  Of part Acts13: what is needed here.
-/
namespace Go.Proofs.Ytodoaebpkmhhmaa
open Go.ChangeShapes Go.WideShapes Go.RowKit
set_option linter.unusedVariables false
set_option maxRecDepth 100000
theorem u64_wf13 {z : Int} (h : (Lit.int .u64 z).wf = true) : 0 ≤ z ∧ z < 18446744073709551616 := by
  have h' : (decide ((0 : Int) ≤ z) && decide (z ≤ 18446744073709551615)) = true := h
  rw [Bool.and_eq_true, decide_eq_true_iff, decide_eq_true_iff] at h'
  omega
theorem cellsAcc13 : Try.prog.cellsOf 48 = 34 := by kernel_rfl
theorem cellsU64_13 : Try.prog.cellsOf 33 = 1 := by kernel_rfl
theorem three13 {α : Type} {xs : List α} (h : xs.length = 3) : ∃ a b c, xs = [a, b, c] := by
  match xs, h with
  | [a, b, c], _ => exact ⟨a, b, c, rfl⟩
section
variable {H : Type} {enc : TypeId × Value → H} {w : World} {base b0 : Nat} {held : Bool}
theorem open_acc {fuel : Nat} {cs : List Value} {x : DataW H × List MemPlace} (hf : DataW.trod enc Try.prog w base (fun _ => true) held fuel 48 cs = some x) : ∃ a : LAcc, cs = a.cells ∧ AccOk a := by
  obtain ⟨xs, n, _, hx, hl, hlen, ht⟩ := DataW.trod_struct Try.underlying48 hf
  rw [cellsAcc13] at hl
  obtain ⟨y0, y1, y2, rfl⟩ := three13 hlen
  have t0 : DataW.trod enc Try.prog w base (fun _ => true) held n 33 ((cs.drop 0).take 1) = some y0 := by rw [← cellsU64_13]; exact ht 0 _ rfl
  have t1 : DataW.trod enc Try.prog w base (fun _ => true) held n 46 ((cs.drop 1).take 32) = some y1 := by rw [← cellsKey]; exact ht 1 _ rfl
  have t2 : DataW.trod enc Try.prog w base (fun _ => true) held n 33 ((cs.drop 33).take 1) = some y2 := by rw [← cellsU64_13]; exact ht 2 _ rfl
  have hsplit : cs = (cs.drop 0).take 1 ++ ((cs.drop 1).take 32 ++ (cs.drop 33).take 1) := by
    have e5 : cs.drop 33 = (cs.drop 33).take 1 := (List.take_of_length_le (by rw [List.length_drop]; omega)).symm
    rw [← e5, ← cut cs 1 32 33 rfl, ← cut cs 0 1 1 rfl]
    rfl
  obtain ⟨c0, hc0⟩ := one_of (cs := (cs.drop 0).take 1) (by simp; omega)
  obtain ⟨c2, hc2⟩ := one_of (cs := (cs.drop 33).take 1) (by simp; omega)
  rw [hc0] at t0
  rw [hc2] at t2
  obtain ⟨i0, hi0, _, wi0⟩ := DataW.trod_int Try.underlying33 t0
  obtain rfl : c0 = .int .u64 i0 := by simpa using hi0
  obtain ⟨i2, hi2, _, wi2⟩ := DataW.trod_int Try.underlying33 t2
  obtain rfl : c2 = .int .u64 i2 := by simpa using hi2
  obtain ⟨z, hz, hz1, hz2⟩ := open_32 Try.underlying46 cellsKey t1
  refine ⟨⟨i0, z, i2⟩, ?_, ⟨u64_wf13 wi0, ⟨hz1, hz2⟩, u64_wf13 wi2⟩⟩
  rw [hsplit, hc0, hz, hc2]
  rfl
theorem csIn_of13 {sz : Nat} {w : World} {B : Nat} {A : Option Addr} {n : Nat} {l : List (List Value)} (h0 : 0 < sz) (hn : l.length = n) (h : ∀ (i : Nat) x, l[i]? = some x → x.length = sz ∧ ∃ a, A = some a ∧ a.block < B ∧ ∀ j u, x[j]? = some u → w.cell? (a.add (i * sz + j)) = some u) : CsIn sz w B A n l := by
  have he : ∀ k ∈ l, k.length = sz := fun k hk => by
    obtain ⟨i, hi, rfl⟩ := List.getElem_of_mem hk
    exact (h i _ (List.getElem?_eq_getElem hi)).1
  refine ⟨hn, he, by rw [cs_flat he, hn], fun i u hu => ?_⟩
  have hi := (List.getElem?_eq_some_iff.1 hu).1
  rw [cs_flat he] at hi
  have hk : i / sz < l.length := (Nat.div_lt_iff_lt_mul h0).2 hi
  obtain ⟨h1, a, rfl, h2, h3⟩ := h (i / sz) _ (List.getElem?_eq_getElem hk)
  refine ⟨_, rfl, h2, ?_⟩
  have hj : i % sz < sz := Nat.mod_lt _ h0
  obtain ⟨v, hv⟩ : ∃ v, (l[i / sz])[i % sz]? = some v := ⟨_, List.getElem?_eq_getElem (by rw [h1]; exact hj)⟩
  have hf := flatten_at sz l (i / sz) _ (fun i y hy => he y (List.mem_of_getElem? hy)) (List.getElem?_eq_getElem hk) _ _ hv
  have hmm : i / sz * sz + i % sz = i := by rw [Nat.mul_comm]; exact Nat.div_add_mod i sz
  rw [hmm, hu] at hf
  obtain rfl := Option.some.inj hf
  have := h3 _ _ hv
  rwa [hmm] at this
end
end Go.Proofs.Ytodoaebpkmhhmaa

/-
  Of part Open14: what is needed here.
-/
namespace Go.Proofs.Ytodoaebpkmhhmaa
open Go.ChangeShapes Go.WideShapes Go.RowKit
set_option linter.unusedVariables false
set_option maxRecDepth 100000
theorem cellsLAcc14 : Try.prog.cellsOf 22 = 1 := by kernel_rfl
theorem cellsLRole14 : Try.prog.cellsOf 23 = 1 := by kernel_rfl
theorem cellsIns14 : Try.prog.cellsOf 26 = 3 := by kernel_rfl
theorem cellsAsked14 : Try.prog.cellsOf 28 = 5 := by kernel_rfl
/-- a parameter: accounts, roles, an instruction -/
structure Q14 where
  l : List LAcc
  r : List LRole
  p : Int
  acc : List Int
  dat : List Int
/-- where it lies -/
structure QA14 where
  LA : Option Addr
  ln : Nat
  lc : Nat
  RA : Option Addr
  rn : Nat
  rc : Nat
  IA : Option Addr
  n : Nat
  c : Nat
  D : Option Addr
  dn : Nat
  dc : Nat
def QA14.ins (q : QA14) (x : Q14) : List Value := insC x.p q.IA q.n q.c q.D q.dn q.dc
def QA14.cells (q : QA14) (x : Q14) : List Value := .slice q.LA q.ln q.lc :: .slice q.RA q.rn q.rc :: q.ins x
structure QIn14 (w : World) (B : Nat) (q : QA14) (x : Q14) : Prop where
  l : AccsIn w B q.LA q.ln x.l
  lc : q.ln ≤ q.lc ∧ q.lc ≤ maxLen
  r : RolesIn w B q.RA q.rn x.r
  rc : q.rn ≤ q.rc ∧ q.rc ≤ maxLen
  i : InsAt14 w B x.p q.IA q.n q.c q.D q.dn q.dc x.acc x.dat
theorem QIn14.below {w w' : World} {B : Nat} {q : QA14} {x : Q14} (h : QIn14 w B q x) (hb : Below B w w') : QIn14 w' B q x := ⟨h.l.below hb, h.lc, h.r.below hb, h.rc, h.i.below hb⟩
section
variable {H : Type} {enc : TypeId × Value → H} {w : World} {base b0 : Nat} {held : Bool}
theorem open_accs14 {fuel : Nat} {c0 : Value} {x : DataW H × List MemPlace} (hf : DataW.trod enc Try.prog w base (fun _ => true) held fuel 22 [c0] = some x) (hw : Wt 22 x.1) :
    ∃ A n c l, c0 = .slice A n c ∧ (n ≤ c ∧ c ≤ maxLen) ∧ AccsIn w w.heap.size A n l := by
  obtain ⟨A, n, c, hcs, h1, h2, h3, h4⟩ := open_sl (cs := [c0]) Try.underlying22 (by rw [cellsAcc13]; omega) hf hw
  obtain rfl : c0 = .slice A n c := by simpa using hcs
  obtain ⟨l, hl, hp⟩ := list_of (α := LAcc) (p := fun i z => AccOk z ∧ ∃ a, A = some a ∧ a.block < w.heap.size ∧ ∀ j u, z.cells[j]? = some u → w.cell? (a.add (i * 34 + j)) = some u) n fun i hi => by
    obtain ⟨a, cs', y, m, e1, e2, e3, e4, e5, _⟩ := h4 i hi
    rw [cellsAcc13] at e3 e4
    obtain ⟨z, rfl, hz⟩ := open_acc e5
    exact ⟨z, hz, a, e1, e2, e4⟩
  subst hl
  refine ⟨A, l.length, c, l, rfl, ⟨h1, h2⟩, ⟨rfl, fun r hr => ?_, (csIn_of13 (sz := 34) (l := l.map LAcc.cells) (by omega) (by simp) fun i x hx => ?_).sees⟩⟩
  · obtain ⟨i, hi, rfl⟩ := List.getElem_of_mem hr
    exact (hp i _ (List.getElem?_eq_getElem hi)).1
  · rw [List.getElem?_map] at hx
    obtain ⟨r, hr, rfl⟩ := Option.map_eq_some_iff.1 hx
    exact ⟨acc_len (hp i r hr).1.o.1, (hp i r hr).2⟩
theorem open_roles14 {fuel : Nat} {c0 : Value} {x : DataW H × List MemPlace} (hf : DataW.trod enc Try.prog w base (fun _ => true) held fuel 23 [c0] = some x) (hw : Wt 23 x.1) :
    ∃ A n c l, c0 = .slice A n c ∧ (n ≤ c ∧ c ≤ maxLen) ∧ RolesIn w w.heap.size A n l := by
  obtain ⟨A, n, c, hcs, h1, h2, h3, h4⟩ := open_sl (cs := [c0]) Try.underlying23 (by rw [cellsRole]; omega) hf hw
  obtain rfl : c0 = .slice A n c := by simpa using hcs
  obtain ⟨l, k1, k2, k3, _⟩ := open_roles_v (A := A) (n := n) (c := c) (d := x.1) (p := x.2) ⟨fuel, hf⟩ hw
  exact ⟨A, n, c, l, rfl, ⟨k1, k2⟩, k3⟩
theorem wt_asked14 {y0 y1 y2 : DataW H} (h : Wt 28 (.agg [y0, y1, y2])) : Wt 22 y0 ∧ Wt 23 y1 ∧ Wt 26 y2 := by
  refine ⟨fun n hn => h n ?_, fun n hn => h n ?_, fun n hn => h n ?_⟩ <;> simp only [DataW.weights, Try.underlying28] <;> simp [DataW.weightsEach, hn]
theorem two14_of {cs : List Value} (h : cs.length = 5) : ∃ a b c d e, cs = [a, b, c, d, e] := by
  match cs, h with
  | [a, b, c, d, e], _ => exact ⟨a, b, c, d, e, rfl⟩
theorem open_ins14 {fuel : Nat} {c0 c1 c2 : Value} {x : DataW H × List MemPlace} (hf : DataW.trod enc Try.prog w base (fun _ => true) held fuel 26 [c0, c1, c2] = some x) (hw : Wt 26 x.1) :
    ∃ p IA n c D dn dc acc dat, [c0, c1, c2] = insC p IA n c D dn dc ∧ InsAt14 w w.heap.size p IA n c D dn dc acc dat := by
  obtain ⟨y0, y1, y2, k, hk, hl, t0, t1, t2⟩ := Go.Deep.trod_struct3 Try.underlying26 hf
  have hx1 : x.1 = .agg [y0.1, y1.1, y2.1] := congrArg Prod.fst hk
  rw [hx1] at hw
  obtain ⟨w1, w2⟩ := wt_in hw
  have t0' : DataW.trod enc Try.prog w base (fun _ => true) held k 5 [c0] = some y0 := by simpa [cellsU8] using t0
  have t1' : DataW.trod enc Try.prog w base (fun _ => true) held k 24 [c1] = some y1 := by simpa [cellsBs] using t1
  have t2' : DataW.trod enc Try.prog w base (fun _ => true) held k 24 [c2] = some y2 := by simpa [cellsBs] using t2
  obtain ⟨z, hz, _, hz'⟩ := DataW.trod_int Try.underlying5 t0'
  obtain rfl : c0 = .int .u8 z := by simpa using hz
  obtain ⟨la, a1, a2, a3⟩ := open_bytes t1' w1
  obtain ⟨ld, d1, d2, d3⟩ := open_bytes t2' w2
  obtain ⟨A, c, rfl, s1, s2, s3⟩ := a1.is
  obtain ⟨A', c', rfl, s1', s2', s3'⟩ := d1.is
  exact ⟨z, A, la.length, c, A', ld.length, c', la, ld, rfl, ⟨s1, s1', a2, d2, ⟨s2, s3⟩, ⟨s2', s3'⟩⟩⟩
theorem open_asked14 {r : Reach} {v : Value} {d : DataW H} {p : List MemPlace} (hv : Value.okWide Try.prog w r b0 28 v) (h : DataW.Trod enc Try.prog w base (fun _ => true) held 28 v d p) (hw : Wt 28 d) :
    ∃ (q : QA14) (x : Q14), v = .agg (q.cells x).toArray ∧ QIn14 w w.heap.size q x := by
  simp only [Value.okWide, Try.underlying28] at hv
  obtain ⟨arr, rfl, h2, _⟩ := hv
  obtain ⟨fuel, hf⟩ := h
  obtain ⟨y0, y1, y2, k, hk, hl, t0, t1, t2⟩ := Go.Deep.trod_struct3 Try.underlying28 hf
  rw [cellsAsked14] at hl
  have hl' : arr.toList.length = 5 := hl
  obtain ⟨c0, c1, c2, c3, c4, hc⟩ := two14_of hl'
  have hx1 : d = .agg [y0.1, y1.1, y2.1] := by simpa using congrArg Prod.fst hk
  rw [hx1] at hw
  obtain ⟨w0, w1, w2⟩ := wt_asked14 hw
  have hc' : (Value.agg arr).cells.toList = [c0, c1, c2, c3, c4] := hc
  rw [hc'] at t0 t1 t2
  have t0' : DataW.trod enc Try.prog w base (fun _ => true) held k 22 [c0] = some y0 := by simpa [cellsLAcc14] using t0
  have t1' : DataW.trod enc Try.prog w base (fun _ => true) held k 23 [c1] = some y1 := by simpa [cellsLRole14] using t1
  have t2' : DataW.trod enc Try.prog w base (fun _ => true) held k 26 [c2, c3, c4] = some y2 := by simpa [cellsIns14] using t2
  obtain ⟨LA, ln, lc, l, rfl, l1, l2⟩ := open_accs14 t0' w0
  obtain ⟨RA, rn, rc, r', rfl, r1, r2⟩ := open_roles14 t1' w1
  obtain ⟨z, IA, n, c, D, dn, dc, acc, dat, hi, hin⟩ := open_ins14 t2' w2
  refine ⟨⟨LA, ln, lc, RA, rn, rc, IA, n, c, D, dn, dc⟩, ⟨l, r', z, acc, dat⟩, ?_, ⟨l2, l1, r2, r1, hin⟩⟩
  have : arr = (arr.toList).toArray := by simp
  rw [this, hc]
  show Value.agg (.slice LA ln lc :: .slice RA rn rc :: [c2, c3, c4]).toArray = Value.agg (.slice LA ln lc :: .slice RA rn rc :: insC z IA n c D dn dc).toArray
  rw [hi]
end
end Go.Proofs.Ytodoaebpkmhhmaa

/-
  Of part Great14: what is needed here.
-/
namespace Go.Proofs.Ytodoaebpkmhhmaa
open Go.RowKit
set_option linter.unusedVariables false
set_option maxRecDepth 100000
def Big14 (q : QA14) : Prop := 200 < q.ln ∨ 200 < q.rn ∨ 300 < q.n ∨ 1000 < q.dn
instance (q : QA14) : Decidable (Big14 q) := inferInstanceAs (Decidable (200 < q.ln ∨ 200 < q.rn ∨ 300 < q.n ∨ 1000 < q.dn))
theorem InsAt14.more14 {w : World} {B B' : Nat} {p : Int} {IA : Option Addr} {n c : Nat} {D : Option Addr} {dn dc : Nat} {acc dat : List Int} (h : InsAt14 w B p IA n c D dn dc acc dat) (hB : B ≤ B') : InsAt14 w B' p IA n c D dn dc acc dat := ⟨h.aSees.more hB, h.dSees.more hB, h.ab, h.db, h.ac, h.dc⟩
theorem size_asked14 (q : QA14) (x : Q14) : (Try.prog.info? 28).map (·.size) = some (q.cells x).length := by
  show _ = some 5
  kernel_rfl
section
variable {w V V' : World} {g : Nat} {q : QA14} {x : Q14}
theorem asked_0 (h : Row V g 28 (q.cells x)) : V.cell? ⟨g, 0, none⟩ = some (.slice q.LA q.ln q.lc) := h.cell 0
theorem asked_1 (h : Row V g 28 (q.cells x)) : V.cell? ⟨g, 1, none⟩ = some (.slice q.RA q.rn q.rc) := h.cell 1
theorem asked_3 (h : Row V g 28 (q.cells x)) : V.cell? ⟨g, 3, none⟩ = some (.slice q.IA q.n q.c) := h.cell 3
theorem asked_4 (h : Row V g 28 (q.cells x)) : V.cell? ⟨g, 4, none⟩ = some (.slice q.D q.dn q.dc) := h.cell 4
theorem asked_i (h : Row V g 28 (q.cells x)) : ∀ j u, (q.ins x)[j]? = some u → V.cell? ((⟨g, 2, none⟩ : Addr).add j) = some u := fun j u hu => by
  rw [addr_row, h.cell, Nat.add_comm]
  exact hu
end
theorem great14_ (q : QA14) (x : Q14) (w : World) : Calls Try.prog 8 #[.agg (q.cells x).toArray] w fun e w' => e = .returned (.bool (decide (Big14 q))) ∧ Below w.heap.size w w' := by
  have R := Lib.hid (Row.new w 28 (q.cells x))
  have HB := Lib.hid ((Below.refl w.heap.size w).alloc (Nat.le_refl _) (.cells (q.cells x).toArray 28))
  obtain ⟨g, hg⟩ : ∃ g, g = w.heap.size := ⟨_, rfl⟩
  have HG : Hid (w.heap.size = g) := Lib.hid hg.symm
  rw [← hg] at R
  clear hg
  generalize hW : w.alloc (.cells (q.cells x).toArray 28) = W at *
  have HW := Lib.hid hW
  clear hW
  by_cases h1 : (200 : Int) < q.ln
  · have HD : Hid (decide (Big14 q) = true) := Lib.hid (decide_eq_true (Or.inl (by omega)))
    have d0 := asked_0 R.out
    have d1 := asked_1 R.out
    have d3 := asked_3 R.out
    have d4 := asked_4 R.out
    go_enter Try.func8, Try.ntmps8
    go_upto_region 1 with fail
    try rw [HG.out]
    rw [HW.out]
    clear HG HW
    go_wp2_with fail
    go_ret
    exact ⟨by rw [HD.out]; rfl, HB.out⟩
  by_cases h2 : (200 : Int) < q.rn
  · have HD : Hid (decide (Big14 q) = true) := Lib.hid (decide_eq_true (Or.inr (Or.inl (by omega))))
    have d0 := asked_0 R.out
    have d1 := asked_1 R.out
    have d3 := asked_3 R.out
    have d4 := asked_4 R.out
    go_enter Try.func8, Try.ntmps8
    go_upto_region 1 with fail
    try rw [HG.out]
    rw [HW.out]
    clear HG HW
    go_wp2_with fail
    go_ret
    exact ⟨by rw [HD.out]; rfl, HB.out⟩
  by_cases h3 : (300 : Int) < q.n
  · have HD : Hid (decide (Big14 q) = true) := Lib.hid (decide_eq_true (Or.inr (Or.inr (Or.inl (by omega)))))
    have d0 := asked_0 R.out
    have d1 := asked_1 R.out
    have d3 := asked_3 R.out
    have d4 := asked_4 R.out
    go_enter Try.func8, Try.ntmps8
    go_upto_region 1 with fail
    try rw [HG.out]
    rw [HW.out]
    clear HG HW
    go_wp2_with fail
    go_ret
    exact ⟨by rw [HD.out]; rfl, HB.out⟩
  by_cases h4 : (1000 : Int) < q.dn
  · have HD : Hid (decide (Big14 q) = true) := Lib.hid (decide_eq_true (Or.inr (Or.inr (Or.inr (by omega)))))
    have d0 := asked_0 R.out
    have d1 := asked_1 R.out
    have d3 := asked_3 R.out
    have d4 := asked_4 R.out
    go_enter Try.func8, Try.ntmps8
    go_upto_region 1 with fail
    try rw [HG.out]
    rw [HW.out]
    clear HG HW
    go_wp2_with fail
    go_ret
    exact ⟨by rw [HD.out]; rfl, HB.out⟩
  · have HD : Hid (decide (Big14 q) = false) := Lib.hid (decide_eq_false (by unfold Big14; omega))
    have d0 := asked_0 R.out
    have d1 := asked_1 R.out
    have d3 := asked_3 R.out
    have d4 := asked_4 R.out
    go_enter Try.func8, Try.ntmps8
    go_upto_region 1 with fail
    try rw [HG.out]
    rw [HW.out]
    clear HG HW
    go_wp2_with fail
    go_ret
    exact ⟨by rw [HD.out]; rfl, HB.out⟩
/-- accounts of the call's own as a page -/
theorem oa_sl14 {w : World} {base : Nat} {v : Value} {L : List LAcc} (h : OA14 w base v L) : ∃ x : Sl, v = x.val := by
  obtain ⟨A, c, c', rfl, h1, h2, h3⟩ := h.is
  rcases h3.2 with ⟨e, h0⟩ | ⟨g, cap, cur, e, _⟩
  · injection e with e _ _
    subst e
    exact ⟨⟨none, L.length, c⟩, rfl⟩
  · injection e with e _ _
    subst e
    exact ⟨⟨some g, L.length, c⟩, rfl⟩
theorem oa_fit14 {w : World} {base : Nat} {x : Sl} {L : List LAcc} (h : OA14 w base x.val L) : SlFit w (x, Kd.ac) := by
  obtain ⟨A, c, c', e, h1, h2, h3⟩ := h.is
  obtain ⟨xA, n, xc⟩ := x
  unfold Sl.val at e
  injection e with e1 e2 e3
  have e2 : n = L.length := e2
  have e3 : xc = c := e3
  subst e2 e3
  rw [← e1] at h3
  rcases h3.2 with ⟨e, h0⟩ | ⟨g, cap, cur, e, hg, hh, r1, r2, r3, r4⟩
  · injection e with ea _ ec
    have ec : c' = 0 := ec
    cases xA with
    | none => exact ⟨h0, by show xc = 0; omega⟩
    | some g => cases ea
  · injection e with ea _ ec
    have ec : c' = cap := ec
    cases xA with
    | none => cases ea
    | some g' =>
      injection ea with ea
      injection ea with ea
      have ea : g' = g := ea
      subst ea ec
      unfold maxLen at r2
      refine ⟨h1, Nat.le_trans h2 (by omega), cur.toList, ⟨hh⟩, ?_, fun h => ?_⟩
      · show xc * 34 ≤ cur.toList.length
        rw [Array.length_toList, r3]
        exact Nat.mul_le_mul_right _ h2
      · have h : (34 : Nat) = 64 := h
        omega
theorem sl_own14 {x : Sl} {g : Nat} (h : x.A = some g) : x.val.ownBlock = some g := by
  unfold Sl.val
  rw [h]
  rfl
end Go.Proofs.Ytodoaebpkmhhmaa

/-
  Of part DoWalk14: what is needed here.
-/
namespace Go.Proofs.Ytodoaebpkmhhmaa
open Go.RowKit
set_option linter.unusedVariables false
set_option maxRecDepth 100000
set_option maxHeartbeats 8000000 in
theorem doWalk14 (q : QA14) (x : Q14) (w : World) (h : QIn14 w w.heap.size q x) : Calls Try.prog 3 #[.agg (q.cells x).toArray] w fun e w' => e = .returned (.bool true) ∧ Below w.heap.size w w' := by
  have HQ := Lib.hid h
  have R0 := Lib.hid (Row.new w 28 (q.cells x))
  have B0 := Lib.hid ((Below.refl w.heap.size w).alloc (Nat.le_refl _) (.cells (q.cells x).toArray 28))
  clear h
  obtain ⟨gq, hgq⟩ : ∃ g, g = w.heap.size := ⟨_, rfl⟩
  have HG : Hid (w.heap.size = gq) := Lib.hid hgq.symm
  rw [← hgq] at R0
  clear hgq
  generalize hW : w.alloc (.cells (q.cells x).toArray 28) = W at *
  have HW := Lib.hid hW
  clear hW
  by_cases hbig : Big14 q
  · have HGR := Lib.hid (great14_ q x)
    rw [decide_eq_true hbig] at HGR
    clear hbig
    go_enter Try.func3, Try.ntmps3
    go_upto_region 1 with fail
    try rw [HG.out]
    rw [HW.out]
    clear HW
    go_wp2_with ((with_reducible show wpList _ _ _ ({ dst := some 12, op := Op.load _ _, type := _, pos := _, after := _, guard := _ } :: _) _ _); go_must (refine wpList_load_whole rfl 28 (.tmp 1) rfl gq 28 (q.cells x) _ Try.underlying28 rfl (size_asked14 _ _) R0.out ?_ ?_; go_simp))
    refine (HGR.out _).mono ?_
    rintro e w1 ⟨rfl, hb1⟩
    have B1 := Lib.hid (B0.out.trans (hb1.mono B0.out.size))
    clear hb1
    go_wp2_with fail
    refine (lives14_ _).mono ?_
    rintro e w2 ⟨rfl, hb2⟩
    have B2 := Lib.hid (B1.out.trans (hb2.mono B1.out.size))
    clear hb2
    go_wp2_with fail
    go_ret
    exact ⟨rfl, B2.out⟩
  have HGR := Lib.hid (great14_ q x)
  rw [decide_eq_false hbig] at HGR
  have HS : Hid (q.ln ≤ 200 ∧ q.rn ≤ 200 ∧ q.n ≤ 300 ∧ q.dn ≤ 1000) := Lib.hid (by unfold Big14 at hbig; omega)
  clear hbig
  go_enter Try.func3, Try.ntmps3
  go_upto_region 1 with fail
  try rw [HG.out]
  rw [HW.out]
  clear HW
  go_wp2_with ((with_reducible show wpList _ _ _ ({ dst := some 12, op := Op.load _ _, type := _, pos := _, after := _, guard := _ } :: _) _ _); go_must (refine wpList_load_whole rfl 28 (.tmp 1) rfl gq 28 (q.cells x) _ Try.underlying28 rfl (size_asked14 _ _) R0.out ?_ ?_; go_simp))
  refine (HGR.out _).mono ?_
  rintro e w1 ⟨rfl, hb1⟩
  have B1 := Lib.hid (B0.out.trans (hb1.mono B0.out.size))
  have R1 := Lib.hid (R0.out.below hb1 R0.out.lt)
  clear hb1 B0 R0 HGR
  have d0 := asked_0 R1.out
  go_wp2_with fail
  clear d0
  have HQ1 := Lib.hid (HQ.out.below B1.out)
  refine (twinAccounts q.LA q.ln q.lc w.heap.size x.l w1 HQ1.out.l B1.out.size (by have := HS.out; omega)).mono ?_
  rintro e w2 ⟨g1, rfl, hg1, hr1, hb2⟩
  have RL2 := Lib.hid hr1
  have HG1 := Lib.hid (Nat.le_trans B1.out.size hg1)
  have B2 := Lib.hid (B1.out.trans (hb2.mono B1.out.size))
  have R2 := Lib.hid (R1.out.below hb2 R1.out.lt)
  clear hr1 hg1 hb2 B1 R1 HQ1
  have d1 := asked_1 R2.out
  go_wp2_with fail
  clear d1
  have HQ2 := Lib.hid (HQ.out.below B2.out)
  refine (twinRoles q.RA q.rn q.rc w.heap.size x.r w2 HQ2.out.r B2.out.size (by have := HS.out; omega)).mono ?_
  rintro e w3 ⟨g2, rfl, hg2, hr2, hb3⟩
  have RR3 := Lib.hid hr2
  have RL3 := Lib.hid (RL2.out.below hb3 RL2.out.lt)
  have HG2 := Lib.hid (And.intro RL2.out.lt hg2)
  have B3 := Lib.hid (B2.out.trans (hb3.mono B2.out.size))
  have R3 := Lib.hid (R2.out.below hb3 R2.out.lt)
  clear hr2 hg2 hb3 B2 R2 RL2 HQ2
  have HQ3 := Lib.hid (HQ.out.below B3.out)
  have HDO := Lib.hid (sysDo14 x.l x.r x.p q.IA q.n q.c q.D q.dn q.dc x.acc x.dat (some ⟨g1, 0, none⟩) q.ln (q.ln + 3) (some ⟨g2, 0, none⟩) q.rn (q.rn + 3) w3.heap.size w3 (accs_row RL3.out HQ.out.l.len HQ.out.l.ok RL3.out.lt) (Nat.le_add_right _ _) (roles_row RR3.out HQ.out.r.len HQ.out.r.ok RR3.out.lt) (HQ3.out.i.more14 B3.out.size) (Nat.le_refl _) (by have := HS.out; omega) (by have := HS.out; omega) (by have := HS.out; omega))
  have HRD := Lib.hid (fun V (hb : Below w.heap.size w V) => refDo14 x.l x.r x.p q.IA q.n q.c q.D q.dn q.dc x.acc x.dat q.LA q.ln q.lc q.RA q.rn q.rc w.heap.size V (HQ.out.below hb).l HQ.out.lc.1 (HQ.out.below hb).r (HQ.out.below hb).i hb.size (by have := HS.out; omega) (by have := HS.out; omega) (by have := HS.out; omega))
  generalize hR : do14 x.l x.r x.acc x.dat = R at *
  clear hR
  go_wp2_with ((with_reducible show wpList _ _ _ ({ dst := some 25, op := Op.load _ _, type := _, pos := _, after := _, guard := _ } :: _) _ _); go_must (refine wpList_load_at rfl 26 (.tmp 24) rfl ⟨gq, 2, none⟩ (q.ins x) _ Try.underlying26 rfl (size_ins14 _ _ _ _ _ _ _) (asked_i R3.out) ?_ ?_; go_simp))
  refine HDO.out.mono ?_
  rintro e w4 ⟨va, rfl, hoa, hb4⟩
  obtain ⟨Aa, ca, rfl, hca⟩ := hoa.form
  have OA4 := Lib.hid hoa
  have HLM := Lib.hid (Nat.le_trans hca.1 hca.2)
  have HVA := Lib.hid hoa.lt
  have B4 := Lib.hid (B3.out.trans (hb4.mono B3.out.size))
  have R4 := Lib.hid (R3.out.below hb4 R3.out.lt)
  have RL4 := Lib.hid (RL3.out.below hb4 RL3.out.lt)
  have RR4 := Lib.hid (RR3.out.below hb4 RR3.out.lt)
  have HG3 := Lib.hid (And.intro HG1.out (Nat.lt_of_lt_of_le HG2.out.1 HG2.out.2))
  have HG4 := Lib.hid RL3.out.lt
  clear hoa hca hb4 B3 R3 RL3 RR3 HDO HQ3 HG1 HG2
  have d0 := asked_0 R4.out
  have d1 := asked_1 R4.out
  go_wp2_with ((with_reducible show wpList _ _ _ ({ dst := some 36, op := Op.load _ _, type := _, pos := _, after := _, guard := _ } :: _) _ _); go_must (refine wpList_load_at rfl 26 (.tmp 35) rfl ⟨gq, 2, none⟩ (q.ins x) _ Try.underlying26 rfl (size_ins14 _ _ _ _ _ _ _) (asked_i R4.out) ?_ ?_; go_simp))
  clear d0 d1
  refine (HRD.out w4 B4.out).mono ?_
  rintro e w5 ⟨vb, rfl, hob, hb5⟩
  obtain ⟨Ab, cb, rfl, hcb⟩ := hob.form
  have OB5 := Lib.hid hob
  have OA5 := Lib.hid (OA4.out.below hb5)
  have B5 := Lib.hid (B4.out.trans (hb5.mono B4.out.size))
  have R5 := Lib.hid (R4.out.below hb5 R4.out.lt)
  have RL5 := Lib.hid (RL4.out.below hb5 RL4.out.lt)
  have RR5 := Lib.hid (RR4.out.below hb5 RR4.out.lt)
  have HZ4 := Lib.hid hb5.size
  clear hob hcb hb5 B4 R4 RL4 RR4 HRD OA4
  have SA := Lib.hid (sameAccs Aa Ab R.l.length ca cb R.l w5 _ _ (OA5.out.accs rfl) (OB5.out.accs rfl) HLM.out)
  clear OB5
  go_wp2_with fail
  refine SA.out.mono ?_
  rintro e w6 ⟨rfl, k6, rfl⟩
  have hb6 : Below w5.heap.size w5 (w5.drewN k6) := ⟨rfl, rfl, rfl, Nat.le_refl _, fun _ _ => rfl⟩
  have OA6 := Lib.hid (OA5.out.below hb6)
  have B6 := Lib.hid (B5.out.trans (hb6.mono B5.out.size))
  have R6 := Lib.hid (R5.out.below hb6 R5.out.lt)
  have RL6 := Lib.hid (RL5.out.below hb6 RL5.out.lt)
  have RR6 := Lib.hid (RR5.out.below hb6 RR5.out.lt)
  have HZ6 := Lib.hid (Nat.le_trans HZ4.out hb6.size)
  clear hb6 B5 R5 RL5 RR5 SA OA5 HZ4
  generalize w5.drewN k6 = w6 at *
  have d0 := asked_0 R6.out
  have d1 := asked_1 R6.out
  go_wp2_with fail
  clear d0 d1
  refine (leftAccounts g1 q.LA q.ln q.lc w.heap.size x.l w6 RL6.out (HQ.out.below B6.out).l B6.out.size (by have := HS.out; omega)).mono ?_
  rintro e w7 ⟨rfl, hb7⟩
  have OA7 := Lib.hid (OA6.out.below hb7)
  have B7 := Lib.hid (B6.out.trans (hb7.mono B6.out.size))
  have R7 := Lib.hid (R6.out.below hb7 R6.out.lt)
  have RL7 := Lib.hid (RL6.out.below hb7 RL6.out.lt)
  have RR7 := Lib.hid (RR6.out.below hb7 RR6.out.lt)
  have HZ7 := Lib.hid (Nat.le_trans HZ6.out hb7.size)
  clear hb7 B6 R6 RL6 RR6 OA6 HZ6
  have d1 := asked_1 R7.out
  go_wp2_with fail
  clear d1
  refine (leftRoles g2 q.RA q.rn q.rc w.heap.size x.r w7 RR7.out (HQ.out.below B7.out).r B7.out.size (by have := HS.out; omega)).mono ?_
  rintro e w8 ⟨rfl, hb8⟩
  have OA8 := Lib.hid (OA7.out.below hb8)
  have B8 := Lib.hid (B7.out.trans (hb8.mono B7.out.size))
  have RL8 := Lib.hid (RL7.out.below hb8 RL7.out.lt)
  have HZ8 := Lib.hid (Nat.le_trans HZ7.out hb8.size)
  clear hb8 B7 R7 RL7 RR7 OA7 HZ7
  go_upto_region 10 with fail
  have HK0 := Lib.hid (Bk.new w8)
  have BW0 := Lib.hid ((Below.refl w8.heap.size w8).alloc (Nat.le_refl _) (.cells #[.slice none 0 0] 41))
  have OA9 := Lib.hid (OA8.out.below BW0.out)
  have RL9 := Lib.hid (RL8.out.below BW0.out RL8.out.lt)
  have B9 := Lib.hid (B8.out.trans (BW0.out.mono B8.out.size))
  have HPL : Hid (w8.heap.size < (w8.alloc (.cells #[.slice none 0 0] 41)).heap.size) := Lib.hid (by simp)
  have HVZ := Lib.hid (fun g hg => And.intro (HVA.out g hg).1 (Nat.lt_of_lt_of_le (HVA.out g hg).2 HZ8.out))
  have HG5 := Lib.hid (RL8.out.lt)
  have HB8 := Lib.hid B8.out.size
  clear OA8 RL8 B8 HVA HZ8
  generalize hW0 : w8.alloc (.cells #[.slice none 0 0] 41) = W0 at *
  clear hW0
  obtain ⟨XA, hXA⟩ := oa_sl14 OA9.out
  have HXA := Lib.hid hXA
  have HB1 := Lib.hid (bkAccounts w8.heap.size w8.heap.size [] ⟨some g1, q.ln, q.ln + 3⟩ W0 W0 HK0.out (by simp))
  go_wp2_with fail
  refine HB1.out.mono ?_
  rintro e w9 ⟨rfl, hb9⟩
  have HK9 := Lib.hid hb9
  have HB2 := Lib.hid (bkAccounts w8.heap.size w8.heap.size _ XA W0 w9 hb9 (by simp))
  rw [← hXA] at HB2
  clear hb9 HK0 HB1 hXA
  go_wp2_with fail
  refine HB2.out.mono ?_
  rintro e w10 ⟨rfl, hb10⟩
  have HK10 := Lib.hid hb10
  clear hb10 HB2 HK9
  have HB10 : Hid (Below w8.heap.size W0 w10) := Lib.hid (HK10.out.one.below (Nat.le_refl _) (Nat.le_refl _))
  have HOW : Hid (∀ g, XA.A = some g → w3.heap.size ≤ g ∧ g < w8.heap.size) := Lib.hid fun g hg => HVZ.out g (by rw [HXA.out]; exact sl_own14 hg)
  go_wp2_with fail
  refine (apartBk w8.heap.size w8.heap.size w.heap.size _ W0 w10 HK10.out ?_ ?_ ?_ ?_).mono ?_
  · intro y hy
    simp only [List.nil_append, List.cons_append, List.mem_cons, List.not_mem_nil, or_false] at hy
    rcases hy with rfl | rfl
    · refine ⟨Nat.le_add_right _ _, by show q.ln + 3 ≤ _; have := HS.out; omega, _, RL9.out, ?_, fun h => ?_⟩
      · show (q.ln + 3) * 34 ≤ _
        rw [List.length_append, accsC_len HQ.out.l.ok, HQ.out.l.len, rowOf_len 3 mkAc_is.len]
        omega
      · have h : (34 : Nat) = 64 := h
        omega
    · exact oa_fit14 (by rw [← HXA.out]; exact OA9.out)
  · rw [blocks_app, List.nil_append]
    refine pair_app (m := w3.heap.size) (pair_one _) (pair_one _) (fun k hk => ?_) fun k hk => (HOW.out k (blocks_one _ k hk)).1
    have e : some g1 = some k := blocks_one _ k hk
    have e := Option.some.inj e
    have := HG4.out
    omega
  · intro k hk
    rw [blocks_app, List.nil_append] at hk
    have h3 := HG3.out
    have h4 := HG4.out
    have h5 := HG5.out
    rcases List.mem_append.1 hk with hk | hk
    · have e : some g1 = some k := blocks_one _ k hk
      have e := Option.some.inj e
      omega
    · have e := HOW.out k (blocks_one _ k hk)
      omega
  · exact Nat.le_trans HB8.out (Nat.le_trans (Nat.le_of_lt HPL.out) HB10.out.size)
  · rintro e w11 ⟨rfl, hb11⟩
    have D11 : Hid (Below w.heap.size w w11) := Lib.hid (B9.out.trans ((HB10.out.mono HB8.out).trans hb11))
    clear hb11
    go_wp2_with fail
    refine (lives14_ _).mono ?_
    rintro e w12 ⟨rfl, hb12⟩
    have D12 := Lib.hid (D11.out.trans (hb12.mono D11.out.size))
    clear hb12
    go_wp2_with fail
    go_ret
    exact ⟨rfl, D12.out⟩
end Go.Proofs.Ytodoaebpkmhhmaa

/-
  Of part Sum14: what is needed here.
-/
namespace Go.Proofs.Ytodoaebpkmhhmaa
open Go.RowKit
set_option linter.unusedVariables false
set_option maxRecDepth 100000
def hiA (L : List LAcc) : Int := sumA L / 18446744073709551616
def loA (L : List LAcc) : Int := sumA L % 18446744073709551616
theorem sumA_step {T n : Int} (hT : 0 ≤ T) (hT2 : T < 18446744073709551616000) (h0 : 0 ≤ n) (h1 : n < 18446744073709551616) :
    IntKind.u64.wrap (18446744073709551615 - n) = 18446744073709551615 - n ∧ IntKind.u64.wrap (T % 18446744073709551616 + n) = (T + n) % 18446744073709551616 ∧
    (18446744073709551615 - n < T % 18446744073709551616 → IntKind.u64.wrap (T / 18446744073709551616 + 1) = (T + n) / 18446744073709551616) ∧ (¬ 18446744073709551615 - n < T % 18446744073709551616 → T / 18446744073709551616 = (T + n) / 18446744073709551616) := by
  simp only [IntKind.wrap_u64]
  refine ⟨by omega, by omega, fun h => by omega, fun h => by omega⟩
theorem sumA_take {L : List LAcc} {j : Nat} {x : LAcc} (h : L[j]? = some x) : sumA (L.take (j + 1)) = sumA (L.take j) + x.c := by
  rw [List.take_add_one, h, Option.toList_some, sumA_app]
  show _ + (x.c + 0) = _
  omega
set_option maxHeartbeats 4000000 in
theorem sum14_ (A : Option Addr) (n c B : Nat) (L : List LAcc) (w : World) (h : AccsIn w B A n L) (hL : n ≤ 900) : Calls Try.prog 19 #[.slice A n c] w fun e w' => e = .returned (.tuple #[.int .u64 (hiA L), .int .u64 (loA L)]) ∧ w = w' := by
  have HH := Lib.hid h
  have HNL := Lib.hid h.len
  have HOKS := Lib.hid h.ok
  have HT : Hid (∀ j, 0 ≤ sumA (L.take j) ∧ sumA (L.take j) < 18446744073709551616000) := Lib.hid fun j => by
    have h1 : ∀ x ∈ L.take j, AccOk x := fun x hx => HOKS.out x (List.mem_of_mem_take hx)
    have h3 := sumA_bound h1
    have h4 : (L.take j).length ≤ 900 := by rw [List.length_take, HNL.out]; omega
    exact ⟨h3.1, by omega⟩
  clear h
  go_enter Try.func19, Try.ntmps19
  go_wp2_with fail
  go_loop [4, 5, 6] (fun h l i => ∃ j : Nat, j ≤ n ∧ i = .int .i64 j ∧ h = .int .u64 (hiA (L.take j)) ∧ l = .int .u64 (loA (L.take j))) (fun _ _ i => n - (intOf i).toNat)
  case atStart => exact ⟨0, Nat.zero_le _, rfl, rfl, rfl⟩
  case round =>
    obtain ⟨j, hj, rfl, rfl, rfl⟩ := hrel
    by_cases hlt : j < n
    · have hlt' : (j : Int) < n := by omega
      obtain ⟨a, y, rfl, hab, hy, hok, hcy⟩ := HH.out.get hlt
      have hcell : w.cell? (a.add (j * 34)) = some (.int .u64 y.c) := by
        have := hcy 0 _ (acc_c y)
        have e : ∀ p : Addr, p.add 0 = p := fun p => by obtain ⟨g, o, f⟩ := p; cases f <;> rfl
        rwa [e] at this
      have hst := sumA_step (HT.out j).1 (HT.out j).2 hok.c.1 hok.c.2
      have hts := sumA_take hy
      have HS1 : Hid (IntKind.u64.wrap (18446744073709551615 - y.c) = 18446744073709551615 - y.c) := Lib.hid hst.1
      have HS2 : Hid (IntKind.u64.wrap (loA (L.take j) + y.c) = loA (L.take (j + 1))) := Lib.hid (by unfold loA; rw [hts]; exact hst.2.1)
      have HS3 : Hid (18446744073709551615 - y.c < loA (L.take j) → IntKind.u64.wrap (hiA (L.take j) + 1) = hiA (L.take (j + 1))) := Lib.hid (by unfold loA hiA; rw [hts]; exact hst.2.2.1)
      have HS4 : Hid (¬ 18446744073709551615 - y.c < loA (L.take j) → hiA (L.take j) = hiA (L.take (j + 1))) := Lib.hid (by unfold loA hiA; rw [hts]; exact hst.2.2.2)
      clear hst hts hab hy hok hcy
      generalize loA (L.take j) = l0 at *
      generalize hiA (L.take j) = h0 at *
      obtain ⟨l1, hl1⟩ : ∃ l1, l1 = loA (L.take (j + 1)) := ⟨_, rfl⟩
      obtain ⟨h1, hh1⟩ : ∃ h1, h1 = hiA (L.take (j + 1)) := ⟨_, rfl⟩
      have HL1 : Hid (l1 = loA (L.take (j + 1))) := Lib.hid hl1
      have HH1 : Hid (h1 = hiA (L.take (j + 1))) := Lib.hid hh1
      rw [← hl1] at HS2
      rw [← hh1] at HS3 HS4
      clear hl1 hh1
      generalize y.c = cy at *
      generalize hD : (18446744073709551615 : Int) - cy = D at HS1 HS3 HS4
      by_cases hov : D < l0
      · have e3 := HS3.out hov
        have e2 := HS2.out
        have e1 : IntKind.u64.wrap (18446744073709551615 - cy) = D := by rw [hD]; exact HS1.out
        clear hD
        go_wp2_with fail
        go_round
        case rel => exact ⟨j + 1, by omega, by go_num, by rw [HH1.out], by rw [HL1.out]⟩
        case measure => simp [intOf]; omega
      · have HE3 := Lib.hid (HS4.out hov)
        have e2 := HS2.out
        have e1 : IntKind.u64.wrap (18446744073709551615 - cy) = D := by rw [hD]; exact HS1.out
        clear hD
        go_wp2_with fail
        go_round
        case rel => exact ⟨j + 1, by omega, by go_num, by rw [HE3.out, HH1.out], by rw [HL1.out]⟩
        case measure => simp [intOf]; omega
    · have hlt' : ¬ (j : Int) < n := by omega
      have HE : Hid (L.take j = L) := Lib.hid (List.take_of_length_le (by rw [HNL.out]; omega))
      rw [HE.out]
      go_wp2_with fail
      go_ret2
      exact ⟨rfl, rfl⟩
end Go.Proofs.Ytodoaebpkmhhmaa

/-
  Of part Coins14: what is needed here.
-/
namespace Go.Proofs.Ytodoaebpkmhhmaa
open Go.RowKit
set_option linter.unusedVariables false
set_option maxRecDepth 100000
def Mild (R : Res14) : Prop := R.e ≠ 0 → R.l = [] ∧ R.n = 0
theorem mild_bad (e : Int) : Mild (bad14 e) := fun _ => ⟨rfl, rfl⟩
theorem mild_ok (l : List LAcc) (n : Int) : Mild ⟨0, l, n⟩ := fun h => absurd rfl h
theorem do_mild (l : List LAcc) (r : List LRole) (acc dat : List Int) : Mild (do14 l r acc dat) := by
  unfold do14
  split
  · exact mild_bad _
  split
  · exact mild_bad _
  split
  · exact mild_bad _
  unfold deed14
  split
  · unfold make14
    repeat' split
    all_goals first | exact mild_bad _ | exact mild_ok _ _
  split
  · unfold assign14
    split
    all_goals first | exact mild_bad _ | exact mild_ok _ _
  split
  · unfold move14
    repeat' split
    all_goals first | exact mild_bad _ | exact mild_ok _ _
  · unfold space14
    repeat' split
    all_goals first | exact mild_bad _ | exact mild_ok _ _
theorem chk_ok {m : Bool} {x : LRole} (h : chk14 m x = 0) : (m = true → x.sg = true) ∧ x.wr = true := by
  unfold chk14 at h
  split at h
  · cases h
  rename_i h1
  split at h
  · cases h
  rename_i h2
  exact ⟨fun e => by subst e; simpa using h1, by simpa using h2⟩
theorem plc_chk {x : LAsk} {r : List LRole} {acc : List Int} (h : plc14 x r acc = 0) : chk14 true (rol14 r (acc.getD 0 0)) = 0 ∧ (two14 x → chk14 (decide (x.tag = 0)) (rol14 r (acc.getD 1 0)) = 0) := by
  unfold plc14 at h
  split at h
  · cases h
  split at h
  · cases h
  split at h
  · rename_i h1
    exact absurd h h1
  rename_i h1
  refine ⟨Classical.not_not.1 h1, fun h2 => ?_⟩
  rwa [if_pos h2] at h
/-- what a call that went well did -/
structure Went (l : List LAcc) (r : List LRole) (R : Res14) (a b : Nat) : Prop where
  len : l.length = r.length
  an : a < l.length
  bn : b < l.length
  d : Deed l R.l R.n a b true (rol14 r b).sg
  wa : (rol14 r a).wr = true
  wb : (rol14 r b).wr = true
  sa : (rol14 r a).sg = true
theorem do_went {l : List LAcc} {r : List LRole} {acc dat : List Int} (hl : ∀ a ∈ l, AccOk a) (hd : AllBytes dat) (hb : AllBytes acc) (h : (do14 l r acc dat).e = 0) : ∃ a b, Went l r (do14 l r acc dat) a b := by
  by_cases hn : l.length = r.length
  rotate_left
  · unfold do14 at h
    rw [if_pos hn] at h
    cases h
  cases hdat : dat14 dat with
  | none =>
    unfold do14 at h
    rw [if_neg (by omega), hdat] at h
    cases h
  | some x =>
  by_cases hp : plc14 x r acc = 0
  rotate_left
  · unfold do14 at h
    rw [if_neg (by omega), hdat] at h
    dsimp only at h
    rw [if_pos hp] at h
    exact absurd h hp
  obtain ⟨h1, h2⟩ := plc_ok hp
  have h0 : 0 < need14 x := by unfold need14; split <;> omega
  obtain ⟨a, ha, han⟩ := acc_idx (k := 0) hb (by omega) h2
  obtain ⟨b, hbb, hbn⟩ := acc_idx (k := need14 x - 1) hb (by omega) h2
  rw [← hn] at han hbn
  rw [do_is hn hdat hp ha hbb] at h ⊢
  have hx := dat14_ok hd hdat
  obtain ⟨c1, c2⟩ := plc_chk hp
  rw [ha] at c1
  have k1 := chk_ok c1
  refine ⟨a, b, ?_⟩
  by_cases ht : two14 x
  · have hb1 : acc.getD 1 0 = b := by rw [need_two ht] at hbb; exact hbb
    have c3 := c2 ht
    rw [hb1] at c3
    have k2 := chk_ok c3
    have hw : ∀ {R : Res14}, Deed l R.l R.n a b true (rol14 r b).sg → Went l r R a b := fun d => ⟨hn, han, hbn, d, k1.2, k2.2, k1.1 rfl⟩
    apply hw
    unfold deed14 at h ⊢
    rcases ht with ht | ht
    · rw [if_pos ht] at h ⊢
      rw [k2.1 (by rw [ht]; rfl)]
      exact make_deed hl hx han hbn h
    · rw [if_neg (by rw [ht]; decide), if_neg (by rw [ht]; decide), if_pos ht] at h ⊢
      exact move_deed hl hx han hbn h _
  · have hab : (b : Int) = a := by rw [need_one ht] at hbb; rw [← hbb, ← ha]
    have hab : b = a := by exact_mod_cast hab
    subst hab
    have hw : ∀ {R : Res14}, Deed l R.l R.n b b true (rol14 r b).sg → Went l r R b b := fun d => ⟨hn, han, hbn, d, k1.2, k1.2, k1.1 rfl⟩
    apply hw
    unfold deed14 at h ⊢
    unfold two14 at ht
    rw [if_neg (fun e => ht (.inl e))] at h ⊢
    by_cases h1 : x.tag = 1
    · rw [if_pos h1] at h ⊢
      exact assign_deed hl hx b han h _
    · rw [if_neg h1, if_neg (fun e => ht (.inr e))] at h ⊢
      exact space_deed hl hx b han h _
theorem Went.at {l : List LAcc} {r : List LRole} {R : Res14} {a b : Nat} (h : Went l r R a b) {j : Nat} {y z : LAcc} {o : LRole} (hy : l[j]? = some y) (hz : R.l[j]? = some z) (hr : r[j]? = some o) (hne : z ≠ y) :
    o.wr = true ∧ (y.o ≠ key0 → y.c ≤ z.c ∧ z.o = y.o) ∧ (o.sg = true ∨ (y.c ≤ z.c ∧ z.o = y.o ∧ z.s = y.s)) ∧ (z.s ≠ y.s → y.s = 0 ∧ z.s = R.n) := by
  have ey := getA_at hy
  have ez := getA_at hz
  have er : rol14 r (j : Int) = o := rol_at rfl hr
  have hn : getA R.l j ≠ getA l j := by rw [ey, ez]; exact hne
  have hab : j = a ∨ j = b := by
    by_cases e1 : j = a
    · exact .inl e1
    by_cases e2 : j = b
    · exact .inr e2
    exact absurd (h.d.off j e1 e2) hn
  refine ⟨?_, fun e => ?_, ?_, fun e => ?_⟩
  · rcases hab with e | e
    · rw [← er, e]; exact h.wa
    · rw [← er, e]; exact h.wb
  · have := h.d.own j (by rw [ey]; exact e)
    rwa [ey, ez] at this
  · rcases h.d.sg j hn with ⟨e, _⟩ | ⟨e, e2⟩ | e
    · exact .inl (by rw [← er, e]; exact h.sa)
    · exact .inl (by rw [← er, e]; exact e2)
    · rw [ey, ez] at e
      exact .inr e
  · have := h.d.sp j (by rw [ey, ez]; exact e)
    rwa [ey, ez] at this
/-- how many of the first k accounts have changed -/
def chg (l out : List LAcc) : Nat → Nat
  | 0 => 0
  | k + 1 => chg l out k + (if getA out k = getA l k then 0 else 1)
theorem chg_one {l out : List LAcc} {a b : Nat} (h : ∀ k, k ≠ a → k ≠ b → getA out k = getA l k) : ∀ k, chg l out k ≤ (if a < k then 1 else 0) + (if b < k then 1 else 0)
  | 0 => by simp [chg]
  | k + 1 => by
    have ih := chg_one h k
    unfold chg
    by_cases e : getA out k = getA l k
    · rw [if_pos e]
      have h1 : (if a < k then 1 else 0) ≤ (if a < k + 1 then 1 else 0) := by split <;> split <;> omega
      have h2 : (if b < k then 1 else 0) ≤ (if b < k + 1 then 1 else 0) := by split <;> split <;> omega
      omega
    · rw [if_neg e]
      by_cases ea : k = a
      · subst ea
        have h1 : (if k < k then 1 else 0) = 0 := if_neg (by omega)
        have h2 : (if k < k + 1 then 1 else 0) = 1 := if_pos (by omega)
        have h3 : (if b < k then 1 else 0) ≤ (if b < k + 1 then 1 else 0) := by split <;> split <;> omega
        omega
      · by_cases eb : k = b
        · subst eb
          have h1 : (if k < k then 1 else 0) = 0 := if_neg (by omega)
          have h2 : (if k < k + 1 then 1 else 0) = 1 := if_pos (by omega)
          have h3 : (if a < k then 1 else 0) ≤ (if a < k + 1 then 1 else 0) := by split <;> split <;> omega
          omega
        · exact absurd (h k ea eb) e
theorem chg_two {l out : List LAcc} {a b : Nat} (h : ∀ k, k ≠ a → k ≠ b → getA out k = getA l k) (k : Nat) : chg l out k ≤ 2 := by
  have := chg_one h k
  split at this <;> split at this <;> omega
end Go.Proofs.Ytodoaebpkmhhmaa

/-
  Of part CoinsWalk14: what is needed here.
-/
namespace Go.Proofs.Ytodoaebpkmhhmaa
open Go.RowKit
set_option linter.unusedVariables false
set_option maxRecDepth 100000
theorem quiet_built14 {ops : Array Oper} {C : World → Prop} {Q : Act → Prop} {a : Act} {o : Oper} {rest : List Oper} (hw : Region.wanted o (yielded ops a.tmps) = true) (t : TypeId) (parts : Array (Nat × Operand)) (cells : Array Value) (ho : o.op = .build t parts) (h : Try.prog.built t (parts.map fun (i, x) => (i, a.eval x)).toList = some cells)
    (hk : wpQuiet Try.prog ops C Q rest (a.put o.dst (.agg cells))) : wpQuiet Try.prog ops C Q (o :: rest) a :=
  BigFrame.wpQuiet_want hw fun K hK => ⟨_, fun w hC => by
    unfold Oper.quietAt
    rw [exec_built w t parts cells ho h]
    exact ⟨rfl, rfl⟩, hK _ hk⟩
/-- what lies there in a round -/
structure CW14 (V : World) (gq gk : Nat) (q : QA14) (x : Q14) (y z : LAcc) (o : LRole) (ao ar : Addr) : Prop where
  r : Row V gq 28 (q.cells x)
  k : Row V gk 48 y.cells
  zz : ∀ j u, z.cells[j]? = some u → V.cell? (ao.add j) = some u
  oo : ∀ j u, o.cells[j]? = some u → V.cell? (ar.add j) = some u
section
variable {V V' : World} {gq gk : Nat} {q : QA14} {x : Q14} {y z : LAcc} {o : LRole} {ao ar : Addr}
theorem add0_14 (p : Addr) : p.add 0 = p := by obtain ⟨g, o, f⟩ := p; cases f <;> rfl
theorem field14 (a : Addr) {o : Nat} (ho : 0 < o) : (⟨a.block, a.off + o, none⟩ : Addr) = a.add o := by
  unfold Addr.add
  rw [if_neg (by omega)]
theorem CW14.below (h : CW14 V gq gk q x y z o ao ar) (hb : Below V.heap.size V V') : CW14 V' gq gk q x y z o ao ar :=
  ⟨h.r.below hb h.r.lt, h.k.below hb h.k.lt, fun j u hu => (hb.cell (block_lt_of_cell (h.zz j u hu))).trans (h.zz j u hu), fun j u hu => (hb.cell (block_lt_of_cell (h.oo j u hu))).trans (h.oo j u hu)⟩
theorem CW14.drewN (h : CW14 V gq gk q x y z o ao ar) (n : Nat) : CW14 (V.drewN n) gq gk q x y z o ao ar := h.below ⟨rfl, rfl, rfl, Nat.le_refl _, fun _ _ => rfl⟩
theorem CW14.zc (h : CW14 V gq gk q x y z o ao ar) : V.cell? ao = some (.int .u64 z.c) := by
  have := h.zz 0 _ (acc_c z)
  rwa [add0_14] at this
theorem CW14.zs (h : CW14 V gq gk q x y z o ao ar) (hz : z.o.length = 32) : V.cell? ⟨ao.block, ao.off + 33, none⟩ = some (.int .u64 z.s) := by
  rw [field14 _ (by omega)]
  exact h.zz 33 _ (acc_s hz)
theorem CW14.zo (h : CW14 V gq gk q x y z o ao ar) : ∀ j u, (bv z.o)[j]? = some u → V.cell? ((⟨ao.block, ao.off + 1, none⟩ : Addr).add j) = some u := fun j u hu => by
  rw [field14 _ (by omega), addr_add]
  exact h.zz _ _ (acc_o hu)
theorem CW14.yc (h : CW14 V gq gk q x y z o ao ar) : V.cell? ⟨gk, 0, none⟩ = some (.int .u64 y.c) := h.k.cell 0
theorem CW14.ys (h : CW14 V gq gk q x y z o ao ar) (hy : y.o.length = 32) : V.cell? ⟨gk, 33, none⟩ = some (.int .u64 y.s) := (h.k.cell 33).trans (acc_s hy)
theorem CW14.yo (h : CW14 V gq gk q x y z o ao ar) : ∀ j u, (bv y.o)[j]? = some u → V.cell? ((⟨gk, 1, none⟩ : Addr).add j) = some u := fun j u hu => by
  rw [addr_row, h.k.cell]
  exact acc_o hu
theorem CW14.ya (h : CW14 V gq gk q x y z o ao ar) : ∀ j u, y.cells[j]? = some u → V.cell? ((⟨gk, 0, none⟩ : Addr).add j) = some u := fun j u hu => by
  rw [addr_row, h.k.cell, Nat.zero_add]
  exact hu
theorem role_wr14 {o : LRole} (h : o.key.length = 32) : o.cells[33]? = some (.bool o.wr) := by
  unfold LRole.cells
  rw [List.getElem?_append_right (by rw [bv_length, h]; omega), bv_length, h]
  rfl
theorem role_sg14 {o : LRole} (h : o.key.length = 32) : o.cells[32]? = some (.bool o.sg) := by
  unfold LRole.cells
  rw [List.getElem?_append_right (by rw [bv_length, h]; omega), bv_length, h]
  rfl
theorem CW14.ow (h : CW14 V gq gk q x y z o ao ar) (ho : o.key.length = 32) : V.cell? ⟨ar.block, ar.off + 33, none⟩ = some (.bool o.wr) := by
  rw [field14 _ (by omega)]
  exact h.oo 33 _ (role_wr14 ho)
theorem CW14.os (h : CW14 V gq gk q x y z o ao ar) (ho : o.key.length = 32) : V.cell? ⟨ar.block, ar.off + 32, none⟩ = some (.bool o.sg) := by
  rw [field14 _ (by omega)]
  exact h.oo 32 _ (role_sg14 ho)
end
set_option maxHeartbeats 16000000 in
theorem coinsWalk14 (q : QA14) (x : Q14) (w : World) (h : QIn14 w w.heap.size q x) : Calls Try.prog 4 #[.agg (q.cells x).toArray] w fun e w' => e = .returned (.bool true) ∧ Below w.heap.size w w' := by
  have HQ := Lib.hid h
  have R0 := Lib.hid (Row.new w 28 (q.cells x))
  have B0 := Lib.hid ((Below.refl w.heap.size w).alloc (Nat.le_refl _) (.cells (q.cells x).toArray 28))
  clear h
  obtain ⟨gq, hgq⟩ : ∃ g, g = w.heap.size := ⟨_, rfl⟩
  have HG : Hid (w.heap.size = gq) := Lib.hid hgq.symm
  rw [← hgq] at R0
  clear hgq
  generalize hW : w.alloc (.cells (q.cells x).toArray 28) = W at *
  have HW := Lib.hid hW
  clear hW
  by_cases hbig : Big14 q
  · have HGR := Lib.hid (great14_ q x)
    rw [decide_eq_true hbig] at HGR
    clear hbig
    go_enter Try.func4, Try.ntmps4
    go_upto_region 1 with fail
    try rw [HG.out]
    rw [HW.out]
    clear HW
    go_wp2_with ((with_reducible show wpList _ _ _ ({ dst := some 13, op := Op.load _ _, type := _, pos := _, after := _, guard := _ } :: _) _ _); go_must (refine wpList_load_whole rfl 28 (.tmp 1) rfl gq 28 (q.cells x) _ Try.underlying28 rfl (size_asked14 _ _) R0.out ?_ ?_; go_simp))
    refine (HGR.out _).mono ?_
    rintro e w1 ⟨rfl, hb1⟩
    have B1 := Lib.hid (B0.out.trans (hb1.mono B0.out.size))
    clear hb1
    go_wp2_with fail
    refine (lives14_ _).mono ?_
    rintro e w2 ⟨rfl, hb2⟩
    have B2 := Lib.hid (B1.out.trans (hb2.mono B1.out.size))
    clear hb2
    go_wp2_with fail
    go_ret
    exact ⟨rfl, B2.out⟩
  have HGR := Lib.hid (great14_ q x)
  rw [decide_eq_false hbig] at HGR
  have HS : Hid (q.ln ≤ 200 ∧ q.rn ≤ 200 ∧ q.n ≤ 300 ∧ q.dn ≤ 1000) := Lib.hid (by unfold Big14 at hbig; omega)
  clear hbig
  go_enter Try.func4, Try.ntmps4
  go_upto_region 1 with fail
  try rw [HG.out]
  rw [HW.out]
  clear HW
  go_wp2_with ((with_reducible show wpList _ _ _ ({ dst := some 13, op := Op.load _ _, type := _, pos := _, after := _, guard := _ } :: _) _ _); go_must (refine wpList_load_whole rfl 28 (.tmp 1) rfl gq 28 (q.cells x) _ Try.underlying28 rfl (size_asked14 _ _) R0.out ?_ ?_; go_simp))
  refine (HGR.out _).mono ?_
  rintro e w1 ⟨rfl, hb1⟩
  have B1 := Lib.hid (B0.out.trans (hb1.mono B0.out.size))
  have R1 := Lib.hid (R0.out.below hb1 R0.out.lt)
  clear hb1 B0 R0 HGR
  have d0 := asked_0 R1.out
  have d1 := asked_1 R1.out
  have HQ1 := Lib.hid (HQ.out.below B1.out)
  have HDO := Lib.hid (sysDo14 x.l x.r x.p q.IA q.n q.c q.D q.dn q.dc x.acc x.dat q.LA q.ln q.lc q.RA q.rn q.rc w.heap.size w1 HQ1.out.l HQ.out.lc.1 HQ1.out.r HQ1.out.i B1.out.size (by have := HS.out; omega) (by have := HS.out; omega) (by have := HS.out; omega))
  have HML := Lib.hid (do_mild x.l x.r x.acc x.dat)
  have HWT := Lib.hid (do_went (r := x.r) HQ.out.l.ok HQ.out.i.db HQ.out.i.ab)
  generalize hR : do14 x.l x.r x.acc x.dat = R at *
  clear hR
  go_wp2_with ((with_reducible show wpList _ _ _ ({ dst := some 22, op := Op.load _ _, type := _, pos := _, after := _, guard := _ } :: _) _ _); go_must (refine wpList_load_at rfl 26 (.tmp 21) rfl ⟨gq, 2, none⟩ (q.ins x) _ Try.underlying26 rfl (size_ins14 _ _ _ _ _ _ _) (asked_i R1.out) ?_ ?_; go_simp))
  clear d0 d1
  refine HDO.out.mono ?_
  rintro e w4 ⟨va, rfl, hoa, hb4⟩
  obtain ⟨Aa, ca, rfl, hca⟩ := hoa.form
  have OA4 := Lib.hid (hoa.accs rfl)
  have HLM := Lib.hid (Nat.le_trans hca.1 hca.2)
  have B4 := Lib.hid (B1.out.trans (hb4.mono B1.out.size))
  have R4 := Lib.hid (R1.out.below hb4 R1.out.lt)
  clear hoa hca hb4 B1 R1 HDO HQ1
  by_cases he : R.e = 0
  rotate_left
  · have hm := HML.out he
    have HE1 := Lib.hid hm.1
    have HE2 := Lib.hid hm.2
    have HE3 : Hid (R.l.length = 0) := Lib.hid (by rw [hm.1]; rfl)
    clear hm
    rw [HE2.out, HE3.out]
    generalize R.e = re at *
    go_wp2_with fail
    refine (lives14_ _).mono ?_
    rintro e w5 ⟨rfl, hb5⟩
    have B5 := Lib.hid (B4.out.trans (hb5.mono B4.out.size))
    clear hb5
    go_wp2_with fail
    go_ret
    exact ⟨rfl, B5.out⟩
  obtain ⟨pa, pb, hW⟩ := HWT.out he
  have WT := Lib.hid hW
  have HLL : Hid (R.l.length = q.ln) := Lib.hid (hW.d.len.trans HQ.out.l.len)
  have HSM : Hid (hiA R.l = hiA x.l ∧ loA R.l = loA x.l) := Lib.hid (by unfold hiA loA; rw [hW.d.sum]; exact ⟨rfl, rfl⟩)
  have HNL := Lib.hid hW.d.lim
  clear hW HWT HML
  rw [HLL.out] at OA4
  rw [he, HLL.out]
  clear he
  have d0 := asked_0 R4.out
  go_wp2_with fail
  clear d0
  refine (sum14_ q.LA q.ln q.lc w.heap.size x.l w4 (HQ.out.below B4.out).l (by have := HS.out; omega)).mono ?_
  rintro e w5 ⟨rfl, rfl⟩
  go_wp2_with fail
  refine (sum14_ Aa q.ln ca w4.heap.size R.l w4 OA4.out (by have := HS.out; omega)).mono ?_
  rintro e w5 ⟨rfl, rfl⟩
  rw [HSM.out.1, HSM.out.2]
  have d0 := asked_0 R4.out
  have hn3 : ¬ (1048576 : Int) < R.n := by have := HNL.out.2; omega
  go_wp2_with fail
  clear d0 hn3
  have HLE : Hid (q.rn = q.ln) := Lib.hid (HQ.out.r.len.symm.trans (WT.out.len.symm.trans HQ.out.l.len))
  go_loopw [10, 11] (fun o k wr => ∃ j : Nat, j ≤ q.ln ∧ o = .int .i64 (chg x.l R.l j) ∧ k = .int .i64 j ∧ Below w4.heap.size w4 wr) (fun _ k _ => q.ln - (intOf k).toNat)
  case atStart => exact ⟨0, Nat.zero_le _, rfl, rfl, Below.refl _ _⟩
  case round =>
    obtain ⟨j, hj, rfl, rfl, hbj⟩ := hrel
    have BJ := Lib.hid hbj
    have R5 := Lib.hid (R4.out.below hbj R4.out.lt)
    by_cases hlt : j < q.ln
    · have hlt' : (j : Int) < q.ln := by omega
      have hjb : j < 200 := by have := HS.out.1; omega
      have hlr : (j : Int) < q.rn := by rw [HLE.out]; exact hlt'
      obtain ⟨al, y, eal, _, hy, hoky, hcy⟩ := ((HQ.out.below B4.out).l.more B4.out.size).get hlt
      obtain ⟨az, z, eaz, _, hz, hokz, hcz⟩ := OA4.out.get hlt
      obtain ⟨ar, o', ear, _, ho', _, hco⟩ := ((HQ.out.below B4.out).r.cs.more B4.out.size).get (k := j) (by rw [HLE.out]; exact hlt) (by omega)
      rw [List.getElem?_map] at ho'
      obtain ⟨rr, hrr, rfl⟩ := Option.map_eq_some_iff.1 ho'
      have HOR := Lib.hid (HQ.out.r.ok rr (List.mem_of_getElem? hrr)).1
      have HWA := Lib.hid (fun hne => WT.out.at (z := z) hy hz hrr hne)
      have HCG : Hid (chg x.l R.l (j + 1) = chg x.l R.l j + (if z = y then 0 else 1)) := Lib.hid (by show chg x.l R.l j + _ = _; rw [getA_at hy, getA_at hz])
      have HC2 := Lib.hid (chg_two WT.out.d.off j)
      have HYO := Lib.hid hoky
      have HZO := Lib.hid hokz
      subst eaz
      have d0 : wr.cell? ⟨gq, 0, none⟩ = some (.slice (some al) q.ln q.lc) := by rw [← eal]; exact asked_0 R5.out
      have HCY : Hid (∀ j' u, y.cells[j']? = some u → wr.cell? ((al.add (j * 34)).add j') = some u) := Lib.hid fun j' u hu => (hbj.cell (block_lt_of_cell (hcy j' u hu))).trans (hcy j' u hu)
      have HCZ : Hid (∀ j' u, z.cells[j']? = some u → wr.cell? ((az.add (j * 34)).add j') = some u) := Lib.hid fun j' u hu => (hbj.cell (block_lt_of_cell (hcz j' u hu))).trans (hcz j' u hu)
      have HCO : Hid (∀ j' u, rr.cells[j']? = some u → wr.cell? ((ar.add (j * 34)).add j') = some u) := Lib.hid fun j' u hu => (hbj.cell (block_lt_of_cell (hco j' u hu))).trans (hco j' u hu)
      have HEL := Lib.hid eal
      have HER := Lib.hid ear
      clear eal ear hcy hcz hco hy hz hrr ho' hoky hokz hbj
      generalize hcc : chg x.l R.l j = cj at *
      clear hcc
      go_upto_region 15 with (first
        | ((with_reducible show wpList _ _ _ ({ dst := some 80, op := Op.load _ _, type := _, pos := _, after := _, guard := _ } :: _) _ _); go_must (refine wpList_load_at rfl 48 (.tmp 79) rfl (al.add (j * 34)) y.cells _ Try.underlying48 rfl (size_acc HYO.out.o.1) HCY.out ?_ ?_; go_simp))
        | ((with_reducible show wpList _ _ _ ({ dst := some 12, op := Op.alloc _, type := _, pos := _, after := _, guard := _ } :: _) _ _); go_must (refine wpList_alloc_zero rfl 48 rfl blank13.cells zero_acc ?_))
        | ((with_reducible show wpList _ _ _ ({ dst := none, op := Op.store 48 _ _, type := _, pos := _, after := _, guard := _ } :: _) _ _); go_must (refine wpList_store_new rfl 48 (.tmp 12) (.tmp 80) rfl y.cells (size_acc HYO.out.o.1) (acc_one y) (by rw [acc_len HYO.out.o.1]; rfl) ?_ ?_ ?_; go_simp; go_simp; intro wk hrk hbk hzk)))
      have K1 := Lib.hid (CW14.mk (V := wk) (gk := wr.heap.size) (R5.out.below hbk R5.out.lt) hrk (fun j' u hu => (hbk.cell (block_lt_of_cell (HCZ.out j' u hu))).trans (HCZ.out j' u hu)) (fun j' u hu => (hbk.cell (block_lt_of_cell (HCO.out j' u hu))).trans (HCO.out j' u hu)) : CW14 wk gq wr.heap.size q x y z rr (az.add (j * 34)) (ar.add (j * 34)))
      have BK := Lib.hid (BJ.out.trans (hbk.mono BJ.out.size))
      clear hrk hbk hzk d0 R5 BJ HCY HCZ HCO
      generalize wr.heap.size = gk at *
      by_cases hzy : z = y
      · rw [if_pos hzy] at HCG
        have NE := fun w => acc_eql HZO.out.o.1 HYO.out.o.1 w
        rw [decide_eq_true hzy] at NE
        clear hzy
        try go_frame
        refine wp_region_quiet_lit (by kernel_rfl) (by kernel_rfl) ?_
        try go_frame
        repeat (first
          | ((with_reducible show wpQuiet _ _ _ _ ({ dst := some 84, op := Op.load _ _, type := _, pos := _, after := _, guard := _ } :: _) _); go_must (refine quiet_load_at (by kernel_rfl) 48 (.tmp 83) rfl (az.add (j * 34)) z.cells _ Try.underlying48 rfl (size_acc HZO.out.o.1) (by rintro _ ⟨nq, rfl⟩; exact K1.out.zz) ?_ ?_; go_simp; go_simp))
          | ((with_reducible show wpQuiet _ _ _ _ ({ dst := some 85, op := Op.load _ _, type := _, pos := _, after := _, guard := _ } :: _) _); go_must (refine quiet_load_at (by kernel_rfl) 48 (.tmp 12) rfl ⟨gk, 0, none⟩ y.cells _ Try.underlying48 rfl (size_acc HYO.out.o.1) (by rintro _ ⟨nq, rfl⟩; exact K1.out.ya) ?_ ?_; go_simp; go_simp))
          | go_big_quiet_step (fail))
        refine wpQuiet_nil ?_
        intro nq
        clear NE
        go_wp2_with fail
        go_roundw
        case rel => exact ⟨j + 1, by omega, by rw [HCG.out]; rfl, by go_num, BK.out.trans ⟨rfl, rfl, rfl, Nat.le_refl _, fun _ _ => rfl⟩⟩
        case measure => simp [intOf]; omega
      · rw [if_neg hzy] at HCG
        have NE := fun w => acc_eql HZO.out.o.1 HYO.out.o.1 w
        rw [decide_eq_false hzy] at NE
        have hwa := HWA.out hzy
        have HRW := Lib.hid hwa.1
        have HOWN := Lib.hid hwa.2.1
        have HSG := Lib.hid hwa.2.2.1
        have HSP := Lib.hid hwa.2.2.2
        clear hwa hzy HWA
        try go_frame
        refine wp_region_quiet_lit (by kernel_rfl) (by kernel_rfl) ?_
        try go_frame
        repeat (first
          | ((with_reducible show wpQuiet _ _ _ _ ({ dst := some 84, op := Op.load _ _, type := _, pos := _, after := _, guard := _ } :: _) _); go_must (refine quiet_load_at (by kernel_rfl) 48 (.tmp 83) rfl (az.add (j * 34)) z.cells _ Try.underlying48 rfl (size_acc HZO.out.o.1) (by rintro _ ⟨nq, rfl⟩; exact K1.out.zz) ?_ ?_; go_simp; go_simp))
          | ((with_reducible show wpQuiet _ _ _ _ ({ dst := some 85, op := Op.load _ _, type := _, pos := _, after := _, guard := _ } :: _) _); go_must (refine quiet_load_at (by kernel_rfl) 48 (.tmp 12) rfl ⟨gk, 0, none⟩ y.cells _ Try.underlying48 rfl (size_acc HYO.out.o.1) (by rintro _ ⟨nq, rfl⟩; exact K1.out.ya) ?_ ?_; go_simp; go_simp))
          | go_big_quiet_step (fail))
        refine wpQuiet_nil ?_
        intro nq
        clear NE
        have K2 := Lib.hid (K1.out.drewN nq)
        have BK2 := Lib.hid (BK.out.trans (⟨rfl, rfl, rfl, Nat.le_refl _, fun _ _ => rfl⟩ : Below w4.heap.size wk (wk.drewN nq)))
        clear K1 BK
        generalize wk.drewN nq = wk2 at *
        have hcj : cj ≤ 2 := HC2.out
        go_upto_region 17 with fail
        have cow := K2.out.ow HOR.out
        rw [HRW.out] at cow
        have d1 : wk2.cell? ⟨gq, 1, none⟩ = some (.slice (some ar) q.rn q.rc) := by rw [← HER.out]; exact asked_1 K2.out.r
        have NK := fun w => key_neq HYO.out.o.1 key0_ok.1 w
        by_cases hA : y.o = key0
        · rw [decide_eq_true hA] at NK
          have HA := Lib.hid hA
          clear hA
          try go_frame
          refine wp_region_quiet_lit (by kernel_rfl) (by kernel_rfl) ?_
          try go_frame
          repeat (first
            | ((with_reducible show wpQuiet _ _ _ _ ({ dst := some 98, op := Op.load _ _, type := _, pos := _, after := _, guard := _ } :: _) _); go_must (refine quiet_load_at (by kernel_rfl) 46 (.tmp 97) rfl ⟨gk, 1, none⟩ (bv y.o) _ Try.underlying46 rfl (by rw [size_key, bv_length, HYO.out.o.1]) (by rintro _ ⟨nq, rfl⟩; exact K2.out.yo) ?_ ?_; go_simp; go_simp))
            | ((with_reducible show wpQuiet _ _ _ _ ({ dst := some 99, op := Op.build _ _, type := _, pos := _, after := _, guard := _ } :: _) _); go_must (refine quiet_built14 (by kernel_rfl) _ _ (bv key0).toArray rfl (by simp only [List.map_toArray, List.map_nil]; exact built_key14) ?_; go_frame))
            | go_big_quiet_step (fail))
          refine wpQuiet_nil ?_
          intro nq
          clear NK cow d1
          have K3 := Lib.hid (K2.out.drewN nq)
          have BK3 := Lib.hid (BK2.out.trans (⟨rfl, rfl, rfl, Nat.le_refl _, fun _ _ => rfl⟩ : Below w4.heap.size wk2 (wk2.drewN nq)))
          clear K2 BK2
          generalize wk2.drewN nq = wk3 at *
          by_cases hB : z.c < y.c
          · have czc := K3.out.zc
            have cyc := K3.out.yc
            have d1 : wk3.cell? ⟨gq, 1, none⟩ = some (.slice (some ar) q.rn q.rc) := by rw [← HER.out]; exact asked_1 K3.out.r
            have hsg : rr.sg = true := by
              rcases HSG.out with e | e
              · exact e
              · exact absurd e.1 (by omega)
            have cos := K3.out.os HOR.out
            rw [hsg] at cos
            clear hsg
            go_upto_region 19 with fail
            go_quiet (fail)
            clear czc cyc d1 cos
            have K4 := Lib.hid (K3.out.drewN nq)
            have BK4 := Lib.hid (BK3.out.trans (⟨rfl, rfl, rfl, Nat.le_refl _, fun _ _ => rfl⟩ : Below w4.heap.size wk3 (wk3.drewN nq)))
            clear K3 BK3
            generalize wk3.drewN nq = wk4 at *
            by_cases hs : z.s = y.s
            · have czs := K4.out.zs HZO.out.o.1
              have cys := K4.out.ys HYO.out.o.1
              rw [hs] at czs
              go_upto_region 21 with fail
              go_quiet (fail)
              clear czs cys
              have K5 := Lib.hid (K4.out.drewN nq)
              have BK5 := Lib.hid (BK4.out.trans (⟨rfl, rfl, rfl, Nat.le_refl _, fun _ _ => rfl⟩ : Below w4.heap.size wk4 (wk4.drewN nq)))
              clear K4 BK4
              generalize wk4.drewN nq = wk5 at *
              go_wp2_with fail
              go_roundw
              case rel => exact ⟨j + 1, by omega, by rw [HCG.out]; rfl, by go_num, BK5.out.trans ⟨rfl, rfl, rfl, Nat.le_refl _, fun _ _ => rfl⟩⟩
              case measure => simp [intOf]; omega
            · have czs := K4.out.zs HZO.out.o.1
              have cys := K4.out.ys HYO.out.o.1
              have hsp := HSP.out hs
              have ny : y.s = 0 := hsp.1
              have nz : z.s = R.n := hsp.2
              rw [nz] at czs hs
              rw [ny] at cys hs
              clear hsp ny nz
              go_upto_region 21 with fail
              go_quiet (fail)
              clear czs cys
              have K5 := Lib.hid (K4.out.drewN nq)
              have BK5 := Lib.hid (BK4.out.trans (⟨rfl, rfl, rfl, Nat.le_refl _, fun _ _ => rfl⟩ : Below w4.heap.size wk4 (wk4.drewN nq)))
              clear K4 BK4
              generalize wk4.drewN nq = wk5 at *
              go_wp2_with fail
              go_roundw
              case rel => exact ⟨j + 1, by omega, by rw [HCG.out]; rfl, by go_num, BK5.out.trans ⟨rfl, rfl, rfl, Nat.le_refl _, fun _ _ => rfl⟩⟩
              case measure => simp [intOf]; omega
          · by_cases hC : z.o = y.o
            · by_cases hs : z.s = y.s
              · have czc := K3.out.zc
                have cyc := K3.out.yc
                have d1 : wk3.cell? ⟨gq, 1, none⟩ = some (.slice (some ar) q.rn q.rc) := by rw [← HER.out]; exact asked_1 K3.out.r
                have NZ := fun w => key_neq HZO.out.o.1 HYO.out.o.1 w
                rw [decide_eq_true hC] at NZ
                have czs := K3.out.zs HZO.out.o.1
                have cys := K3.out.ys HYO.out.o.1
                rw [hs] at czs
                have HC := Lib.hid hC
                clear hC
                go_upto_region 19 with fail
                try go_frame
                refine wp_region_quiet_lit (by kernel_rfl) (by kernel_rfl) ?_
                try go_frame
                repeat (first
                  | ((with_reducible show wpQuiet _ _ _ _ ({ dst := some 135, op := Op.load _ _, type := _, pos := _, after := _, guard := _ } :: _) _); go_must (refine quiet_load_at (by kernel_rfl) 46 (.tmp 134) rfl ⟨(az.add (j * 34)).block, (az.add (j * 34)).off + 1, none⟩ (bv z.o) _ Try.underlying46 rfl (by rw [size_key, bv_length, HZO.out.o.1]) (by rintro _ ⟨nq, rfl⟩; exact K3.out.zo) ?_ ?_; go_simp; go_simp))
                  | ((with_reducible show wpQuiet _ _ _ _ ({ dst := some 137, op := Op.load _ _, type := _, pos := _, after := _, guard := _ } :: _) _); go_must (refine quiet_load_at (by kernel_rfl) 46 (.tmp 136) rfl ⟨gk, 1, none⟩ (bv y.o) _ Try.underlying46 rfl (by rw [size_key, bv_length, HYO.out.o.1]) (by rintro _ ⟨nq, rfl⟩; exact K3.out.yo) ?_ ?_; go_simp; go_simp))
                  | go_big_quiet_step (fail))
                refine wpQuiet_nil ?_
                intro nq
                clear czc cyc d1 NZ czs cys
                have K4 := Lib.hid (K3.out.drewN nq)
                have BK4 := Lib.hid (BK3.out.trans (⟨rfl, rfl, rfl, Nat.le_refl _, fun _ _ => rfl⟩ : Below w4.heap.size wk3 (wk3.drewN nq)))
                clear K3 BK3
                generalize wk3.drewN nq = wk4 at *
                have czs := K4.out.zs HZO.out.o.1
                have cys := K4.out.ys HYO.out.o.1
                rw [hs] at czs
                go_upto_region 21 with fail
                go_quiet (fail)
                clear czs cys
                have K5 := Lib.hid (K4.out.drewN nq)
                have BK5 := Lib.hid (BK4.out.trans (⟨rfl, rfl, rfl, Nat.le_refl _, fun _ _ => rfl⟩ : Below w4.heap.size wk4 (wk4.drewN nq)))
                clear K4 BK4
                generalize wk4.drewN nq = wk5 at *
                go_wp2_with fail
                go_roundw
                case rel => exact ⟨j + 1, by omega, by rw [HCG.out]; rfl, by go_num, BK5.out.trans ⟨rfl, rfl, rfl, Nat.le_refl _, fun _ _ => rfl⟩⟩
                case measure => simp [intOf]; omega
              · have czc := K3.out.zc
                have cyc := K3.out.yc
                have d1 : wk3.cell? ⟨gq, 1, none⟩ = some (.slice (some ar) q.rn q.rc) := by rw [← HER.out]; exact asked_1 K3.out.r
                have NZ := fun w => key_neq HZO.out.o.1 HYO.out.o.1 w
                rw [decide_eq_true hC] at NZ
                have czs := K3.out.zs HZO.out.o.1
                have cys := K3.out.ys HYO.out.o.1
                have hsg : rr.sg = true := by
                  rcases HSG.out with e | e
                  · exact e
                  · exact absurd e.2.2 hs
                have cos := K3.out.os HOR.out
                rw [hsg] at cos
                clear hsg
                have hs1 : (z.s == y.s) = false := by simpa using hs
                have hs2 : (z.s != y.s) = true := by simpa using hs
                have hs3 : decide (z.s = y.s) = false := decide_eq_false hs
                have HC := Lib.hid hC
                clear hC
                go_upto_region 19 with fail
                try go_frame
                refine wp_region_quiet_lit (by kernel_rfl) (by kernel_rfl) ?_
                try go_frame
                repeat (first
                  | ((with_reducible show wpQuiet _ _ _ _ ({ dst := some 135, op := Op.load _ _, type := _, pos := _, after := _, guard := _ } :: _) _); go_must (refine quiet_load_at (by kernel_rfl) 46 (.tmp 134) rfl ⟨(az.add (j * 34)).block, (az.add (j * 34)).off + 1, none⟩ (bv z.o) _ Try.underlying46 rfl (by rw [size_key, bv_length, HZO.out.o.1]) (by rintro _ ⟨nq, rfl⟩; exact K3.out.zo) ?_ ?_; go_simp; go_simp))
                  | ((with_reducible show wpQuiet _ _ _ _ ({ dst := some 137, op := Op.load _ _, type := _, pos := _, after := _, guard := _ } :: _) _); go_must (refine quiet_load_at (by kernel_rfl) 46 (.tmp 136) rfl ⟨gk, 1, none⟩ (bv y.o) _ Try.underlying46 rfl (by rw [size_key, bv_length, HYO.out.o.1]) (by rintro _ ⟨nq, rfl⟩; exact K3.out.yo) ?_ ?_; go_simp; go_simp))
                  | go_big_quiet_step (fail))
                refine wpQuiet_nil ?_
                intro nq
                clear czc cyc d1 NZ czs cys cos hs1 hs2 hs3
                have K4 := Lib.hid (K3.out.drewN nq)
                have BK4 := Lib.hid (BK3.out.trans (⟨rfl, rfl, rfl, Nat.le_refl _, fun _ _ => rfl⟩ : Below w4.heap.size wk3 (wk3.drewN nq)))
                clear K3 BK3
                generalize wk3.drewN nq = wk4 at *
                have czs := K4.out.zs HZO.out.o.1
                have cys := K4.out.ys HYO.out.o.1
                have hsp := HSP.out hs
                have ny : y.s = 0 := hsp.1
                have nz : z.s = R.n := hsp.2
                rw [nz] at czs hs
                rw [ny] at cys hs
                clear hsp ny nz
                go_upto_region 21 with fail
                go_quiet (fail)
                clear czs cys
                have K5 := Lib.hid (K4.out.drewN nq)
                have BK5 := Lib.hid (BK4.out.trans (⟨rfl, rfl, rfl, Nat.le_refl _, fun _ _ => rfl⟩ : Below w4.heap.size wk4 (wk4.drewN nq)))
                clear K4 BK4
                generalize wk4.drewN nq = wk5 at *
                go_wp2_with fail
                go_roundw
                case rel => exact ⟨j + 1, by omega, by rw [HCG.out]; rfl, by go_num, BK5.out.trans ⟨rfl, rfl, rfl, Nat.le_refl _, fun _ _ => rfl⟩⟩
                case measure => simp [intOf]; omega
            · have czc := K3.out.zc
              have cyc := K3.out.yc
              have d1 : wk3.cell? ⟨gq, 1, none⟩ = some (.slice (some ar) q.rn q.rc) := by rw [← HER.out]; exact asked_1 K3.out.r
              have NZ := fun w => key_neq HZO.out.o.1 HYO.out.o.1 w
              rw [decide_eq_false hC] at NZ
              have hsg : rr.sg = true := by
                rcases HSG.out with e | e
                · exact e
                · exact absurd e.2.1 hC
              have cos := K3.out.os HOR.out
              rw [hsg] at cos
              clear hsg
              have HC := Lib.hid hC
              clear hC
              go_upto_region 19 with fail
              try go_frame
              refine wp_region_quiet_lit (by kernel_rfl) (by kernel_rfl) ?_
              try go_frame
              repeat (first
                | ((with_reducible show wpQuiet _ _ _ _ ({ dst := some 135, op := Op.load _ _, type := _, pos := _, after := _, guard := _ } :: _) _); go_must (refine quiet_load_at (by kernel_rfl) 46 (.tmp 134) rfl ⟨(az.add (j * 34)).block, (az.add (j * 34)).off + 1, none⟩ (bv z.o) _ Try.underlying46 rfl (by rw [size_key, bv_length, HZO.out.o.1]) (by rintro _ ⟨nq, rfl⟩; exact K3.out.zo) ?_ ?_; go_simp; go_simp))
                | ((with_reducible show wpQuiet _ _ _ _ ({ dst := some 137, op := Op.load _ _, type := _, pos := _, after := _, guard := _ } :: _) _); go_must (refine quiet_load_at (by kernel_rfl) 46 (.tmp 136) rfl ⟨gk, 1, none⟩ (bv y.o) _ Try.underlying46 rfl (by rw [size_key, bv_length, HYO.out.o.1]) (by rintro _ ⟨nq, rfl⟩; exact K3.out.yo) ?_ ?_; go_simp; go_simp))
                | go_big_quiet_step (fail))
              refine wpQuiet_nil ?_
              intro nq
              clear czc cyc d1 NZ cos
              have K4 := Lib.hid (K3.out.drewN nq)
              have BK4 := Lib.hid (BK3.out.trans (⟨rfl, rfl, rfl, Nat.le_refl _, fun _ _ => rfl⟩ : Below w4.heap.size wk3 (wk3.drewN nq)))
              clear K3 BK3
              generalize wk3.drewN nq = wk4 at *
              by_cases hs : z.s = y.s
              · have czs := K4.out.zs HZO.out.o.1
                have cys := K4.out.ys HYO.out.o.1
                rw [hs] at czs
                go_upto_region 21 with fail
                go_quiet (fail)
                clear czs cys
                have K5 := Lib.hid (K4.out.drewN nq)
                have BK5 := Lib.hid (BK4.out.trans (⟨rfl, rfl, rfl, Nat.le_refl _, fun _ _ => rfl⟩ : Below w4.heap.size wk4 (wk4.drewN nq)))
                clear K4 BK4
                generalize wk4.drewN nq = wk5 at *
                go_wp2_with fail
                go_roundw
                case rel => exact ⟨j + 1, by omega, by rw [HCG.out]; rfl, by go_num, BK5.out.trans ⟨rfl, rfl, rfl, Nat.le_refl _, fun _ _ => rfl⟩⟩
                case measure => simp [intOf]; omega
              · have czs := K4.out.zs HZO.out.o.1
                have cys := K4.out.ys HYO.out.o.1
                have hsp := HSP.out hs
                have ny : y.s = 0 := hsp.1
                have nz : z.s = R.n := hsp.2
                rw [nz] at czs hs
                rw [ny] at cys hs
                clear hsp ny nz
                go_upto_region 21 with fail
                go_quiet (fail)
                clear czs cys
                have K5 := Lib.hid (K4.out.drewN nq)
                have BK5 := Lib.hid (BK4.out.trans (⟨rfl, rfl, rfl, Nat.le_refl _, fun _ _ => rfl⟩ : Below w4.heap.size wk4 (wk4.drewN nq)))
                clear K4 BK4
                generalize wk4.drewN nq = wk5 at *
                go_wp2_with fail
                go_roundw
                case rel => exact ⟨j + 1, by omega, by rw [HCG.out]; rfl, by go_num, BK5.out.trans ⟨rfl, rfl, rfl, Nat.le_refl _, fun _ _ => rfl⟩⟩
                case measure => simp [intOf]; omega
        · rw [decide_eq_false hA] at NK
          have hown := HOWN.out hA
          have hB : ¬ z.c < y.c := by omega
          have hC := hown.2
          clear hA
          have NZ := fun w => key_neq HZO.out.o.1 HYO.out.o.1 w
          rw [decide_eq_true hC] at NZ
          have HC0 := Lib.hid hC
          clear hC hown
          have czc := K2.out.zc
          have cyc := K2.out.yc
          try go_frame
          refine wp_region_quiet_lit (by kernel_rfl) (by kernel_rfl) ?_
          try go_frame
          repeat (first
            | ((with_reducible show wpQuiet _ _ _ _ ({ dst := some 98, op := Op.load _ _, type := _, pos := _, after := _, guard := _ } :: _) _); go_must (refine quiet_load_at (by kernel_rfl) 46 (.tmp 97) rfl ⟨gk, 1, none⟩ (bv y.o) _ Try.underlying46 rfl (by rw [size_key, bv_length, HYO.out.o.1]) (by rintro _ ⟨nq, rfl⟩; exact K2.out.yo) ?_ ?_; go_simp; go_simp))
            | ((with_reducible show wpQuiet _ _ _ _ ({ dst := some 99, op := Op.build _ _, type := _, pos := _, after := _, guard := _ } :: _) _); go_must (refine quiet_built14 (by kernel_rfl) _ _ (bv key0).toArray rfl (by simp only [List.map_toArray, List.map_nil]; exact built_key14) ?_; go_frame))
            | ((with_reducible show wpQuiet _ _ _ _ ({ dst := some 115, op := Op.load _ _, type := _, pos := _, after := _, guard := _ } :: _) _); go_must (refine quiet_load_at (by kernel_rfl) 46 (.tmp 114) rfl ⟨(az.add (j * 34)).block, (az.add (j * 34)).off + 1, none⟩ (bv z.o) _ Try.underlying46 rfl (by rw [size_key, bv_length, HZO.out.o.1]) (by rintro _ ⟨nq, rfl⟩; exact K2.out.zo) ?_ ?_; go_simp; go_simp))
            | ((with_reducible show wpQuiet _ _ _ _ ({ dst := some 117, op := Op.load _ _, type := _, pos := _, after := _, guard := _ } :: _) _); go_must (refine quiet_load_at (by kernel_rfl) 46 (.tmp 116) rfl ⟨gk, 1, none⟩ (bv y.o) _ Try.underlying46 rfl (by rw [size_key, bv_length, HYO.out.o.1]) (by rintro _ ⟨nq, rfl⟩; exact K2.out.yo) ?_ ?_; go_simp; go_simp))
            | go_big_quiet_step (fail))
          refine wpQuiet_nil ?_
          intro nq
          clear NK NZ cow d1 czc cyc
          have K3 := Lib.hid (K2.out.drewN nq)
          have BK3 := Lib.hid (BK2.out.trans (⟨rfl, rfl, rfl, Nat.le_refl _, fun _ _ => rfl⟩ : Below w4.heap.size wk2 (wk2.drewN nq)))
          clear K2 BK2
          generalize wk2.drewN nq = wk3 at *
          have hC := HC0.out
          by_cases hs : z.s = y.s
          · have czc := K3.out.zc
            have cyc := K3.out.yc
            have d1 : wk3.cell? ⟨gq, 1, none⟩ = some (.slice (some ar) q.rn q.rc) := by rw [← HER.out]; exact asked_1 K3.out.r
            have NZ := fun w => key_neq HZO.out.o.1 HYO.out.o.1 w
            rw [decide_eq_true hC] at NZ
            have czs := K3.out.zs HZO.out.o.1
            have cys := K3.out.ys HYO.out.o.1
            rw [hs] at czs
            have HC := Lib.hid hC
            clear hC
            go_upto_region 19 with fail
            try go_frame
            refine wp_region_quiet_lit (by kernel_rfl) (by kernel_rfl) ?_
            try go_frame
            repeat (first
              | ((with_reducible show wpQuiet _ _ _ _ ({ dst := some 135, op := Op.load _ _, type := _, pos := _, after := _, guard := _ } :: _) _); go_must (refine quiet_load_at (by kernel_rfl) 46 (.tmp 134) rfl ⟨(az.add (j * 34)).block, (az.add (j * 34)).off + 1, none⟩ (bv z.o) _ Try.underlying46 rfl (by rw [size_key, bv_length, HZO.out.o.1]) (by rintro _ ⟨nq, rfl⟩; exact K3.out.zo) ?_ ?_; go_simp; go_simp))
              | ((with_reducible show wpQuiet _ _ _ _ ({ dst := some 137, op := Op.load _ _, type := _, pos := _, after := _, guard := _ } :: _) _); go_must (refine quiet_load_at (by kernel_rfl) 46 (.tmp 136) rfl ⟨gk, 1, none⟩ (bv y.o) _ Try.underlying46 rfl (by rw [size_key, bv_length, HYO.out.o.1]) (by rintro _ ⟨nq, rfl⟩; exact K3.out.yo) ?_ ?_; go_simp; go_simp))
              | go_big_quiet_step (fail))
            refine wpQuiet_nil ?_
            intro nq
            clear czc cyc d1 NZ czs cys
            have K4 := Lib.hid (K3.out.drewN nq)
            have BK4 := Lib.hid (BK3.out.trans (⟨rfl, rfl, rfl, Nat.le_refl _, fun _ _ => rfl⟩ : Below w4.heap.size wk3 (wk3.drewN nq)))
            clear K3 BK3
            generalize wk3.drewN nq = wk4 at *
            have czs := K4.out.zs HZO.out.o.1
            have cys := K4.out.ys HYO.out.o.1
            rw [hs] at czs
            go_upto_region 21 with fail
            go_quiet (fail)
            clear czs cys
            have K5 := Lib.hid (K4.out.drewN nq)
            have BK5 := Lib.hid (BK4.out.trans (⟨rfl, rfl, rfl, Nat.le_refl _, fun _ _ => rfl⟩ : Below w4.heap.size wk4 (wk4.drewN nq)))
            clear K4 BK4
            generalize wk4.drewN nq = wk5 at *
            go_wp2_with fail
            go_roundw
            case rel => exact ⟨j + 1, by omega, by rw [HCG.out]; rfl, by go_num, BK5.out.trans ⟨rfl, rfl, rfl, Nat.le_refl _, fun _ _ => rfl⟩⟩
            case measure => simp [intOf]; omega
          · have czc := K3.out.zc
            have cyc := K3.out.yc
            have d1 : wk3.cell? ⟨gq, 1, none⟩ = some (.slice (some ar) q.rn q.rc) := by rw [← HER.out]; exact asked_1 K3.out.r
            have NZ := fun w => key_neq HZO.out.o.1 HYO.out.o.1 w
            rw [decide_eq_true hC] at NZ
            have czs := K3.out.zs HZO.out.o.1
            have cys := K3.out.ys HYO.out.o.1
            have hsg : rr.sg = true := by
              rcases HSG.out with e | e
              · exact e
              · exact absurd e.2.2 hs
            have cos := K3.out.os HOR.out
            rw [hsg] at cos
            clear hsg
            have hs1 : (z.s == y.s) = false := by simpa using hs
            have hs2 : (z.s != y.s) = true := by simpa using hs
            have hs3 : decide (z.s = y.s) = false := decide_eq_false hs
            have HC := Lib.hid hC
            clear hC
            go_upto_region 19 with fail
            try go_frame
            refine wp_region_quiet_lit (by kernel_rfl) (by kernel_rfl) ?_
            try go_frame
            repeat (first
              | ((with_reducible show wpQuiet _ _ _ _ ({ dst := some 135, op := Op.load _ _, type := _, pos := _, after := _, guard := _ } :: _) _); go_must (refine quiet_load_at (by kernel_rfl) 46 (.tmp 134) rfl ⟨(az.add (j * 34)).block, (az.add (j * 34)).off + 1, none⟩ (bv z.o) _ Try.underlying46 rfl (by rw [size_key, bv_length, HZO.out.o.1]) (by rintro _ ⟨nq, rfl⟩; exact K3.out.zo) ?_ ?_; go_simp; go_simp))
              | ((with_reducible show wpQuiet _ _ _ _ ({ dst := some 137, op := Op.load _ _, type := _, pos := _, after := _, guard := _ } :: _) _); go_must (refine quiet_load_at (by kernel_rfl) 46 (.tmp 136) rfl ⟨gk, 1, none⟩ (bv y.o) _ Try.underlying46 rfl (by rw [size_key, bv_length, HYO.out.o.1]) (by rintro _ ⟨nq, rfl⟩; exact K3.out.yo) ?_ ?_; go_simp; go_simp))
              | go_big_quiet_step (fail))
            refine wpQuiet_nil ?_
            intro nq
            clear czc cyc d1 NZ czs cys cos hs1 hs2 hs3
            have K4 := Lib.hid (K3.out.drewN nq)
            have BK4 := Lib.hid (BK3.out.trans (⟨rfl, rfl, rfl, Nat.le_refl _, fun _ _ => rfl⟩ : Below w4.heap.size wk3 (wk3.drewN nq)))
            clear K3 BK3
            generalize wk3.drewN nq = wk4 at *
            have czs := K4.out.zs HZO.out.o.1
            have cys := K4.out.ys HYO.out.o.1
            have hsp := HSP.out hs
            have ny : y.s = 0 := hsp.1
            have nz : z.s = R.n := hsp.2
            rw [nz] at czs hs
            rw [ny] at cys hs
            clear hsp ny nz
            go_upto_region 21 with fail
            go_quiet (fail)
            clear czs cys
            have K5 := Lib.hid (K4.out.drewN nq)
            have BK5 := Lib.hid (BK4.out.trans (⟨rfl, rfl, rfl, Nat.le_refl _, fun _ _ => rfl⟩ : Below w4.heap.size wk4 (wk4.drewN nq)))
            clear K4 BK4
            generalize wk4.drewN nq = wk5 at *
            go_wp2_with fail
            go_roundw
            case rel => exact ⟨j + 1, by omega, by rw [HCG.out]; rfl, by go_num, BK5.out.trans ⟨rfl, rfl, rfl, Nat.le_refl _, fun _ _ => rfl⟩⟩
            case measure => simp [intOf]; omega
    · obtain rfl : j = q.ln := by omega
      have hc2 := chg_two WT.out.d.off q.ln
      generalize chg x.l R.l q.ln = cj at *
      have hc3 : (cj : Int) ≤ 2 := by omega
      go_wp2_with fail
      refine (lives14_ _).mono ?_
      rintro e w6 ⟨rfl, hb6⟩
      have B6 := Lib.hid ((B4.out.trans (BJ.out.mono B4.out.size)).trans (hb6.mono (Nat.le_trans B4.out.size BJ.out.size)))
      clear hb6
      go_wp2_with fail
      go_ret
      exact ⟨rfl, B6.out⟩
end Go.Proofs.Ytodoaebpkmhhmaa

/-
  Of part RolesMath14: what is needed here.
-/
namespace Go.Proofs.Ytodoaebpkmhhmaa
open Go.RowKit
set_option linter.unusedVariables false
set_option maxRecDepth 100000
/-- a call that went well: what its data ask for, and who takes part -/
structure Fine (l : List LAcc) (r : List LRole) (acc dat : List Int) (x : LAsk) : Prop where
  len : l.length = r.length
  dat : dat14 dat = some x
  plc : plc14 x r acc = 0
theorem do_fine {l : List LAcc} {r : List LRole} {acc dat : List Int} (h : (do14 l r acc dat).e = 0) : ∃ x, Fine l r acc dat x := by
  by_cases hn : l.length = r.length
  rotate_left
  · unfold do14 at h
    rw [if_pos hn] at h
    cases h
  cases hdat : dat14 dat with
  | none =>
    unfold do14 at h
    rw [if_neg (by omega), hdat] at h
    cases h
  | some x =>
  by_cases hp : plc14 x r acc = 0
  · exact ⟨x, hn, hdat, hp⟩
  · unfold do14 at h
    rw [if_neg (by omega), hdat] at h
    dsimp only at h
    rw [if_pos hp] at h
    exact absurd h hp
theorem need_pos (x : LAsk) : 0 < need14 x ∧ need14 x ≤ 2 := by unfold need14; split <;> omega
theorem getD_app {acc more : List Int} {k : Nat} (h : k < acc.length) : (acc ++ more).getD k 0 = acc.getD k 0 := by
  rw [List.getD_eq_getElem?_getD, List.getD_eq_getElem?_getD, List.getElem?_append_left h]
theorem do_at {l : List LAcc} {r : List LRole} {acc dat : List Int} {x : LAsk} (hn : l.length = r.length) (hdat : dat14 dat = some x) : do14 l r acc dat = if plc14 x r acc ≠ 0 then bad14 (plc14 x r acc) else deed14 l x (acc.getD 0 0).toNat (acc.getD (need14 x - 1) 0).toNat := by
  unfold do14
  rw [if_neg (by omega), hdat]
theorem plc_more {x : LAsk} {r : List LRole} {acc more : List Int} (h : plc14 x r acc = 0) (hm : ∀ i ∈ more, i < (r.length : Int)) : plc14 x r (acc ++ more) = 0 := by
  obtain ⟨h1, h2⟩ := plc_ok h
  obtain ⟨p1, p2⟩ := need_pos x
  unfold plc14 at h ⊢
  rw [if_neg (by omega)] at h
  rw [if_neg (by rw [List.length_append]; omega)]
  rw [if_neg (by rintro ⟨i, hi, h3⟩; have := h2 i hi; omega)] at h
  rw [if_neg (by
    rintro ⟨i, hi, h3⟩
    rcases List.mem_append.1 hi with hi | hi
    · have := h2 i hi; omega
    · have := hm i hi; omega)]
  rw [getD_app (by omega : 0 < acc.length)]
  by_cases ht : two14 x
  · have h4 : 1 < acc.length := by have := need_two ht; omega
    rw [getD_app h4]
    exact h
  · rw [if_neg ht] at h ⊢
    exact h
/-- accounts that stand behind make no difference, if they are there -/
theorem do_more {l : List LAcc} {r : List LRole} {acc dat more : List Int} (h : (do14 l r acc dat).e = 0) (hm : ∀ i ∈ more, i < (r.length : Int)) : do14 l r (acc ++ more) dat = do14 l r acc dat := by
  obtain ⟨x, f⟩ := do_fine h
  obtain ⟨h1, h2⟩ := plc_ok f.plc
  obtain ⟨p1, p2⟩ := need_pos x
  rw [do_at f.len f.dat, do_at f.len f.dat, plc_more f.plc hm, f.plc, getD_app (by omega), getD_app (by omega)]
/-- one that is not there stops it -/
theorem do_out {l : List LAcc} {r : List LRole} {acc dat more : List Int} (h : (do14 l r acc dat).e = 0) (hm : ¬ ∀ i ∈ more, i < (r.length : Int)) : (do14 l r (acc ++ more) dat).e = 8 := by
  obtain ⟨x, f⟩ := do_fine h
  obtain ⟨h1, h2⟩ := plc_ok f.plc
  have hp : plc14 x r (acc ++ more) = 8 := by
    unfold plc14
    rw [if_neg (by rw [List.length_append]; omega), if_pos (by
      obtain ⟨i, hi⟩ := Classical.not_forall.1 hm
      obtain ⟨hi, h3⟩ := Classical.not_imp.1 hi
      exact ⟨i, List.mem_append_right _ hi, by omega⟩)]
  rw [do_at f.len f.dat, hp]
  rfl
theorem rol_set {r : List LRole} {k : Nat} (hk : k < r.length) (y : LRole) : rol14 (r.set k y) (k : Int) = y := by
  unfold rol14
  rw [Int.toNat_natCast, List.getD_eq_getElem?_getD, List.getElem?_set_self hk]
  rfl
/-- the first one's role is another -/
theorem do_role {l : List LAcc} {r : List LRole} {acc dat : List Int} (hb : AllBytes acc) (h : (do14 l r acc dat).e = 0) : ∃ k : Nat, 0 < acc.length ∧ acc.getD 0 0 = k ∧ k < r.length ∧ ∀ y : LRole, chk14 true y ≠ 0 → (do14 l (r.set k y) acc dat).e = chk14 true y := by
  obtain ⟨x, f⟩ := do_fine h
  obtain ⟨h1, h2⟩ := plc_ok f.plc
  obtain ⟨p1, p2⟩ := need_pos x
  obtain ⟨k, hk, hkn⟩ := acc_idx (k := 0) hb (by omega) h2
  refine ⟨k, by omega, hk, hkn, fun y hy => ?_⟩
  have hp : plc14 x (r.set k y) acc = chk14 true y := by
    unfold plc14
    rw [if_neg (by omega), if_neg (by rintro ⟨i, hi, h3⟩; have := h2 i hi; rw [List.length_set] at h3; omega), hk, rol_set hkn, if_pos hy]
  rw [do_at (by rw [List.length_set]; exact f.len) f.dat, hp, if_pos hy]
  rfl
theorem chk_nosign (k : List Int) (b : Bool) : chk14 true ⟨k, false, b⟩ = 14 := rfl
theorem chk_nowrite (k : List Int) : chk14 true ⟨k, true, false⟩ = 15 := rfl
end Go.Proofs.Ytodoaebpkmhhmaa

/-
  Of part RoleAt14: what is needed here.
-/
namespace Go.Proofs.Ytodoaebpkmhhmaa
open Go.RowKit
set_option linter.unusedVariables false
set_option maxRecDepth 100000
def rolC (L : List LRole) : List Value := (L.map LRole.cells).flatten
theorem rolC_len {L : List LRole} (h : ∀ y ∈ L, RoleOk y) : (rolC L).length = L.length * 34 := by
  unfold rolC
  rw [cs_flat (roles_each h), List.length_map]
theorem rolC_one (L : List LRole) : ∀ u ∈ rolC L, u.oneCell' = true := fun u hu => by
  obtain ⟨c, hc, hu⟩ := List.mem_flatten.1 hu
  obtain ⟨x, _, rfl⟩ := List.mem_map.1 hc
  exact role_one x u hu
theorem rolC_part {L : List LRole} {k : Nat} {y : LRole} (h : L[k]? = some y) : rolC L = rolC (L.take k) ++ (y.cells ++ rolC (L.drop (k + 1))) := by
  have hk := (List.getElem?_eq_some_iff.1 h).1
  have e0 : L[k] = y := (List.getElem?_eq_some_iff.1 h).2
  have e : L = L.take k ++ (y :: L.drop (k + 1)) := by rw [← e0, ← List.drop_eq_getElem_cons hk, List.take_append_drop]
  have e1 : ∀ (a b : List LRole) (z : LRole), rolC (a ++ z :: b) = rolC a ++ (z.cells ++ rolC b) := fun a b z => by unfold rolC; rw [List.map_append, List.flatten_append, List.map_cons, List.flatten_cons]
  exact (congrArg rolC e).trans (e1 _ _ _)
theorem rolC_set {L : List LRole} {k : Nat} (h : k < L.length) (y : LRole) : rolC (L.set k y) = rolC (L.take k) ++ (y.cells ++ rolC (L.drop (k + 1))) := by
  have e1 : ∀ (a b : List LRole) (z : LRole), rolC (a ++ z :: b) = rolC a ++ (z.cells ++ rolC b) := fun a b z => by unfold rolC; rw [List.map_append, List.flatten_append, List.map_cons, List.flatten_cons]
  rw [List.set_eq_take_append_cons_drop, if_pos h]
  exact e1 _ _ _
theorem rolC_take {L : List LRole} (h : ∀ y ∈ L, RoleOk y) {k : Nat} (hk : k < L.length) : (rolC (L.take k)).length = k * 34 := by
  rw [rolC_len fun x hx => h x (List.mem_of_mem_take hx), List.length_take, Nat.min_eq_left (by omega)]
/-- roles in block g, the k-th one is y -/
structure RoAt (V : World) (g n k : Nat) (rest : List Value) (L : List LRole) (y : LRole) : Prop where
  row : Row V g 50 (rolC L ++ rest)
  len : L.length = n
  ok : ∀ z ∈ L, RoleOk z
  at_ : L[k]? = some y
section
variable {V V' : World} {g n k B : Nat} {rest : List Value} {L : List LRole} {y : LRole}
theorem RoAt.below (h : RoAt V g n k rest L y) (hb : Below V.heap.size V V') : RoAt V' g n k rest L y := ⟨h.row.below hb h.row.lt, h.len, h.ok, h.at_⟩
theorem RoAt.in_ (h : RoAt V g n k rest L y) : RolesIn V V.heap.size (some ⟨g, 0, none⟩) n L := roles_row h.row h.len h.ok h.row.lt
theorem RoAt.cell (h : RoAt V g n k rest L y) {j : Nat} {u : Value} (hu : y.cells[j]? = some u) : V.cell? ⟨g, k * 34 + j, none⟩ = some u := by
  have hk := (List.getElem?_eq_some_iff.1 h.at_).1
  have hl := rolC_take h.ok hk
  have hj := (List.getElem?_eq_some_iff.1 hu).1
  rw [h.row.cell, rolC_part h.at_, List.append_assoc, List.getElem?_append_right (by omega), hl, Nat.add_sub_cancel_left, List.append_assoc, List.getElem?_append_left hj]
  exact hu
theorem RoAt.sg (h : RoAt V g n k rest L y) : V.cell? ⟨g, k * 34 + 32, none⟩ = some (.bool y.sg) := h.cell (role_sg (h.ok y (List.mem_of_getElem? h.at_)).1)
theorem RoAt.wr (h : RoAt V g n k rest L y) : V.cell? ⟨g, k * 34 + 33, none⟩ = some (.bool y.wr) := h.cell (role_wr (h.ok y (List.mem_of_getElem? h.at_)).1)
theorem RoAt.fz (h : RoAt V g n k rest L y) (i : Nat) : V.frozen? ⟨g, i, none⟩ = false := h.row.frozen i
theorem RoAt.set (h : RoAt V g n k rest L y) {j : Nat} {u : Value} {z : LRole} (hz : RoleOk z) (hj : j < 34) (hc : y.cells.set j u = z.cells) : RoAt (V.setCell ⟨g, k * 34 + j, none⟩ u) g n k rest (L.set k z) z := by
  have hk := (List.getElem?_eq_some_iff.1 h.at_).1
  have hl := rolC_take h.ok hk
  have hy : y.cells.length = 34 := role_len (h.ok y (List.mem_of_getElem? h.at_)).1
  have hr := h.row.set_ (k * 34 + j) u
  have e : (rolC L ++ rest).set (k * 34 + j) u = rolC (L.set k z) ++ rest := by
    rw [rolC_set hk, ← hc, rolC_part h.at_, List.append_assoc, List.set_append_right _ _ (by omega), hl, Nat.add_sub_cancel_left, List.append_assoc, List.set_append_left _ _ (by omega), List.append_assoc, List.append_assoc]
  rw [e] at hr
  refine ⟨hr, by rw [List.length_set]; exact h.len, fun w hw => ?_, by rw [List.getElem?_set_self hk]⟩
  rcases List.mem_or_eq_of_mem_set hw with hw | rfl
  · exact h.ok w hw
  · exact hz
theorem role_setS {y : LRole} (h : y.key.length = 32) (b : Bool) : y.cells.set 32 (.bool b) = (LRole.mk y.key b y.wr).cells := by
  unfold LRole.cells
  rw [List.set_append_right _ _ (by rw [bv_length, h]; omega), bv_length, h]
  rfl
theorem role_setW {y : LRole} (h : y.key.length = 32) (b : Bool) : y.cells.set 33 (.bool b) = (LRole.mk y.key y.sg b).cells := by
  unfold LRole.cells
  rw [List.set_append_right _ _ (by rw [bv_length, h]; omega), bv_length, h]
  rfl
end
theorem own_ro14 {w : World} {base n k : Nat} {v : Value} {L : List LRole} {y : LRole} (h : w.ownsRow base 50 34 v n (rolC L)) (hn : L.length = n) (h0 : 0 < n) (ho : ∀ x ∈ L, RoleOk x) (hy : L[k]? = some y) : ∃ g cap rest, v = .slice (some ⟨g, 0, none⟩) n cap ∧ RoAt w g n k rest L y ∧ base ≤ g ∧ n ≤ cap ∧ cap ≤ maxLen := by
  rcases h.2 with ⟨_, e⟩ | ⟨g, cap, cur, hv, hg, hh, h1, h2, h3, h4⟩
  · omega
  · have e : cur.toList = rolC L ++ cur.toList.drop (n * 34) := by rw [← h4, List.take_append_drop]
    refine ⟨g, cap, cur.toList.drop (n * 34), hv, ⟨⟨?_⟩, hn, ho, hy⟩, hg, h1, h2⟩
    rw [hh, ← e]
theorem RolesIn.sees14 {w : World} {B n : Nat} {A : Option Addr} {l : List LRole} (h : RolesIn w B A n l) : Sees w B A (n * 34) (rolC l) := h.cs.sees
/-- an instruction whose accounts are the call's own -/
theorem ins_own14 {V : World} {base : Nat} {p : Int} {A : Option Addr} {c : Nat} {D : Option Addr} {dn dc : Nat} {acc dat : List Int} (ho : OwnB V base (.slice A acc.length c) acc) (hb : AllBytes acc) {B : Nat} (hd : Sees V B D dn (bv dat)) (hdb : AllBytes dat) (hdc : dn ≤ dc ∧ dc ≤ maxLen) (hB : B ≤ V.heap.size) : InsAt14 V V.heap.size p A acc.length c D dn dc acc dat := by
  obtain ⟨A', c', e, h1, h2, h3, _⟩ := own_form2 ho
  injection e with e1 _ e2
  subst e1
  subst e2
  exact ⟨by simpa using h1, hd.more hB, hb, hdb, ⟨h2, h3⟩, hdc⟩
theorem getD_first14 {acc : List Int} {k : Nat} (h0 : 0 < acc.length) (hk : acc.getD 0 0 = k) : (bv acc)[0]? = some (.int .u8 k) := by
  rw [bv_getElem?, List.getElem?_eq_getElem h0]
  rw [List.getD_eq_getElem?_getD, List.getElem?_eq_getElem h0] at hk
  rw [← hk]
  rfl
end Go.Proofs.Ytodoaebpkmhhmaa
