/-
  Parts joined: Lives15 DivMath Sum FoldMem16 FailMath15 Great15 FailWalk15 AheadMem15 Use15 Open16 CoinsMath15 Sum15 Stores16 KeysWalk16 Twice15 Two15.
-/
import Derived.Below
import Derived.Laws.OwnMore
import Derived.Deep.AppendLies
import Derived.Deep.Draws
import Derived.Lib.Hide
import Derived.Laws.MakeOwn
import Derived.Laws.CopyOwn
import Derived.Laws.Rows
import Derived.Laws.BitsAllLaws
import Derived.WalkKit
import Derived.Test.YtfaefpniiiandaaDoorRows
import Derived.WalkSpells
import Derived.WalkLawsBesides
import Derived.IntWalk
import Derived.Deep.MidRow
import Derived.Deep.WholeRow
import Derived.Maps.AppendAt
import Derived.OwnWalk
import Derived.Great.BuildSlice
import Derived.Recover
import Derived.Deep.RegionHeld
import Derived.Deep.QuietTactic
import Derived.BigQuiet
import Derived.ChangeKeysEq
import Derived.Deep.RegionHeld2
import Derived.Deep.CutBlock
import Derived.Laws.Tables
import Derived.ProofKit
import Derived.OpenShut
import Derived.ShutString
import Derived.ChangeOld
import Derived.Lib.SmallJoins
import Derived.Deep.Slices
import Derived.Deep.Strs
import Derived.SizedLaws
import Derived.Laws.StructEq
import Derived.Laws.Slices
import Derived.Deep.DeepCutAuto
import Derived.Maps.OwnSet
import Derived.DeepKeys4
import Derived.WideKeyArr
import Derived.Laws.EntriesVeiled
import Derived.Deep.RegionHeld3
import Derived.WideKeyEntry
import Derived.WalkMore
import Derived.Maps.RangeWalk
import Derived.Shelf.SlMaps.Clone
import Derived.Laws.Append
import Derived.Laws.AppendOwn
import Derived.LaidMore
import Derived.Maps.OwnOps
import Derived.Laws.BytesArg
import Derived.Laws.Strings
import Derived.Lib.Strings
import Derived.Great.Walk
import Derived.Laws.Bits64b
import Derived.Laws.Externs
import Derived.LaidHandle
import Derived.LaidLaws
import Derived.RangeFuncOwn
import Derived.LaidEql
import Derived.Stop.Asserts
import Derived.RowKitTokens
import Derived.Lib.BitFns
import Derived.Lib.Mul64
import Derived.Laws.NewBlocks
import Derived.RangeFuncNested
import Derived.RangeFuncBound
import Derived.RangeFuncCalls
import Derived.RangeFuncLeaves
import Derived.Shelf.Abstract
import Derived.Shelf.RegionOpen
import Derived.OwnWalkIn
import Derived.TacticsInMore
import Derived.LoopNIn
import Derived.LoopIn
import Derived.Shelf.Small.Bits
import Derived.Scope
import Derived.Test.YtfaefpniiiandaaDoorR1
import Derived.Test.YtfaefpniiiandaaDoorR2
import Derived.Test.YtfaefpniiiandaaDoorR3
import Derived.Test.YtfaefpniiiandaaDoorR4
import Derived.Test.YtfaefpniiiandaaDoorR5
import Derived.Test.YtfaefpniiiandaaDoorR6
import Derived.Test.YtfaefpniiiandaaDoorR7
import Derived.Test.YtfaefpniiiandaaDoorR8
import Derived.Test.YtfaefpniiiandaaDoorR9
import Derived.Test.YtfaefpniiiandaaDoorR10
/-
  Of part Lives15: what is needed here.
-/
namespace Go.Proofs.YtfaefpniiiandaaDoor
open Go.RowKit
set_option linter.unusedVariables false
set_option maxRecDepth 100000
def ac15x (c : Int) : LAcc := ⟨c, k0, 0⟩
theorem ac_ok15x {c : Int} (h : 0 ≤ c ∧ c < 18446744073709551616) : AccOk (ac15x c) := ⟨h, k0_key15, by show (0 : Int) ≤ 0 ∧ (0 : Int) < 18446744073709551616; decide⟩
theorem built_ac15 (c : Int) : Tryd.prog.built 59 [(0, .int .u64 c)] = some (ac15x c).cells.toArray := by kernel_rfl
def st15x : List LHold := [⟨kx15 8, ac15x 20000⟩]
def l15x : List LAcc := [ac15x 15000, blank13, blank13]
def h15a : LHold := ⟨kx15 8, ac15x 14800⟩
def h15b : LHold := ⟨kx15 9, ac15x 200⟩
def o15x : LOut := ⟨0, -1, 150, 5000, 0, [h15a, h15b]⟩
theorem put15x : putH [] (kx15 8) (ac15x 20000) = st15x := by kernel_rfl
theorem pay15x : pay15 st15x rd15x = true := by kernel_rfl
theorem load15x : load15 st15x rd15x = l15x := by kernel_rfl
theorem run15x : run15 rd15x l15x = (o15x, 0) := by kernel_rfl
theorem hold_eql15 {x y : LHold} (hkx : x.k.length = 32) (hky : y.k.length = 32) (hx : x.a.o.length = 32) (hy : y.a.o.length = 32) (w : World) : (binOp .eql 64 (.agg x.cells.toArray) (.agg y.cells.toArray)).run Tryd.prog w = .ok (.bool (decide (x = y))) w := by
  rw [run_eql_struct, hold_eq0 hkx hky hx hy w _ rfl]
  rfl
theorem built_h15a : Tryd.prog.built 64 [(0, .agg (bv (kx15 8)).toArray), (1, .agg (ac15x 14800).cells.toArray)] = some h15a.cells.toArray := built_hold15 rfl rfl
theorem built_h15b : Tryd.prog.built 64 [(0, .agg (bv (kx15 9)).toArray), (1, .agg (ac15x 200).cells.toArray)] = some h15b.cells.toArray := built_hold15 rfl rfl
/-- what is there on the way -/
structure LX15 (w V : World) (g1 g2 : Nat) : Prop where
  b : Below w.heap.size w V
  r1 : Row V g1 57 (bv (kx15 8))
  r2 : Row V g2 57 (bv (kx15 9))
  lo : w.heap.size ≤ g1 ∧ w.heap.size ≤ g2
theorem LX15.below {w V V' : World} {g1 g2 : Nat} (m : LX15 w V g1 g2) (hb : Below V.heap.size V V') : LX15 w V' g1 g2 := ⟨m.b.trans (hb.mono m.b.size), m.r1.below hb m.r1.lt, m.r2.below hb m.r2.lt, m.lo⟩
theorem grown_below15 {w V V' : World} {mb : Nat} (hg : V.grownBy V' (some mb)) (hb : Below w.heap.size w V) (hm : w.heap.size ≤ mb) : Below w.heap.size w V' := hb.grown hg hb.size (fun k hk => by cases hk; exact hm)
theorem LX15.grown {w V V' : World} {g1 g2 mb : Nat} (m : LX15 w V g1 g2) (hg : V.grownBy V' (some mb)) (hm : w.heap.size ≤ mb) (h1 : g1 ≠ mb) (h2 : g2 ≠ mb) : LX15 w V' g1 g2 :=
  ⟨grown_below15 hg m.b hm, m.r1.grown hg (fun e => h1 (by injection e)), m.r2.grown hg (fun e => h2 (by injection e)), m.lo⟩
/-- the outcome's holdings, where they lie -/
theorem chg_at15 {w : World} {base c : Nat} {A : Option Addr} {L : List LHold} (h : w.ownsRow base 64 66 (.slice A L.length c) L.length (holC L)) (ho : ∀ x ∈ L, x.cells.length = 66) {k : Nat} {x : LHold} (hk : L[k]? = some x) : ∃ a, A = some a ∧ a.block < w.heap.size ∧ ∀ j u, x.cells[j]? = some u → w.cell? ((a.add (k * 66)).add j) = some u := by
  obtain ⟨A', c', e, h2, _⟩ := own_form2 h
  injection e with e _ _
  subst e
  have hcs : CsIn 66 w w.heap.size A L.length (L.map LHold.cells) := ⟨by rw [List.length_map], fun k hk => by obtain ⟨y, hy, rfl⟩ := List.mem_map.1 hk; exact ho y hy, h2⟩
  obtain ⟨a, y, e, hb, hy, _, hc⟩ := hcs.get (k := k) (List.getElem?_eq_some_iff.1 hk).1 (by omega)
  rw [List.getElem?_map, hk] at hy
  injection hy with hy
  subst hy
  exact ⟨a, e, hb, hc⟩
theorem acc_in15 {w : World} {base g cap n : Nat} {rest : List Value} {out : List LAcc} (h : OutAt w base g cap n rest out) : AccsIn w w.heap.size (some ⟨g, 0, none⟩) n out := h.done.accs h.len.symm
set_option maxHeartbeats 16000000 in
theorem lives15 (w : World) (htw : TypAt w) : Calls Tryd.prog 10 #[] w fun e w' => e = .returned (.bool true) ∧ Below w.heap.size w w' := by
  have HT := Lib.hid htw
  have HA := Lib.hid built_ac15
  have HKN := Lib.hid built_kx8
  have HKM := Lib.hid built_kx9
  have HNB : Hid (∀ w, (binOp .neq 59 (.agg blank13.cells.toArray) (.agg blank13.cells.toArray)).run Tryd.prog w = .ok (.bool false) w) := Lib.hid fun w => by rw [acc_neq rfl rfl, decide_eq_true rfl]; rfl
  have HEA : Hid (∀ w, (binOp .eql 64 (.agg h15a.cells.toArray) (.agg h15a.cells.toArray)).run Tryd.prog w = .ok (.bool true) w) := Lib.hid fun w => by rw [hold_eql15 rfl rfl rfl rfl, decide_eq_true rfl]
  have HEB : Hid (∀ w, (binOp .eql 64 (.agg h15b.cells.toArray) (.agg h15b.cells.toArray)).run Tryd.prog w = .ok (.bool true) w) := Lib.hid fun w => by rw [hold_eql15 rfl rfl rfl rfl, decide_eq_true rfl]
  have HPAY := Lib.hid pay15x
  have HLOD := Lib.hid load15x
  have HRUN := Lib.hid run15x
  have HPUT := Lib.hid put15x
  clear htw
  go_enter Tryd.func10, Tryd.ntmps10
  go_upto_region 2 with (first
    | ((with_reducible show wpList _ _ _ ({ dst := some 9, op := Op.build _ _, type := _, pos := _, after := _, guard := _ } :: _) _ _); go_must (refine wpList_plain rfl fun K hK => wp_built _ _ _ rfl (by simp only [List.map_toArray, List.map_cons, List.map_nil]; exact HKN.out) (hK _ _ ?_)))
    | ((with_reducible show wpList _ _ _ ({ dst := none, op := Op.store 57 _ _, type := _, pos := _, after := _, guard := _ } :: _) _ _); go_must (refine wpList_store_new rfl 57 (.tmp 1) (.tmp 9) rfl (bv (kx15 8)) (by kernel_rfl) (bv_one _) rfl ?_ ?_ ?_; go_simp; go_simp; intro w1 hr1 hb1 hz1)))
  have R1 := Lib.hid hr1
  have B1 := Lib.hid hb1
  obtain ⟨g1, hg1⟩ : ∃ g, g = w.heap.size := ⟨_, rfl⟩
  rw [← hg1] at R1 ⊢
  have HG1 : Hid (w.heap.size ≤ g1) := Lib.hid (by omega)
  clear hr1 hb1 hz1 hg1
  go_upto_region 3 with (first
    | ((with_reducible show wpList _ _ _ ({ dst := some 10, op := Op.build _ _, type := _, pos := _, after := _, guard := _ } :: _) _ _); go_must (refine wpList_plain rfl fun K hK => wp_built _ _ _ rfl (by simp only [List.map_toArray, List.map_cons, List.map_nil]; exact HKM.out) (hK _ _ ?_)))
    | ((with_reducible show wpList _ _ _ ({ dst := none, op := Op.store 57 _ _, type := _, pos := _, after := _, guard := _ } :: _) _ _); go_must (refine wpList_store_new rfl 57 (.tmp 2) (.tmp 10) rfl (bv (kx15 9)) (by kernel_rfl) (bv_one _) rfl ?_ ?_ ?_; go_simp; go_simp; intro w2 hr2 hb2 hz2)))
  have R2 := Lib.hid hr2
  have HX0 : Hid (Below w1.heap.size w1 w2) := Lib.hid hb2
  obtain ⟨g2, hg2⟩ : ∃ g, g = w1.heap.size := ⟨_, rfl⟩
  rw [← hg2] at R2 ⊢
  have X2 : Hid (LX15 w w2 g1 g2) := Lib.hid ⟨B1.out.trans (HX0.out.mono B1.out.size), R1.out.below HX0.out R1.out.lt, R2.out, HG1.out, by rw [hg2]; exact B1.out.size⟩
  clear hr2 hb2 hz2 hg2 HX0 R1 R2 B1 HG1
  go_wp2_with fail
  refine (new13 w2).mono ?_
  rintro e w3 ⟨sb, mb, rfl, hst, hsl, hml, hb3⟩
  have X3 := Lib.hid (X2.out.below hb3)
  have HML : Hid (w.heap.size ≤ mb ∧ g1 ≠ mb ∧ g2 ≠ mb) := Lib.hid (by have h1 := X2.out.r1.lt; have h2 := X2.out.r2.lt; have h3 := X2.out.b.size; omega)
  have S3 := Lib.hid hst
  clear hst hsl hml hb3 X2
  go_wp2_with (first
    | ((with_reducible show wpList _ _ _ ({ dst := some 13, op := Op.load _ _, type := _, pos := _, after := _, guard := _ } :: _) _ _); go_must (refine wpList_load_whole rfl 57 (.tmp 1) rfl g1 _ (bv (kx15 8)) _ Tryd.underlying57 rfl (by kernel_rfl) X3.out.r1 ?_ ?_; go_simp))
    | ((with_reducible show wpList _ _ _ ({ dst := some 14, op := Op.build _ _, type := _, pos := _, after := _, guard := _ } :: _) _ _); go_must (refine wpList_plain rfl fun K hK => wp_built _ _ _ rfl (by simp only [List.map_toArray, List.map_cons, List.map_nil]; exact HA.out 20000) (hK _ _ ?_)))
    | fail)
  refine (put13 sb mb [] (kx15 8) (ac15x 20000) w3 S3.out (kx_ok15 (by omega)) (ac_ok15x (by omega)) (by simp)).mono ?_
  rintro e w4 ⟨rfl, hst, hg4⟩
  rw [HPUT.out] at hst
  have S4 := Lib.hid hst
  have X4 := Lib.hid (X3.out.grown hg4 HML.out.1 HML.out.2.1 HML.out.2.2)
  clear hst hg4 X3 S3 HML HPUT
  go_wp2_with (first
    | ((with_reducible show wpList _ _ _ ({ dst := some 16, op := Op.load _ _, type := _, pos := _, after := _, guard := _ } :: _) _ _); go_must (refine wpList_load_whole rfl 57 (.tmp 1) rfl g1 _ (bv (kx15 8)) _ Tryd.underlying57 rfl (by kernel_rfl) X4.out.r1 ?_ ?_; go_simp))
    | ((with_reducible show wpList _ _ _ ({ dst := some 17, op := Op.load _ _, type := _, pos := _, after := _, guard := _ } :: _) _ _); go_must (refine wpList_load_whole rfl 57 (.tmp 2) rfl g2 _ (bv (kx15 9)) _ Tryd.underlying57 rfl (by kernel_rfl) X4.out.r2 ?_ ?_; go_simp))
    | fail)
  refine (move15 w4).mono ?_
  rintro e w5 ⟨gi, gr, rfl, hrd, hb5⟩
  have RD5 := Lib.hid hrd
  have X5 := Lib.hid (X4.out.below hb5)
  have S5 := Lib.hid (S4.out.below hb5)
  clear hrd hb5 X4 S4
  go_upto_region 6 with (first
    | ((with_reducible show wpList _ _ _ ({ dst := some 4, op := Op.alloc _, type := _, pos := _, after := _, guard := _ } :: _) _ _); go_must (refine wpList_alloc_zero rfl 41 rfl zrdC zero_rdx ?_))
    | ((with_reducible show wpList _ _ _ ({ dst := none, op := Op.store 41 _ _, type := _, pos := _, after := _, guard := _ } :: _) _ _); go_must (refine wpList_store_new rfl 41 (.tmp 4) (.tmp 18) rfl ((q15x gi gr).cells rd15x) (size_rdx _ _) (one_rdx _ _) rfl ?_ ?_ ?_; go_simp; go_simp; intro w6 hr6 hb6 hz6)))
  have R6 := Lib.hid hr6
  have X6 := Lib.hid (X5.out.below hb6)
  have S6 := Lib.hid (S5.out.below hb6)
  have RD6 := Lib.hid ((RD5.out.below hb6).more hb6.size)
  obtain ⟨g4, hg4⟩ : ∃ g, g = w5.heap.size := ⟨_, rfl⟩
  rw [← hg4] at R6 ⊢
  clear hr6 hb6 hz6 hg4 X5 S5 RD5
  go_wp2_with (first
    | ((with_reducible show wpList _ _ _ ({ dst := some 21, op := Op.load _ _, type := _, pos := _, after := _, guard := _ } :: _) _ _); go_must (refine wpList_load_whole rfl 41 (.tmp 4) rfl g4 _ ((q15x gi gr).cells rd15x) _ Tryd.underlying41 rfl (by kernel_rfl) R6.out ?_ ?_; go_simp))
    | fail)
  refine (loadC sb mb st15x (q15x gi gr) rd15x w6.heap.size w6 S6.out RD6.out (Nat.le_refl _) (by simp [q15x]) (fun r hr => (ro_ok15x r hr).2) (by decide)).mono ?_
  rintro e w7 ⟨hb7, hcs⟩
  rw [HPAY.out, HLOD.out] at hcs
  rcases hcs with ⟨h, _⟩ | ⟨_, gl, cap, rest, rfl, hol⟩
  · cases h
  have X7 := Lib.hid (X6.out.below hb7)
  have R7 := Lib.hid (R6.out.below hb7 R6.out.lt)
  have RD7 := Lib.hid (RD6.out.below hb7)
  have OL := Lib.hid hol
  have HL67 := Lib.hid hb7.size
  clear hol hb7 X6 R6 S6 RD6 HPAY HLOD
  have a0 : w7.cell? ⟨gl, 0, none⟩ = some (.int .u64 15000) := by have := OL.out.cell (k := 0) (by decide) (j := 0) (u := .int .u64 15000) rfl; simpa using this
  have HA1 : Hid (∀ j u, blank13.cells[j]? = some u → w7.cell? ⟨gl, 34 + j, none⟩ = some u) := Lib.hid fun j u hu => by have := OL.out.cell (k := 1) (by decide) (j := j) (u := u) hu; simpa using this
  have hnb := HNB.out
  have h3 : rd15x.roles.length = 3 := rfl
  rw [h3]
  go_upto_region 9 with (first
    | ((with_reducible show wpList _ _ _ ({ dst := some 42, op := Op.load _ _, type := _, pos := _, after := _, guard := _ } :: _) _ _); go_must (refine wpList_load_atg (by kernel_rfl) 59 (.tmp 41) rfl ⟨gl, 34, none⟩ blank13.cells _ Tryd.underlying59 rfl (by kernel_rfl) (fun j v hv => by rw [addr_row]; exact HA1.out j v hv) ?_ ?_; go_simp))
    | ((with_reducible show wpList _ _ _ ({ dst := some 43, op := Op.build _ _, type := _, pos := _, after := _, guard := _ } :: _) _ _); go_must (refine BigFrame.wpList_want (by kernel_rfl) fun K hK => wp_built _ _ _ rfl (by simp only [List.map_toArray, List.map_nil]; exact built_blank) (hK _ _ ?_))))
  clear a0 hnb HA1 h3
  have HRC := Lib.hid (runC (q15x gi gr) rd15x w7.heap.size (some ⟨gl, 0, none⟩) 3 3 l15x w7 (RD7.out.more HL67.out) (acc_in15 OL.out) ⟨Nat.le_refl _, by unfold maxLen; omega⟩ (Nat.le_refl _) (by omega) (fun a ha => by obtain rfl := List.mem_singleton.1 ha; exact ⟨by decide, by decide⟩) (fun a ha => by obtain rfl := List.mem_singleton.1 ha; exact ⟨acc_ok15x, dat_ok15x⟩) (by decide) ⟨by simp [q15x], fun a ha => by obtain rfl := List.mem_singleton.1 ha; decide⟩ (HT.out.below X7.out.b HT.out.pos))
  rw [HRUN.out] at HRC
  clear HRUN OL RD7 HL67
  go_wp2_with (first
    | ((with_reducible show wpList _ _ _ ({ dst := some 47, op := Op.load _ _, type := _, pos := _, after := _, guard := _ } :: _) _ _); go_must (refine wpList_load_whole rfl 41 (.tmp 4) rfl g4 _ ((q15x gi gr).cells rd15x) _ Tryd.underlying41 rfl (by kernel_rfl) R7.out ?_ ?_; go_simp))
    | fail)
  refine HRC.out.mono ?_
  rintro e w8 ⟨A8, c8, rfl, ho8, hb8⟩
  have X8 := Lib.hid (X7.out.below hb8)
  have HO8 := Lib.hid ho8
  clear ho8 hb8 X7 R7 HRC
  go_upto_region 10 with (first
    | ((with_reducible show wpList _ _ _ ({ dst := some 7, op := Op.alloc _, type := _, pos := _, after := _, guard := _ } :: _) _ _); go_must (refine wpList_alloc_zero rfl 54 rfl (out0.cells (.slice none 0 0)) zero_out15 ?_))
    | ((with_reducible show wpList _ _ _ ({ dst := none, op := Op.store 54 _ _, type := _, pos := _, after := _, guard := _ } :: _) _ _); go_must (refine wpList_store_new rfl 54 (.tmp 7) (.tmp 50) rfl (o15x.cells (.slice A8 o15x.ch.length o15x.ch.length)) (size_out15 _ _) (out_one15 _ rfl) rfl ?_ ?_ ?_; go_simp; go_simp; intro w9 hr9 hb9 hz9)))
  have R9 := Lib.hid hr9
  have X9 := Lib.hid (X8.out.below hb9)
  have HO9 := Lib.hid (own_below HO8.out hb9)
  obtain ⟨g7, hg7⟩ : ∃ g, g = w8.heap.size := ⟨_, rfl⟩
  rw [← hg7] at R9 ⊢
  clear hr9 hb9 hz9 hg7 X8 HO8
  obtain ⟨a8, rfl, hab, hac⟩ := chg_at15 HO9.out (fun x hx => by simp only [o15x, List.mem_cons, List.not_mem_nil, or_false] at hx; rcases hx with rfl | rfl <;> rfl) (k := 0) (x := h15a) rfl
  obtain ⟨a8', e8, _, hbc⟩ := chg_at15 HO9.out (fun x hx => by simp only [o15x, List.mem_cons, List.not_mem_nil, or_false] at hx; rcases hx with rfl | rfl <;> rfl) (k := 1) (x := h15b) rfl
  obtain rfl : a8 = a8' := by injection e8
  have HAB := Lib.hid hab
  have HAC := Lib.hid hac
  have HBC := Lib.hid hbc
  have HOL2 : Hid (o15x.ch.length = 2) := Lib.hid rfl
  clear hab hac hbc e8 HO9
  have SF := Lib.hid (show Below w9.heap.size w9 w9.drew from (Below.refl w9.heap.size w9).drew)
  refine wp_region_held_drew (S := fun V => Below w9.heap.size w9 V) (by kernel_rfl) SF.out (fun _ => ?_)
  try dsimp only [List.append]
  generalize w9.drew = wd at *
  refine takeL (i := 0) (v := ?_) rfl (by kernel_rfl) (by kernel_rfl) (by kernel_rfl) (fun _ _ _ h => h) (Or.inl ⟨by rfl, ?_⟩) SF.out ?_
  rotate_left
  · intro w hw
    try dsimp only at hw
    go_simp
    try with_reducible rfl
  try simp only [Act.put, List.setIfInBounds_toArray, List.set_cons_zero, List.set_cons_succ]
  refine takeL (i := 1) (v := ?_) rfl (by kernel_rfl) (by kernel_rfl) (by kernel_rfl) (fun _ _ _ h => h) (Or.inl ⟨by rfl, ?_⟩) SF.out ?_
  rotate_left
  · intro w hw
    try dsimp only at hw
    go_simp
    try with_reducible rfl
  try simp only [Act.put, List.setIfInBounds_toArray, List.set_cons_zero, List.set_cons_succ]
  refine takeL (i := 2) (v := ?_) rfl (by kernel_rfl) (by kernel_rfl) (by kernel_rfl) (fun _ _ _ h => h) (Or.inl ⟨by rfl, ?_⟩) SF.out ?_
  rotate_left
  · intro w hw
    try dsimp only at hw
    go_simp
    try with_reducible rfl
  try simp only [Act.put, List.setIfInBounds_toArray, List.set_cons_zero, List.set_cons_succ]
  refine takeL (i := 3) (v := ?_) rfl (by kernel_rfl) (by kernel_rfl) (by kernel_rfl) (fun _ _ _ h => h) (Or.inl ⟨by rfl, ?_⟩) SF.out ?_
  rotate_left
  · intro w hw
    try dsimp only at hw
    go_simp
    try with_reducible rfl
  try simp only [Act.put, List.setIfInBounds_toArray, List.set_cons_zero, List.set_cons_succ]
  refine takeL (i := 4) (v := ?_) rfl (by kernel_rfl) (by kernel_rfl) (by kernel_rfl) (fun _ _ _ h => h) (Or.inl ⟨by rfl, ?_⟩) SF.out ?_
  rotate_left
  · intro w hw
    try dsimp only at hw
    have oc : w.cell? ⟨g7, 0, none⟩ = some (.int .i64 0) := (hw.cell (p := ⟨g7, 0, none⟩) R9.out.lt).trans (R9.out.cell 0)
    go_simp
    try with_reducible rfl
  try simp only [Act.put, List.setIfInBounds_toArray, List.set_cons_zero, List.set_cons_succ]
  refine takeL (i := 5) (v := ?_) rfl (by kernel_rfl) (by kernel_rfl) (by kernel_rfl) (fun _ _ _ h => h) (Or.inl ⟨by rfl, ?_⟩) SF.out ?_
  rotate_left
  · intro w hw
    try dsimp only at hw
    go_simp
    try with_reducible rfl
  try simp only [Act.put, List.setIfInBounds_toArray, List.set_cons_zero, List.set_cons_succ]
  refine takeL (i := 6) (v := ?_) rfl (by kernel_rfl) (by kernel_rfl) (by kernel_rfl) (fun _ _ _ h => h) (Or.inl ⟨by rfl, ?_⟩) SF.out ?_
  rotate_left
  · intro w hw
    try dsimp only at hw
    go_simp
    try with_reducible rfl
  try simp only [Act.put, List.setIfInBounds_toArray, List.set_cons_zero, List.set_cons_succ]
  refine takeL (i := 7) (v := ?_) rfl (by kernel_rfl) (by kernel_rfl) (by kernel_rfl) (fun _ _ _ h => h) (Or.inl ⟨by rfl, ?_⟩) SF.out ?_
  rotate_left
  · intro w hw
    try dsimp only at hw
    go_simp
    try with_reducible rfl
  try simp only [Act.put, List.setIfInBounds_toArray, List.set_cons_zero, List.set_cons_succ]
  refine takeL (i := 8) (v := ?_) rfl (by kernel_rfl) (by kernel_rfl) (by kernel_rfl) (fun _ _ _ h => h) (Or.inl ⟨by rfl, ?_⟩) SF.out ?_
  rotate_left
  · intro w hw
    try dsimp only at hw
    go_simp
    try with_reducible rfl
  try simp only [Act.put, List.setIfInBounds_toArray, List.set_cons_zero, List.set_cons_succ]
  refine takeL (i := 9) (v := ?_) rfl (by kernel_rfl) (by kernel_rfl) (by kernel_rfl) (fun _ _ _ h => h) (Or.inl ⟨by rfl, ?_⟩) SF.out ?_
  rotate_left
  · intro w hw
    try dsimp only at hw
    have oc : w.cell? ⟨g7, 1, none⟩ = some (.int .i64 (-1)) := (hw.cell (p := ⟨g7, 1, none⟩) R9.out.lt).trans (R9.out.cell 1)
    go_simp
    try with_reducible rfl
  try simp only [Act.put, List.setIfInBounds_toArray, List.set_cons_zero, List.set_cons_succ]
  refine takeL (i := 10) (v := ?_) rfl (by kernel_rfl) (by kernel_rfl) (by kernel_rfl) (fun _ _ _ h => h) (Or.inl ⟨by rfl, ?_⟩) SF.out ?_
  rotate_left
  · intro w hw
    try dsimp only at hw
    go_simp
    try with_reducible rfl
  try simp only [Act.put, List.setIfInBounds_toArray, List.set_cons_zero, List.set_cons_succ]
  refine takeL (i := 11) (v := ?_) rfl (by kernel_rfl) (by kernel_rfl) (by kernel_rfl) (fun _ _ _ h => h) (Or.inl ⟨by rfl, ?_⟩) SF.out ?_
  rotate_left
  · intro w hw
    try dsimp only at hw
    go_simp
    try with_reducible rfl
  try simp only [Act.put, List.setIfInBounds_toArray, List.set_cons_zero, List.set_cons_succ]
  refine takeL (i := 12) (v := ?_) rfl (by kernel_rfl) (by kernel_rfl) (by kernel_rfl) (fun _ _ _ h => h) (Or.inl ⟨by rfl, ?_⟩) SF.out ?_
  rotate_left
  · intro w hw
    try dsimp only at hw
    go_simp
    try with_reducible rfl
  try simp only [Act.put, List.setIfInBounds_toArray, List.set_cons_zero, List.set_cons_succ]
  refine takeL (i := 13) (v := ?_) rfl (by kernel_rfl) (by kernel_rfl) (by kernel_rfl) (fun _ _ _ h => h) (Or.inl ⟨by rfl, ?_⟩) SF.out ?_
  rotate_left
  · intro w hw
    try dsimp only at hw
    go_simp
    try with_reducible rfl
  try simp only [Act.put, List.setIfInBounds_toArray, List.set_cons_zero, List.set_cons_succ]
  refine takeL (i := 14) (v := ?_) rfl (by kernel_rfl) (by kernel_rfl) (by kernel_rfl) (fun _ _ _ h => h) (Or.inl ⟨by rfl, ?_⟩) SF.out ?_
  rotate_left
  · intro w hw
    try dsimp only at hw
    have oc : w.cell? ⟨g7, 2, none⟩ = some (.int .u64 150) := (hw.cell (p := ⟨g7, 2, none⟩) R9.out.lt).trans (R9.out.cell 2)
    go_simp
    try with_reducible rfl
  try simp only [Act.put, List.setIfInBounds_toArray, List.set_cons_zero, List.set_cons_succ]
  refine takeL (i := 15) (v := ?_) rfl (by kernel_rfl) (by kernel_rfl) (by kernel_rfl) (fun _ _ _ h => h) (Or.inl ⟨by rfl, ?_⟩) SF.out ?_
  rotate_left
  · intro w hw
    try dsimp only at hw
    go_simp
    try with_reducible rfl
  try simp only [Act.put, List.setIfInBounds_toArray, List.set_cons_zero, List.set_cons_succ]
  refine takeL (i := 16) (v := ?_) rfl (by kernel_rfl) (by kernel_rfl) (by kernel_rfl) (fun _ _ _ h => h) (Or.inl ⟨by rfl, ?_⟩) SF.out ?_
  rotate_left
  · intro w hw
    try dsimp only at hw
    go_simp
    try with_reducible rfl
  try simp only [Act.put, List.setIfInBounds_toArray, List.set_cons_zero, List.set_cons_succ]
  refine takeL (i := 17) (v := ?_) rfl (by kernel_rfl) (by kernel_rfl) (by kernel_rfl) (fun _ _ _ h => h) (Or.inl ⟨by rfl, ?_⟩) SF.out ?_
  rotate_left
  · intro w hw
    try dsimp only at hw
    go_simp
    try with_reducible rfl
  try simp only [Act.put, List.setIfInBounds_toArray, List.set_cons_zero, List.set_cons_succ]
  refine takeL (i := 18) (v := ?_) rfl (by kernel_rfl) (by kernel_rfl) (by kernel_rfl) (fun _ _ _ h => h) (Or.inl ⟨by rfl, ?_⟩) SF.out ?_
  rotate_left
  · intro w hw
    try dsimp only at hw
    go_simp
    try with_reducible rfl
  try simp only [Act.put, List.setIfInBounds_toArray, List.set_cons_zero, List.set_cons_succ]
  refine takeL (i := 19) (v := ?_) rfl (by kernel_rfl) (by kernel_rfl) (by kernel_rfl) (fun _ _ _ h => h) (Or.inl ⟨by rfl, ?_⟩) SF.out ?_
  rotate_left
  · intro w hw
    try dsimp only at hw
    have oc : w.cell? ⟨g7, 3, none⟩ = some (.int .u64 5000) := (hw.cell (p := ⟨g7, 3, none⟩) R9.out.lt).trans (R9.out.cell 3)
    go_simp
    try with_reducible rfl
  try simp only [Act.put, List.setIfInBounds_toArray, List.set_cons_zero, List.set_cons_succ]
  refine takeL (i := 20) (v := ?_) rfl (by kernel_rfl) (by kernel_rfl) (by kernel_rfl) (fun _ _ _ h => h) (Or.inl ⟨by rfl, ?_⟩) SF.out ?_
  rotate_left
  · intro w hw
    try dsimp only at hw
    go_simp
    try with_reducible rfl
  try simp only [Act.put, List.setIfInBounds_toArray, List.set_cons_zero, List.set_cons_succ]
  refine takeL (i := 21) (v := ?_) rfl (by kernel_rfl) (by kernel_rfl) (by kernel_rfl) (fun _ _ _ h => h) (Or.inl ⟨by rfl, ?_⟩) SF.out ?_
  rotate_left
  · intro w hw
    try dsimp only at hw
    go_simp
    try with_reducible rfl
  try simp only [Act.put, List.setIfInBounds_toArray, List.set_cons_zero, List.set_cons_succ]
  refine takeL (i := 22) (v := ?_) rfl (by kernel_rfl) (by kernel_rfl) (by kernel_rfl) (fun _ _ _ h => h) (Or.inl ⟨by rfl, ?_⟩) SF.out ?_
  rotate_left
  · intro w hw
    try dsimp only at hw
    go_simp
    try with_reducible rfl
  try simp only [Act.put, List.setIfInBounds_toArray, List.set_cons_zero, List.set_cons_succ]
  refine takeL (i := 23) (v := ?_) rfl (by kernel_rfl) (by kernel_rfl) (by kernel_rfl) (fun _ _ _ h => h) (Or.inl ⟨by rfl, ?_⟩) SF.out ?_
  rotate_left
  · intro w hw
    try dsimp only at hw
    go_simp
    try with_reducible rfl
  try simp only [Act.put, List.setIfInBounds_toArray, List.set_cons_zero, List.set_cons_succ]
  refine takeL (i := 24) (v := ?_) rfl (by kernel_rfl) (by kernel_rfl) (by kernel_rfl) (fun _ _ _ h => h) (Or.inl ⟨by rfl, ?_⟩) SF.out ?_
  rotate_left
  · intro w hw
    try dsimp only at hw
    have oc : w.cell? ⟨g7, 4, none⟩ = some (.int .u64 0) := (hw.cell (p := ⟨g7, 4, none⟩) R9.out.lt).trans (R9.out.cell 4)
    go_simp
    try with_reducible rfl
  try simp only [Act.put, List.setIfInBounds_toArray, List.set_cons_zero, List.set_cons_succ]
  refine takeL (i := 25) (v := ?_) rfl (by kernel_rfl) (by kernel_rfl) (by kernel_rfl) (fun _ _ _ h => h) (Or.inl ⟨by rfl, ?_⟩) SF.out ?_
  rotate_left
  · intro w hw
    try dsimp only at hw
    go_simp
    try with_reducible rfl
  try simp only [Act.put, List.setIfInBounds_toArray, List.set_cons_zero, List.set_cons_succ]
  refine takeL (i := 26) (v := ?_) rfl (by kernel_rfl) (by kernel_rfl) (by kernel_rfl) (fun _ _ _ h => h) (Or.inl ⟨by rfl, ?_⟩) SF.out ?_
  rotate_left
  · intro w hw
    try dsimp only at hw
    go_simp
    try with_reducible rfl
  try simp only [Act.put, List.setIfInBounds_toArray, List.set_cons_zero, List.set_cons_succ]
  refine takeL (i := 27) (v := ?_) rfl (by kernel_rfl) (by kernel_rfl) (by kernel_rfl) (fun _ _ _ h => h) (Or.inl ⟨by rfl, ?_⟩) SF.out ?_
  rotate_left
  · intro w hw
    try dsimp only at hw
    go_simp
    try with_reducible rfl
  try simp only [Act.put, List.setIfInBounds_toArray, List.set_cons_zero, List.set_cons_succ]
  refine takeL (i := 28) (v := ?_) rfl (by kernel_rfl) (by kernel_rfl) (by kernel_rfl) (fun _ _ _ h => h) (Or.inl ⟨by rfl, ?_⟩) SF.out ?_
  rotate_left
  · intro w hw
    try dsimp only at hw
    go_simp
    try with_reducible rfl
  try simp only [Act.put, List.setIfInBounds_toArray, List.set_cons_zero, List.set_cons_succ]
  refine takeL (i := 29) (v := ?_) rfl (by kernel_rfl) (by kernel_rfl) (by kernel_rfl) (fun _ _ _ h => h) (Or.inl ⟨by rfl, ?_⟩) SF.out ?_
  rotate_left
  · intro w hw
    try dsimp only at hw
    have oc : w.cell? ⟨g7, 5, none⟩ = some (.slice (some a8) 2 2) := (hw.cell (p := ⟨g7, 5, none⟩) R9.out.lt).trans (R9.out.cell 5)
    go_simp
    try with_reducible rfl
  try simp only [Act.put, List.setIfInBounds_toArray, List.set_cons_zero, List.set_cons_succ]
  refine takeL (i := 30) (v := ?_) rfl (by kernel_rfl) (by kernel_rfl) (by kernel_rfl) (fun _ _ _ h => h) (Or.inl ⟨by rfl, ?_⟩) SF.out ?_
  rotate_left
  · intro w hw
    try dsimp only at hw
    go_simp
    try with_reducible rfl
  try simp only [Act.put, List.setIfInBounds_toArray, List.set_cons_zero, List.set_cons_succ]
  refine takeL (i := 31) (v := ?_) rfl (by kernel_rfl) (by kernel_rfl) (by kernel_rfl) (fun _ _ _ h => h) (Or.inl ⟨by rfl, ?_⟩) SF.out ?_
  rotate_left
  · intro w hw
    try dsimp only at hw
    go_simp
    try with_reducible rfl
  try simp only [Act.put, List.setIfInBounds_toArray, List.set_cons_zero, List.set_cons_succ]
  refine takeL (i := 32) (v := ?_) rfl (by kernel_rfl) (by kernel_rfl) (by kernel_rfl) (fun _ _ _ h => h) (Or.inl ⟨by rfl, ?_⟩) SF.out ?_
  rotate_left
  · intro w hw
    try dsimp only at hw
    go_simp
    try with_reducible rfl
  try simp only [Act.put, List.setIfInBounds_toArray, List.set_cons_zero, List.set_cons_succ]
  refine takeL (i := 33) (v := ?_) rfl (by kernel_rfl) (by kernel_rfl) (by kernel_rfl) (fun _ _ _ h => h) (Or.inl ⟨by rfl, ?_⟩) SF.out ?_
  rotate_left
  · intro w hw
    try dsimp only at hw
    go_simp
    try with_reducible rfl
  try simp only [Act.put, List.setIfInBounds_toArray, List.set_cons_zero, List.set_cons_succ]
  refine takeL (i := 34) (v := ?_) rfl (by kernel_rfl) (by kernel_rfl) (by kernel_rfl) (fun _ _ _ h => h) (Or.inl ⟨by rfl, ?_⟩) SF.out ?_
  rotate_left
  · intro w hw
    try dsimp only at hw
    go_simp
    try with_reducible rfl
  try simp only [Act.put, List.setIfInBounds_toArray, List.set_cons_zero, List.set_cons_succ]
  refine takeL (i := 35) (v := ?_) rfl (by kernel_rfl) (by kernel_rfl) (by kernel_rfl) (fun _ _ _ h => h) (Or.inl ⟨by rfl, ?_⟩) SF.out ?_
  rotate_left
  · intro w hw
    try dsimp only at hw
    have oc : w.cell? ⟨g7, 5, none⟩ = some (.slice (some a8) 2 2) := (hw.cell (p := ⟨g7, 5, none⟩) R9.out.lt).trans (R9.out.cell 5)
    go_simp
    try with_reducible rfl
  try simp only [Act.put, List.setIfInBounds_toArray, List.set_cons_zero, List.set_cons_succ]
  refine takeL (i := 36) (v := ?_) rfl (by kernel_rfl) (by kernel_rfl) (by kernel_rfl) (fun _ _ _ h => h) (Or.inl ⟨by rfl, ?_⟩) SF.out ?_
  rotate_left
  · intro w hw
    try dsimp only at hw
    go_simp
    try with_reducible rfl
  try simp only [Act.put, List.setIfInBounds_toArray, List.set_cons_zero, List.set_cons_succ]
  refine takeL (i := 37) (v := .agg h15a.cells.toArray) rfl (by kernel_rfl) (by kernel_rfl) (by kernel_rfl) (fun _ _ _ h => h) (Or.inl ⟨by rfl, fun wz hwz => exec_load_at wz 64 (.tmp 88) rfl a8 h15a.cells _ Tryd.underlying64 rfl (by kernel_rfl) (fun j u hu => (hwz.cell (by rw [addr_block]; exact HAB.out)).trans (by have := HAC.out j u hu; rwa [addr_add, Nat.zero_mul, Nat.zero_add] at this)) (by go_simp)⟩) SF.out ?_
  try simp only [Act.put, List.setIfInBounds_toArray, List.set_cons_zero, List.set_cons_succ]
  refine takeL (i := 38) (v := .agg (bv (kx15 8)).toArray) rfl (by kernel_rfl) (by kernel_rfl) (by kernel_rfl) (fun _ _ _ h => h) (Or.inl ⟨by rfl, fun wz hwz => exec_load_at wz 57 (.tmp 1) rfl ⟨g1, 0, none⟩ (bv (kx15 8)) _ Tryd.underlying57 rfl (by kernel_rfl) (fun j u hu => by rw [addr_row, Nat.zero_add]; exact (hwz.cell (p := ⟨g1, j, none⟩) X9.out.r1.lt).trans ((X9.out.r1.cell j).trans hu)) (by go_simp)⟩) SF.out ?_
  try simp only [Act.put, List.setIfInBounds_toArray, List.set_cons_zero, List.set_cons_succ]
  refine takeL (i := 39) (v := .agg (ac15x 14800).cells.toArray) rfl (by kernel_rfl) (by kernel_rfl) (by kernel_rfl) (fun _ _ _ h => h) (Or.inl ⟨by rfl, fun wz hwz => exec_built wz _ _ _ rfl (by simp only [List.map_toArray, List.map_cons, List.map_nil]; exact HA.out 14800)⟩) SF.out ?_
  try simp only [Act.put, List.setIfInBounds_toArray, List.set_cons_zero, List.set_cons_succ]
  refine takeL (i := 40) (v := .agg h15a.cells.toArray) rfl (by kernel_rfl) (by kernel_rfl) (by kernel_rfl) (fun _ _ _ h => h) (Or.inl ⟨by rfl, fun wz hwz => exec_built wz _ _ _ rfl (by simp only [List.map_toArray, List.map_cons, List.map_nil]; exact built_h15a)⟩) SF.out ?_
  try simp only [Act.put, List.setIfInBounds_toArray, List.set_cons_zero, List.set_cons_succ]
  refine takeL (i := 41) (v := ?_) rfl (by kernel_rfl) (by kernel_rfl) (by kernel_rfl) (fun _ _ _ h => h) (Or.inl ⟨by rfl, ?_⟩) SF.out ?_
  rotate_left
  · intro w hw
    try dsimp only at hw
    have hea := HEA.out
    go_simp
    try with_reducible rfl
  try simp only [Act.put, List.setIfInBounds_toArray, List.set_cons_zero, List.set_cons_succ]
  refine takeL (i := 42) (v := ?_) rfl (by kernel_rfl) (by kernel_rfl) (by kernel_rfl) (fun _ _ _ h => h) (Or.inl ⟨by rfl, ?_⟩) SF.out ?_
  rotate_left
  · intro w hw
    try dsimp only at hw
    go_simp
    try with_reducible rfl
  try simp only [Act.put, List.setIfInBounds_toArray, List.set_cons_zero, List.set_cons_succ]
  refine takeL (i := 43) (v := ?_) rfl (by kernel_rfl) (by kernel_rfl) (by kernel_rfl) (fun _ _ _ h => h) (Or.inl ⟨by rfl, ?_⟩) SF.out ?_
  rotate_left
  · intro w hw
    try dsimp only at hw
    go_simp
    try with_reducible rfl
  try simp only [Act.put, List.setIfInBounds_toArray, List.set_cons_zero, List.set_cons_succ]
  refine takeL (i := 44) (v := ?_) rfl (by kernel_rfl) (by kernel_rfl) (by kernel_rfl) (fun _ _ _ h => h) (Or.inl ⟨by rfl, ?_⟩) SF.out ?_
  rotate_left
  · intro w hw
    try dsimp only at hw
    go_simp
    try with_reducible rfl
  try simp only [Act.put, List.setIfInBounds_toArray, List.set_cons_zero, List.set_cons_succ]
  refine takeL (i := 45) (v := ?_) rfl (by kernel_rfl) (by kernel_rfl) (by kernel_rfl) (fun _ _ _ h => h) (Or.inl ⟨by rfl, ?_⟩) SF.out ?_
  rotate_left
  · intro w hw
    try dsimp only at hw
    have oc : w.cell? ⟨g7, 5, none⟩ = some (.slice (some a8) 2 2) := (hw.cell (p := ⟨g7, 5, none⟩) R9.out.lt).trans (R9.out.cell 5)
    go_simp
    try with_reducible rfl
  try simp only [Act.put, List.setIfInBounds_toArray, List.set_cons_zero, List.set_cons_succ]
  refine takeL (i := 46) (v := ?_) rfl (by kernel_rfl) (by kernel_rfl) (by kernel_rfl) (fun _ _ _ h => h) (Or.inl ⟨by rfl, ?_⟩) SF.out ?_
  rotate_left
  · intro w hw
    try dsimp only at hw
    go_simp
    try with_reducible rfl
  try simp only [Act.put, List.setIfInBounds_toArray, List.set_cons_zero, List.set_cons_succ]
  refine takeL (i := 47) (v := .agg h15b.cells.toArray) rfl (by kernel_rfl) (by kernel_rfl) (by kernel_rfl) (fun _ _ _ h => h) (Or.inl ⟨by rfl, fun wz hwz => exec_load_at wz 64 (.tmp 98) rfl (a8.add 66) h15b.cells _ Tryd.underlying64 rfl (by kernel_rfl) (fun j u hu => (hwz.cell (by rw [addr_block, addr_block]; exact HAB.out)).trans (by have := HBC.out j u hu; simpa using this)) (by go_simp)⟩) SF.out ?_
  try simp only [Act.put, List.setIfInBounds_toArray, List.set_cons_zero, List.set_cons_succ]
  refine takeL (i := 48) (v := .agg (bv (kx15 9)).toArray) rfl (by kernel_rfl) (by kernel_rfl) (by kernel_rfl) (fun _ _ _ h => h) (Or.inl ⟨by rfl, fun wz hwz => exec_load_at wz 57 (.tmp 2) rfl ⟨g2, 0, none⟩ (bv (kx15 9)) _ Tryd.underlying57 rfl (by kernel_rfl) (fun j u hu => by rw [addr_row, Nat.zero_add]; exact (hwz.cell (p := ⟨g2, j, none⟩) X9.out.r2.lt).trans ((X9.out.r2.cell j).trans hu)) (by go_simp)⟩) SF.out ?_
  try simp only [Act.put, List.setIfInBounds_toArray, List.set_cons_zero, List.set_cons_succ]
  refine takeL (i := 49) (v := .agg (ac15x 200).cells.toArray) rfl (by kernel_rfl) (by kernel_rfl) (by kernel_rfl) (fun _ _ _ h => h) (Or.inl ⟨by rfl, fun wz hwz => exec_built wz _ _ _ rfl (by simp only [List.map_toArray, List.map_cons, List.map_nil]; exact HA.out 200)⟩) SF.out ?_
  try simp only [Act.put, List.setIfInBounds_toArray, List.set_cons_zero, List.set_cons_succ]
  refine takeL (i := 50) (v := .agg h15b.cells.toArray) rfl (by kernel_rfl) (by kernel_rfl) (by kernel_rfl) (fun _ _ _ h => h) (Or.inl ⟨by rfl, fun wz hwz => exec_built wz _ _ _ rfl (by simp only [List.map_toArray, List.map_cons, List.map_nil]; exact built_h15b)⟩) SF.out ?_
  try simp only [Act.put, List.setIfInBounds_toArray, List.set_cons_zero, List.set_cons_succ]
  refine takeL (i := 51) (v := ?_) rfl (by kernel_rfl) (by kernel_rfl) (by kernel_rfl) (fun _ _ _ h => h) (Or.inl ⟨by rfl, ?_⟩) SF.out ?_
  rotate_left
  · intro w hw
    try dsimp only at hw
    have heb := HEB.out
    go_simp
    try with_reducible rfl
  try simp only [Act.put, List.setIfInBounds_toArray, List.set_cons_zero, List.set_cons_succ]
  refine takeL (i := 52) (v := ?_) rfl (by kernel_rfl) (by kernel_rfl) (by kernel_rfl) (fun _ _ _ h => h) (Or.inl ⟨by rfl, ?_⟩) SF.out ?_
  rotate_left
  · intro w hw
    try dsimp only at hw
    go_simp
    try with_reducible rfl
  try simp only [Act.put, List.setIfInBounds_toArray, List.set_cons_zero, List.set_cons_succ]
  refine takeL (i := 53) (v := ?_) rfl (by kernel_rfl) (by kernel_rfl) (by kernel_rfl) (fun _ _ _ h => h) (Or.inl ⟨by rfl, ?_⟩) SF.out ?_
  rotate_left
  · intro w hw
    try dsimp only at hw
    go_simp
    try with_reducible rfl
  try simp only [Act.put, List.setIfInBounds_toArray, List.set_cons_zero]
  refine wpAnyH_done (by kernel_rfl) ?_ _
  go_wp2_with fail
  go_ret
  exact ⟨rfl, X9.out.b.trans (SF.out.mono X9.out.b.size)⟩
end Go.Proofs.YtfaefpniiiandaaDoor

/-
  Of part DivMath: what is needed here.
-/
namespace Go.Proofs.YtfaefpniiiandaaDoor
open Go
set_option linter.unusedVariables false
set_option maxRecDepth 100000
section
variable {u v d v1 v0 : Int} (hu : 0 ≤ u) (huv : u < v) (hd : 0 ≤ d) (hd' : d < 4294967296) (hv : 9223372036854775808 ≤ v) (hv' : v < 18446744073709551616) (e1 : v1 = v / 4294967296) (e0 : v0 = v % 4294967296)
include hu huv hd hd' hv in
include hv in
include hv in
include e1 e0 in
include hu huv hd hd' hv hv' e1 e0 in
include hv e1 e0 in
include hu huv hd hd' hv e1 e0 in
include hu huv hd hd' hv hv' e1 e0 in
include hu huv hd hd' hv e1 e0 in
include e0 in
/-- what is left behind the digit -/
def left (u v d : Int) : Int := (u * 4294967296 + d) % v
include hv in
end
end Go.Proofs.YtfaefpniiiandaaDoor

/-
  Of part Sum: what is needed here.
-/
namespace Go.Proofs.YtfaefpniiiandaaDoor
open Go.RowKit
set_option linter.unusedVariables false
set_option maxRecDepth 100000
/-- held at the greatest -/
def cap (x : Int) : Int := if 18446744073709551615 < x then 18446744073709551615 else x
/-- what numbers come to, held -/
def held (zs : List Int) : Int := cap zs.sum
end Go.Proofs.YtfaefpniiiandaaDoor

/-
  Of part FoldMem16: what is needed here.
-/
namespace Go.Proofs.YtfaefpniiiandaaDoor
open Go.RowKit Go.Shelf
set_option linter.unusedVariables false
set_option maxRecDepth 100000
theorem row_far16 {V : World} {g k t u : Nat} {xs ys : List Value} (h : Row V g t xs) (k' : Row V k u ys) (hne : t ≠ u) : g ≠ k := fun e => by
  subst e
  have := h.is.symm.trans k'.is
  injection this with this
  injection this with _ this _
  exact hne this
end Go.Proofs.YtfaefpniiiandaaDoor

/-
  Of part FailMath15: what is needed here.
-/
namespace Go.Proofs.YtfaefpniiiandaaDoor
set_option linter.unusedVariables false
theorem chg_split15 : ∀ (k : Nat) (rs : List LRole) (l : List LAcc), l.length = rs.length → chg15 rs l = chg15 (rs.take k) (l.take k) ++ chg15 (rs.drop k) (l.drop k)
  | 0, rs, l, _ => by simp [chg15]
  | k + 1, [], [], _ => by simp [chg15]
  | k + 1, [], _ :: _, h => by cases h
  | k + 1, _ :: _, [], h => by cases h
  | k + 1, r :: rs, a :: l, h => by
    have ih := chg_split15 k rs l (by simpa using h)
    simp only [List.take_succ_cons, List.drop_succ_cons, chg15]
    split
    · rw [ih]; rfl
    · exact ih
theorem chg_get15 {rs : List LRole} {l : List LAcc} {k : Nat} {r : LRole} {a : LAcc} (hl : l.length = rs.length) (hr : rs[k]? = some r) (ha : l[k]? = some a) (hw : r.wr = true) : (chg15 rs l)[(chg15 (rs.take k) (l.take k)).length]? = some ⟨r.key, a⟩ := by
  rw [chg_split15 k rs l hl, List.getElem?_append_right (Nat.le_refl _), Nat.sub_self]
  obtain ⟨h1, rfl⟩ := List.getElem?_eq_some_iff.1 hr
  obtain ⟨h2, rfl⟩ := List.getElem?_eq_some_iff.1 ha
  rw [List.drop_eq_getElem_cons h1, List.drop_eq_getElem_cons h2]
  unfold chg15
  rw [if_pos hw]
  rfl
theorem chg_ok15 : ∀ (rs : List LRole) (l : List LAcc), (∀ r ∈ rs, r.key.length = 32) → (∀ a ∈ l, a.o.length = 32) → ∀ x ∈ chg15 rs l, x.k.length = 32 ∧ x.a.o.length = 32
  | [], _, _, _, x, hx => by cases hx
  | _ :: _, [], _, _, x, hx => by cases hx
  | r :: rs, a :: l, hr, ha, x, hx => by
    have ih := chg_ok15 rs l (fun y hy => hr y (List.mem_cons_of_mem _ hy)) (fun y hy => ha y (List.mem_cons_of_mem _ hy))
    unfold chg15 at hx
    split at hx
    · rcases List.mem_cons.1 hx with rfl | hx
      · exact ⟨hr r (List.mem_cons_self ..), ha a (List.mem_cons_self ..)⟩
      · exact ih x hx
    · exact ih x hx
end Go.Proofs.YtfaefpniiiandaaDoor

/-
  Of part Great15: what is needed here.
-/
namespace Go.Proofs.YtfaefpniiiandaaDoor
open Go.RowKit
set_option linter.unusedVariables false
set_option maxRecDepth 100000
theorem cells15_38 {q : Raw} {m : LMsg} (h : m.recent.length = 32) : (q.cells m)[38]? = some (.slice q.LA q.ln q.lc) := by
  simp [Raw.cells, bv_length, h]
theorem inSize15_succ {l : List LIn} {k : Nat} {x : LIn} (h : l[k]? = some x) : inSize (l.take (k + 1)) = inSize (l.take k) + (x.acc.length + x.dat.length) := by
  unfold inSize
  rw [List.take_add_one, h]
  simp
theorem lookSize15_succ {l : List LLook} {k : Nat} {x : LLook} (h : l[k]? = some x) : lookSize (l.take (k + 1)) = lookSize (l.take k) + (x.wr.length + x.rd.length) := by
  unfold lookSize
  rw [List.take_add_one, h]
  simp
theorem below_dn15 {B : Nat} {w V : World} (h : Below B w V) (j : Nat) : Below B w (V.drewN j) := h.trans ⟨rfl, rfl, rfl, Nat.le_refl _, fun _ _ => rfl⟩
def tot15 (x : LReady) : Nat := x.bytes.length + x.roles.length + x.tx.sigs.length + x.tx.m.keys.length + x.tx.m.ins.length + x.tx.m.looks.length + inSize x.tx.m.ins + lookSize x.tx.m.looks
/-- not too great to be gone through -/
structure Fw15 (x : LReady) : Prop where
  t : tot15 x ≤ 10000
  n : x.tx.m.ins.length ≤ 200
  r : x.roles.length ≤ 300
theorem Fw15.acc {x : LReady} (h : Fw15 x) {a : LIn} (ha : a ∈ x.tx.m.ins) : a.acc.length ≤ 10000 ∧ a.dat.length ≤ 10000 := by
  have h1 := size_mem ha
  have h2 := h.t
  unfold tot15 at h2
  omega
/-- no list of it is longer than memory is wide -/
structure Wide15 (x : LReady) : Prop where
  m : Sized x.tx.m
  b : x.bytes.length ≤ 140737488355328
  r : x.roles.length ≤ 140737488355328
  s : x.tx.sigs.length ≤ 140737488355328
/-- what Great tells -/
def GrDone15 (x : LReady) (w : World) (e : Ending) (w' : World) : Prop := (∃ b, e = .returned (.bool b) ∧ (b = false → Fw15 x)) ∧ Below w.heap.size w w'
set_option maxHeartbeats 4000000 in
theorem great15 (q : YRaw) (x : LReady) (B : Nat) (w : World) (h : ReadyIn w B q x) (hB : B ≤ w.heap.size) (hs : Wide15 x) :
    Calls Tryd.prog 8 #[.agg (q.cells x).toArray] w (GrDone15 x w) := by
  obtain ⟨BA, bn, bc, ⟨SA, sn, sc, ⟨KA, kn, kc, IA, n, ic, LA, ln, lc⟩⟩, RA, rn, rc⟩ := q
  have hrow := Row.new w 41 (YRaw.cells ⟨BA, bn, bc, ⟨SA, sn, sc, ⟨KA, kn, kc, IA, n, ic, LA, ln, lc⟩⟩, RA, rn, rc⟩ x)
  have hb0 := (Below.refl w.heap.size w).alloc (Nat.le_refl _) (.cells (YRaw.cells ⟨BA, bn, bc, ⟨SA, sn, sc, ⟨KA, kn, kc, IA, n, ic, LA, ln, lc⟩⟩, RA, rn, rc⟩ x).toArray 41)
  have H32 := h.tx.m.recent
  have d0 : (w.alloc (.cells (YRaw.cells ⟨BA, bn, bc, ⟨SA, sn, sc, ⟨KA, kn, kc, IA, n, ic, LA, ln, lc⟩⟩, RA, rn, rc⟩ x).toArray 41)).cell? ⟨w.heap.size, 0, none⟩ = some (.slice BA bn bc) := hrow.cell 0
  have d1 : (w.alloc (.cells (YRaw.cells ⟨BA, bn, bc, ⟨SA, sn, sc, ⟨KA, kn, kc, IA, n, ic, LA, ln, lc⟩⟩, RA, rn, rc⟩ x).toArray 41)).cell? ⟨w.heap.size, 1, none⟩ = some (.slice SA sn sc) := hrow.cell 1
  have d6 : (w.alloc (.cells (YRaw.cells ⟨BA, bn, bc, ⟨SA, sn, sc, ⟨KA, kn, kc, IA, n, ic, LA, ln, lc⟩⟩, RA, rn, rc⟩ x).toArray 41)).cell? ⟨w.heap.size, 6, none⟩ = some (.slice KA kn kc) := hrow.cell 6
  have d39 : (w.alloc (.cells (YRaw.cells ⟨BA, bn, bc, ⟨SA, sn, sc, ⟨KA, kn, kc, IA, n, ic, LA, ln, lc⟩⟩, RA, rn, rc⟩ x).toArray 41)).cell? ⟨w.heap.size, 39, none⟩ = some (.slice IA n ic) := (hrow.cell 39).trans (ycells_39 H32)
  have d40 : (w.alloc (.cells (YRaw.cells ⟨BA, bn, bc, ⟨SA, sn, sc, ⟨KA, kn, kc, IA, n, ic, LA, ln, lc⟩⟩, RA, rn, rc⟩ x).toArray 41)).cell? ⟨w.heap.size, 40, none⟩ = some (.slice LA ln lc) := (hrow.cell 40).trans (ycells_t (j := 39) ((tcells_m 38).trans (cells15_38 H32)))
  have d41 : (w.alloc (.cells (YRaw.cells ⟨BA, bn, bc, ⟨SA, sn, sc, ⟨KA, kn, kc, IA, n, ic, LA, ln, lc⟩⟩, RA, rn, rc⟩ x).toArray 41)).cell? ⟨w.heap.size, 41, none⟩ = some (.slice RA rn rc) := (hrow.cell 41).trans (ycells_41 H32 0)
  have lb : x.bytes.length = bn := by have := h.bs.len; rwa [bv_length] at this
  have lr : x.roles.length = rn := h.rs.len
  have lsg : x.tx.sigs.length = sn := h.tx.sigs.len
  have lk : x.tx.m.keys.length = kn := h.tx.m.keys.len
  have li : x.tx.m.ins.length = n := h.tx.m.ins.len
  have ll : x.tx.m.looks.length = ln := h.tx.m.looks.len
  have k1 := hs.m.keys
  have k2 := hs.m.ins
  have k3 := hs.m.looks
  have k4 := hs.b
  have k5 := hs.r
  have k6 := hs.s
  rw [lk] at k1
  rw [li] at k2
  rw [ll] at k3
  rw [lb] at k4
  rw [lr] at k5
  rw [lsg] at k6
  have HM := Lib.hid ((h.below (hb0.mono hB)).tx.m)
  have HSZ := Lib.hid hs.m
  have HB0 := Lib.hid hb0
  have HT : Hid (tot15 x = bn + rn + sn + kn + n + ln + inSize x.tx.m.ins + lookSize x.tx.m.looks) := Lib.hid (by unfold tot15; rw [lb, lr, lsg, lk, li, ll])
  have HLI := Lib.hid li
  have HLR := Lib.hid lr
  have HLL := Lib.hid ll
  clear hrow h hs hb0 H32 lb lr lsg lk li ll
  generalize YRaw.cells ⟨BA, bn, bc, ⟨SA, sn, sc, ⟨KA, kn, kc, IA, n, ic, LA, ln, lc⟩⟩, RA, rn, rc⟩ x = cs at *
  go_enter Tryd.func8, Tryd.ntmps8
  go_upto_region 1 with fail
  generalize (w.alloc (Obj.cells cs.toArray 41)) = W0 at *
  obtain ⟨g1, hg1⟩ : ∃ g, g = w.heap.size := ⟨_, rfl⟩
  have HG1 := Lib.hid hg1
  rw [← hg1] at d0 d1 d6 d39 d40 d41 ⊢
  clear hg1
  go_wp2_with fail
  go_loopw [3, 4] (fun nn i wr => ∃ (k j s : Nat), k ≤ n ∧ i = .int .i64 k ∧ nn = .int .i64 s ∧ wr = W0.drewN j ∧ s = bn + rn + sn + kn + n + ln + inSize (x.tx.m.ins.take k) ∧ s ≤ 1900000000000000) (fun nn i _ => n - (intOf i).toNat)
  case atStart => exact ⟨0, 0, bn + rn + sn + kn + n + ln, Nat.zero_le _, rfl, by first | rfl | go_num, rfl, by simp [inSize], by omega⟩
  case round =>
    obtain ⟨k, j, s, hk, rfl, rfl, rfl, hsum, hs9⟩ := hrel
    have HS := Lib.hid hsum
    clear hsum
    by_cases hgo : k < n ∧ s < 20000
    · obtain ⟨hlt, hs3⟩ := hgo
      obtain ⟨a, y, va, vd, rfl, hab, hx, hat⟩ := HM.out.ins.get hlt
      obtain ⟨A1, c1, rfl, _, _, _⟩ := hat.acc.is
      obtain ⟨A2, c2, rfl, _, _, _⟩ := hat.dat.is
      have e1 : W0.cell? ⟨(a.add (k * 3)).block, (a.add (k * 3)).off + 1, none⟩ = some (.slice A1 y.acc.length c1) := hat.cells 1 _ rfl
      have e2 : W0.cell? ⟨(a.add (k * 3)).block, (a.add (k * 3)).off + 2, none⟩ = some (.slice A2 y.dat.length c2) := hat.cells 2 _ rfl
      have l1 := (HSZ.out.inl y (List.mem_of_getElem? hx)).1
      have l2 := (HSZ.out.inl y (List.mem_of_getElem? hx)).2
      have HX := Lib.hid (inSize15_succ hx)
      clear hat hx
      go_wp2_with fail
      go_quiet (fail)
      go_wp2_with fail
      go_roundw
      case rel => exact ⟨k + 1, j + nq, s + y.acc.length + y.dat.length, by omega, by go_num, by go_num, by simp, by have := HS.out; have := HX.out; omega, by omega⟩
      case measure => simp [intOf]; omega
    · have HGO : Hid (20000 ≤ s ∨ s = bn + rn + sn + kn + n + ln + inSize x.tx.m.ins) := by
        refine Lib.hid ?_
        by_cases h3 : s < 20000
        · right
          have hkn : k = n := by
            have : ¬ k < n := fun h => hgo ⟨h, h3⟩
            omega
          have := HS.out
          rwa [hkn, List.take_of_length_le (by rw [HLI.out]; exact Nat.le_refl _)] at this
        · left; omega
      have hdec : (k < n ∧ ¬ s < 20000) ∨ ¬ k < n := by
        by_cases h : k < n
        · exact .inl ⟨h, fun h3 => hgo ⟨h, h3⟩⟩
        · exact .inr h
      clear HS hgo
      rcases hdec with ⟨hd1, hd2⟩ | hd1
      all_goals
        (go_wp2_with fail
         go_loopw [3, 5] (fun nn i wr => ∃ (k j s : Nat), k ≤ ln ∧ i = .int .i64 k ∧ nn = .int .i64 s ∧ wr = W0.drewN j ∧ (20000 ≤ s ∨ s = bn + rn + sn + kn + n + ln + inSize x.tx.m.ins + lookSize (x.tx.m.looks.take k)) ∧ s ≤ 1900000000000000) (fun nn i _ => ln - (intOf i).toNat)
         case atStart => exact ⟨0, j, s, Nat.zero_le _, rfl, rfl, rfl, by simpa [lookSize] using HGO.out, hs9⟩
         case round =>
          clear HGO hd1
          try clear hd2
          clear hs9 hk
          obtain ⟨k, j, s, hk, rfl, rfl, rfl, hsum, hs9⟩ := hrel
          have HS := Lib.hid hsum
          clear hsum
          by_cases hgo : k < ln ∧ s < 20000
          · obtain ⟨hlt, hs3⟩ := hgo
            obtain ⟨a, y, va, vd, rfl, hab, hx, hat⟩ := HM.out.looks.get hlt
            have hc1 : W0.cell? ((a.add (k * 34)).add 32) = some va := hat.cells 32 va (by rw [List.getElem?_append_right (by rw [bv_length, hat.len]; exact Nat.le_refl _), bv_length, hat.len]; rfl)
            have hc2 : W0.cell? ((a.add (k * 34)).add 33) = some vd := hat.cells 33 vd (by rw [List.getElem?_append_right (by rw [bv_length, hat.len]; omega), bv_length, hat.len]; rfl)
            obtain ⟨A1, c1, rfl, _, _, _⟩ := hat.wr.is
            obtain ⟨A2, c2, rfl, _, _, _⟩ := hat.rd.is
            have e1 : W0.cell? ⟨(a.add (k * 34)).block, (a.add (k * 34)).off + 32, none⟩ = some (.slice A1 y.wr.length c1) := hc1
            have e2 : W0.cell? ⟨(a.add (k * 34)).block, (a.add (k * 34)).off + 33, none⟩ = some (.slice A2 y.rd.length c2) := hc2
            have l1 := (HSZ.out.lol y (List.mem_of_getElem? hx)).1
            have l2 := (HSZ.out.lol y (List.mem_of_getElem? hx)).2
            have HX := Lib.hid (lookSize15_succ hx)
            clear hat hx hc1 hc2
            go_wp2_with fail
            go_quiet (fail)
            go_wp2_with fail
            go_roundw
            case rel =>
              refine ⟨k + 1, j + nq, s + y.wr.length + y.rd.length, by omega, by go_num, by go_num, by simp, ?_, by omega⟩
              have h1 := HS.out
              have h2 := HX.out
              omega
            case measure => simp [intOf]; omega
          · have HT2 : Hid (s ≤ 10000 → tot15 x ≤ 10000) := by
              refine Lib.hid fun h3 => ?_
              have hkn : k = ln := by
                have : ¬ k < ln := fun h => hgo ⟨h, by omega⟩
                omega
              have h1 := HS.out
              rw [hkn, List.take_of_length_le (by rw [HLL.out]; exact Nat.le_refl _)] at h1
              have h2 := HT.out
              omega
            have hdec : (k < ln ∧ ¬ s < 20000) ∨ ¬ k < ln := by
              by_cases h : k < ln
              · exact .inl ⟨h, fun h3 => hgo ⟨h, h3⟩⟩
              · exact .inr h
            clear HS hgo
            rcases hdec with ⟨hd1, hd2⟩ | hd1
            · have h10 : 10000 < s := by omega
              have hI : (10000 : Int) < s := by omega
              go_wp2_with fail
              go_ret
              exact ⟨⟨true, rfl, fun hb => by cases hb⟩, below_dn15 HB0.out j⟩
            · by_cases h10 : 10000 < s
              · have hI : (10000 : Int) < s := by omega
                go_wp2_with fail
                go_ret
                exact ⟨⟨true, rfl, fun hb => by cases hb⟩, below_dn15 HB0.out j⟩
              have hJ10 : (s : Int) ≤ 10000 := by omega
              by_cases hn2 : 200 < n
              · have hI : (200 : Int) < n := by omega
                go_wp2_with fail
                go_ret
                exact ⟨⟨true, rfl, fun hb => by cases hb⟩, below_dn15 HB0.out j⟩
              have hJn : (n : Int) ≤ 200 := by omega
              by_cases hr3 : 300 < rn
              · have hI : (300 : Int) < rn := by omega
                go_wp2_with fail
                go_ret
                exact ⟨⟨true, rfl, fun hb => by cases hb⟩, below_dn15 HB0.out j⟩
              have hJr : (rn : Int) ≤ 300 := by omega
              have HFEW : Hid (Fw15 x) := Lib.hid ⟨HT2.out (by omega), by rw [HLI.out]; omega, by rw [HLR.out]; omega⟩
              go_wp2_with fail
              go_ret
              exact ⟨⟨_, rfl, fun _ => HFEW.out⟩, below_dn15 HB0.out j⟩)
end Go.Proofs.YtfaefpniiiandaaDoor

/-
  Of part FailWalk15: what is needed here.
-/
namespace Go.Proofs.YtfaefpniiiandaaDoor
open Go.RowKit
set_option linter.unusedVariables false
set_option maxRecDepth 100000
/-- a transaction's numbers fit -/
structure RdOk15 (x : LReady) : Prop where
  p : ∀ a ∈ x.tx.m.ins, IsByte a.p
  ab : ∀ a ∈ x.tx.m.ins, AllBytes a.acc ∧ AllBytes a.dat
  u : 0 ≤ x.u ∧ x.u < 18446744073709551616
  fee : 0 ≤ x.fee ∧ x.fee < 18446744073709551616
  kb : ∀ r ∈ x.roles, AllBytes r.key
end Go.Proofs.YtfaefpniiiandaaDoor

/-
  Of part AheadMem15: what is needed here.
-/
namespace Go.Proofs.YtfaefpniiiandaaDoor
open Go.RowKit
set_option linter.unusedVariables false
set_option maxRecDepth 100000
theorem info_ac15 : (Tryd.prog.info? 59).map (fun i => (i.zero, i.size, i.bytes)) = some (some (.agg blank13.cells.toArray), 34, 48) := by kernel_rfl
end Go.Proofs.YtfaefpniiiandaaDoor

/-
  Of part Use15: what is needed here.
-/
namespace Go.Proofs.YtfaefpniiiandaaDoor
open Go.RowKit
set_option linter.unusedVariables false
theorem rd_ok15 {w : World} {B : Nat} {q : YRaw} {x : LReady} (h : RdOk x) (hi : ReadyIn w B q x) : RdOk15 x :=
  ⟨fun a ha => (h.wf.m.ins a ha).1, fun a ha => (h.wf.m.ins a ha).2, h.u, h.fee, fun r hr => (hi.rs.ok r hr).2⟩
theorem rd_wide15 {x : LReady} (h : RdOk x) : Wide15 x := by
  obtain ⟨_, h1, h2, _, h3, h4, _⟩ := h
  exact ⟨h1, h3, h4, h2⟩
end Go.Proofs.YtfaefpniiiandaaDoor

/-
  Of part Open16: what is needed here.
-/
namespace Go.Proofs.YtfaefpniiiandaaDoor
open Go.ChangeShapes Go.WideShapes Go.RowKit
set_option linter.unusedVariables false
set_option maxRecDepth 100000
theorem cellsHo16 : Tryd.prog.cellsOf 64 = 66 := by kernel_rfl
theorem bytesHo16 : Tryd.prog.bytesOf 64 = 80 := by kernel_rfl
/-- holdings, as they are read -/
structure HolsIn16 (w : World) (B : Nat) (A : Option Addr) (n : Nat) (l : List LHold) : Prop where
  cs : CsIn 66 w B A n (l.map LHold.cells)
  ok : ∀ h ∈ l, HoldOk h
theorem HolsIn16.len {w : World} {B n : Nat} {A : Option Addr} {l : List LHold} (h : HolsIn16 w B A n l) : l.length = n := by have := h.cs.len; rwa [List.length_map] at this
section
variable {H : Type} {enc : TypeId × Value → H} {w : World} {base b0 : Nat} {held : Bool}
theorem open_hold16 {fuel : Nat} {cs : List Value} {x : DataW H × List MemPlace} (hf : DataW.trod enc Tryd.prog w base (fun _ => true) held fuel 64 cs = some x) : ∃ a : LHold, cs = a.cells ∧ HoldOk a := by
  obtain ⟨xs, n, _, hx, hl, hlen, ht⟩ := DataW.trod_struct Tryd.underlying64 hf
  rw [cellsHo16] at hl
  obtain ⟨y0, y1, rfl⟩ : ∃ a b, xs = [a, b] := by
    match xs, hlen with
    | [a, b], _ => exact ⟨a, b, rfl⟩
  have t1 : DataW.trod enc Tryd.prog w base (fun _ => true) held n 57 ((cs.drop 0).take 32) = some y0 := by rw [← cellsKey]; exact ht 0 _ rfl
  have t2 : DataW.trod enc Tryd.prog w base (fun _ => true) held n 59 ((cs.drop 32).take 34) = some y1 := by rw [← cellsAcc13]; exact ht 1 _ rfl
  have hsplit : cs = (cs.drop 0).take 32 ++ (cs.drop 32).take 34 := by
    have e5 : cs.drop 32 = (cs.drop 32).take 34 := (List.take_of_length_le (by rw [List.length_drop]; omega)).symm
    rw [← e5]
    exact (List.take_append_drop 32 cs).symm
  obtain ⟨z, hz, hz1, hz2⟩ := open_32 Tryd.underlying57 cellsKey t1
  obtain ⟨a, ha, ha1⟩ := open_acc t2
  refine ⟨⟨z, a⟩, ?_, ⟨⟨hz1, hz2⟩, ha1⟩⟩
  rw [hsplit, hz, ha]
  rfl
theorem open_holds15_v {A : Option Addr} {n c : Nat} {d : DataW H} {p : List MemPlace} (h : DataW.Trod enc Tryd.prog w base (fun _ => true) held 22 (.slice A n c) d p) (hw : Wt 22 d) :
    ∃ l, n ≤ c ∧ c ≤ maxLen ∧ HolsIn16 w w.heap.size A n l ∧ l.length ≤ 140737488355328 := by
  obtain ⟨fuel, hf⟩ := h
  obtain ⟨A', n', c', hcs, h1, h2, h3, h4⟩ := open_sl (cs := [.slice A n c]) Tryd.underlying22 (by rw [cellsHo16]; omega) hf hw
  obtain ⟨rfl, rfl, rfl⟩ : A = A' ∧ n = n' ∧ c = c' := by simpa using hcs
  rw [bytesHo16] at h3
  have := reach47
  obtain ⟨l, hl, hp⟩ := list_of (α := LHold) (p := fun i z => HoldOk z ∧ ∃ a, A = some a ∧ a.block < w.heap.size ∧ ∀ j u, z.cells[j]? = some u → w.cell? (a.add (i * 66 + j)) = some u) n fun i hi => by
    obtain ⟨a, cs', y, m, e1, e2, e3, e4, e5, _⟩ := h4 i hi
    rw [cellsHo16] at e3 e4
    obtain ⟨z, rfl, hz⟩ := open_hold16 e5
    exact ⟨z, hz, a, e1, e2, e4⟩
  refine ⟨l, h1, h2, ⟨csIn_of13 (by omega) (by rw [List.length_map, hl]) fun i x hx => ?_, fun r hr => ?_⟩, by rw [hl]; omega⟩
  · rw [List.getElem?_map] at hx
    obtain ⟨r, hr, rfl⟩ := Option.map_eq_some_iff.1 hx
    exact ⟨hold_len (hp i r hr).1.k.1 (hp i r hr).1.a.o.1, (hp i r hr).2⟩
  · obtain ⟨i, hi, rfl⟩ := List.getElem_of_mem hr
    exact (hp i _ (List.getElem?_eq_getElem hi)).1
end
end Go.Proofs.YtfaefpniiiandaaDoor

/-
  Of part CoinsMath15: what is needed here.
-/
namespace Go.Proofs.YtfaefpniiiandaaDoor
set_option linter.unusedVariables false
/-- what runs leave: as many accounts, as many coins, and those that do not write as they were -/
structure Ran15 (rs : List LRole) (l f : List LAcc) : Prop where
  len : f.length = l.length
  ok : ∀ a ∈ f, AccOk a
  sum : sumA f = sumA l
  off : ∀ k : Nat, (rol14 rs k).wr = false → getA f k = getA l k
theorem ran_refl15 {rs : List LRole} {l : List LAcc} (h : ∀ a ∈ l, AccOk a) : Ran15 rs l l := ⟨rfl, h, rfl, fun _ _ => rfl⟩
theorem Ran15.deed {rs : List LRole} {l f : List LAcc} (h : Ran15 rs l f) {acc dat : List Int} (hd : AllBytes dat) (hb : AllBytes acc) (he : (do14 f rs acc dat).e = 0) : Ran15 rs l (do14 f rs acc dat).l := by
  obtain ⟨a, b, g⟩ := do_went h.ok hd hb he
  refine ⟨g.d.len.trans h.len, g.d.ok, g.d.sum.trans h.sum, fun k hk => ?_⟩
  rw [g.d.off k (fun e => by rw [e, g.wa] at hk; cases hk) (fun e => by rw [e, g.wb] at hk; cases hk)]
  exact h.off k hk
theorem Ran15.step {x : LReady} {l : List LAcc} {S : S15} (h : Ran15 x.roles l S.now) {k : Nat} {a : LIn} (ha : AllBytes a.acc ∧ AllBytes a.dat) : Ran15 x.roles l (step15 x k a S).2.now := by
  unfold step15
  split
  · exact h
  split
  · exact h
  split
  · split
    · rename_i he
      exact h.deed ha.2 ha.1 he
    · exact h
  split
  · exact h
  · exact h
theorem go_ran15 {x : LReady} {l : List LAcc} : ∀ (r : List LIn) (k : Nat) (S : S15), (∀ a ∈ r, AllBytes a.acc ∧ AllBytes a.dat) → Ran15 x.roles l S.now → Ran15 x.roles l (go15 x r k S).2.2.now
  | [], _, _, _, h => h
  | a :: r, k, S, hb, h => by
    unfold go15
    split
    · exact go_ran15 r _ _ (fun y hy => hb y (List.mem_cons_of_mem _ hy)) (h.step (hb a (List.mem_cons_self ..)))
    · exact h.step (hb a (List.mem_cons_self ..))
/-- the changes are those of some accounts that the runs left -/
theorem run_ran15 {x : LReady} {l : List LAcc} (hl : ∀ a ∈ l, AccOk a) (hb : ∀ a ∈ x.tx.m.ins, AllBytes a.acc ∧ AllBytes a.dat) :
    run15 x l = (out0, 1) ∨ ((run15 x l).2 = 0 ∧ l.length = x.roles.length ∧ ∃ f, (run15 x l).1.ch = chg15 x.roles f ∧ Ran15 x.roles l f) := by
  unfold run15
  by_cases h1 : l.length ≠ x.roles.length
  · rw [if_pos h1]; exact .inl rfl
  rw [if_neg h1]
  by_cases h2 : ∃ a ∈ x.tx.m.ins, (x.roles.length : Int) ≤ a.p
  · rw [if_pos h2]; exact .inl rfl
  rw [if_neg h2]
  right
  by_cases h3 : (go15 x x.tx.m.ins 0 ⟨l, 0, 0⟩).1 = 0
  · rw [if_pos h3]
    exact ⟨rfl, by omega, _, rfl, go_ran15 _ _ _ hb (ran_refl15 hl)⟩
  · rw [if_neg h3]
    exact ⟨rfl, by omega, _, rfl, ran_refl15 hl⟩
theorem rol_at15 {rs : List LRole} {k : Nat} {y : LRole} (h : rs[k]? = some y) : rol14 rs (k : Int) = y := by
  unfold rol14
  rw [Int.toNat_natCast, List.getD_eq_getElem?_getD, h]
  rfl
theorem ld_len15 (L : List LHold) (rs : List LRole) : (ld15 L rs).length = rs.length := List.length_map _
theorem ld_at15 {L : List LHold} {rs : List LRole} {k : Nat} {y : LRole} (h : rs[k]? = some y) : (ld15 L rs)[k]? = some (getH L y.key) := by
  unfold ld15
  rw [List.getElem?_map, h]
  rfl
/-- what was loaded, if it could be paid -/
theorem load_sum15 {L : List LHold} {x : LReady} (h : pay15 L x = true) : (load15 L x).length = x.roles.length ∧ sumA (load15 L x) + x.fee = sumA (ld15 L x.roles) ∧ ∀ k : Nat, (rol14 x.roles k).wr = false → getA (load15 L x) k = getA (ld15 L x.roles) k := by
  unfold pay15 at h
  cases hr : x.roles with
  | nil => rw [hr] at h; cases h
  | cons r rs =>
    rw [hr] at h
    simp only [Bool.and_eq_true] at h
    have h0 : 0 < (ld15 L x.roles).length := by rw [ld_len15, hr]; simp
    unfold load15
    rw [← hr]
    refine ⟨by rw [List.length_set, ld_len15], ?_, fun k hk => ?_⟩
    · rw [sumA_set _ h0]
      dsimp only
      omega
    · rw [getA_set h0, if_neg (fun e => ?_)]
      subst e
      have : rol14 x.roles ((0 : Nat) : Int) = r := rol_at15 (by rw [hr]; rfl)
      rw [this, h.1] at hk
      cases hk
/-- role k, one that only reads: what stands there -/
theorem ran_reads15 {L : List LHold} {x : LReady} {f : List LAcc} (h : pay15 L x = true) (hf : Ran15 x.roles (load15 L x) f) {k : Nat} {y : LRole} (hy : x.roles[k]? = some y) (hw : y.wr = false) : f[k]? = some (getH L y.key) := by
  have hl := load_sum15 h
  have hk : k < f.length := by rw [hf.len, hl.1]; exact (List.getElem?_eq_some_iff.1 hy).1
  have hr : (rol14 x.roles (k : Int)).wr = false := by rw [rol_at15 hy]; exact hw
  rw [getA_some hk, hf.off k hr, hl.2.2 k hr, getA_at (ld_at15 hy)]
theorem ran_sum15 {L : List LHold} {x : LReady} {f : List LAcc} (h : pay15 L x = true) (hf : Ran15 x.roles (load15 L x) f) : sumA (f ++ [⟨x.fee, key0, 0⟩]) = sumA (ld15 L x.roles) := by
  rw [sumA_app, hf.sum, ← (load_sum15 h).2.1]
  simp [sumA]
end Go.Proofs.YtfaefpniiiandaaDoor

/-
  Of part Sum15: what is needed here.
-/
namespace Go.Proofs.YtfaefpniiiandaaDoor
open Go.RowKit
set_option linter.unusedVariables false
set_option maxRecDepth 100000
theorem sum_step15 {T n : Int} (hT : 0 ≤ T) (hT2 : T < 18446744073709551616000) (h0 : 0 ≤ n) (h1 : n < 18446744073709551616) :
    IntKind.u64.wrap (T % 18446744073709551616 + n) = (T + n) % 18446744073709551616 ∧
    ((T + n) % 18446744073709551616 < T % 18446744073709551616 → IntKind.u64.wrap (T / 18446744073709551616 + 1) = (T + n) / 18446744073709551616) ∧ (¬ (T + n) % 18446744073709551616 < T % 18446744073709551616 → T / 18446744073709551616 = (T + n) / 18446744073709551616) := by
  simp only [IntKind.wrap_u64]
  refine ⟨by omega, fun h => by omega, fun h => by omega⟩
theorem sum_take15 {L : List LAcc} {j : Nat} {x : LAcc} (h : L[j]? = some x) : sumA (L.take (j + 1)) = sumA (L.take j) + x.c := by
  rw [List.take_add_one, h, Option.toList_some, sumA_app]
  show _ + (x.c + 0) = _
  omega
/-- a sum in two numbers -/
def two15 (s : Int) : List Value := [.int .u64 (s / 18446744073709551616), .int .u64 (s % 18446744073709551616)]
theorem two_one15 (s : Int) : ∀ u ∈ two15 s, u.oneCell' = true := fun u hu => by
  simp only [two15, List.mem_cons, List.not_mem_nil, or_false] at hu
  rcases hu with rfl | rfl <;> rfl
theorem size_alloc15 (w : World) (o : Obj) : (w.alloc o).heap.size = w.heap.size + 1 := by simp
theorem acc_c15 (x : LAcc) : x.cells[0]? = some (.int .u64 x.c) := rfl
theorem zero_two15 : (Tryd.prog.info? 65).map (·.zero) = some (some (.agg (two15 0).toArray)) := by kernel_rfl
theorem size_two15 (s : Int) : (Tryd.prog.info? 65).map (·.size) = some (two15 s).length := by
  have h : (Tryd.prog.info? 65).map (·.size) = some 2 := by kernel_rfl
  exact h
set_option maxHeartbeats 8000000 in
theorem sum15 (A : Option Addr) (n c B : Nat) (L : List LAcc) (w : World) (h : AccsIn w B A n L) (hB : B ≤ w.heap.size) (hL : n ≤ 900) : Calls Tryd.prog 15 #[.slice A n c] w fun e w' => e = .returned (.agg (two15 (sumA L)).toArray) ∧ Below w.heap.size w w' := by
  have HH := Lib.hid h
  have HB := Lib.hid hB
  have HNL := Lib.hid h.len
  have HOKS := Lib.hid h.ok
  have HT : Hid (∀ j, 0 ≤ sumA (L.take j) ∧ sumA (L.take j) < 18446744073709551616000) := Lib.hid fun j => by
    have h1 : ∀ x ∈ L.take j, AccOk x := fun x hx => HOKS.out x (List.mem_of_mem_take hx)
    have h3 := sumA_bound h1
    have h4 : (L.take j).length ≤ 900 := by rw [List.length_take, HNL.out]; omega
    exact ⟨h3.1, by omega⟩
  clear h hB
  go_enter Tryd.func15, Tryd.ntmps15
  go_upto_region 2 with (first
    | ((with_reducible show wpList _ _ _ ({ dst := some 2, op := Op.alloc _, type := _, pos := _, after := _, guard := _ } :: _) _ _); go_must (refine wpList_alloc_zero rfl 65 rfl (two15 0) zero_two15 ?_))
    | ((with_reducible show wpList _ _ _ ({ dst := some 3, op := Op.alloc _, type := _, pos := _, after := _, guard := _ } :: _) _ _); go_must (refine wpList_alloc_zero rfl 65 rfl (two15 0) zero_two15 ?_)))
  have hb1 := (Below.refl w.heap.size w).alloc (Nat.le_refl _) (.cells (two15 0).toArray 65)
  have hb2 := hb1.alloc hb1.size (.cells (two15 0).toArray 65)
  have hr2 := (Row.new w 65 (two15 0)).alloc (.cells (two15 0).toArray 65)
  have hr3 := Row.new (w.alloc (.cells (two15 0).toArray 65)) 65 (two15 0)
  have hsz : (w.alloc (.cells (two15 0).toArray 65)).heap.size = w.heap.size + 1 := size_alloc15 _ _
  rw [hsz] at hr3 ⊢
  generalize (w.alloc (.cells (two15 0).toArray 65)).alloc (.cells (two15 0).toArray 65) = W at *
  have B0 := Lib.hid hb2
  have R2 := Lib.hid hr2
  have R3 := Lib.hid hr3
  clear hb1 hb2 hr2 hr3 hsz
  obtain ⟨g2, hg2⟩ : ∃ g, g = w.heap.size := ⟨_, rfl⟩
  rw [← hg2] at R2 R3 ⊢
  have HG2 : Hid (w.heap.size = g2) := Lib.hid hg2.symm
  clear hg2
  go_wp2_with fail
  go_loopw [4, 5] (fun i _ wr => ∃ j : Nat, j ≤ n ∧ i = .int .i64 j ∧ Row wr g2 65 (two15 0) ∧ Row wr (g2 + 1) 65 (two15 (sumA (L.take j))) ∧ Below w.heap.size w wr) (fun i _ _ => n - (intOf i).toNat)
  case atStart => exact ⟨0, Nat.zero_le _, rfl, R2.out, R3.out, B0.out⟩
  case round =>
    obtain ⟨j, hj, rfl, hr2, hr3, hb⟩ := hrel
    have BW := Lib.hid hb
    have Q2 := Lib.hid hr2
    have Q3 := Lib.hid hr3
    clear hr2 hr3 hb R2 R3 B0
    rename World => wr
    by_cases hlt : j < n
    · have hlt' : (j : Int) < n := by omega
      obtain ⟨a, y, rfl, hab, hy, hok, hcy⟩ := HH.out.get hlt
      have hcell : wr.cell? (a.add (j * 34)) = some (.int .u64 y.c) := by
        have h1 := (BW.out.cell (by rw [addr_block, addr_block]; have := HB.out; omega)).trans (hcy 0 _ (acc_c15 y))
        have e : ∀ p : Addr, p.add 0 = p := fun p => by obtain ⟨g, o, f⟩ := p; cases f <;> rfl
        rwa [e] at h1
      have hst := sum_step15 (HT.out j).1 (HT.out j).2 hok.c.1 hok.c.2
      have hts := sum_take15 hy
      rw [← hts] at hst
      have q0 : wr.cell? ⟨g2 + 1, 0, none⟩ = some (.int .u64 (sumA (L.take j) / 18446744073709551616)) := Q3.out.cell 0
      have q1 : wr.cell? ⟨g2 + 1, 1, none⟩ = some (.int .u64 (sumA (L.take j) % 18446744073709551616)) := Q3.out.cell 1
      have f0 : wr.frozen? ⟨g2 + 1, 0, none⟩ = false := Q3.out.frozen 0
      have f1 : wr.frozen? ⟨g2 + 1, 1, none⟩ = false := Q3.out.frozen 1
      obtain ⟨s1, hs1⟩ : ∃ s, s = sumA (L.take (j + 1)) := ⟨_, rfl⟩
      have HS1 : Hid (sumA (L.take (j + 1)) = s1) := Lib.hid hs1.symm
      rw [← hs1] at hst
      have e1 := hst.1
      have HE2 := Lib.hid hst.2.1
      have HE3 := Lib.hid hst.2.2
      clear hst hts hab hy hok hcy hs1
      obtain ⟨h0, hh0⟩ : ∃ h, h = sumA (L.take j) / 18446744073709551616 := ⟨_, rfl⟩
      obtain ⟨l0, hl0⟩ : ∃ h, h = sumA (L.take j) % 18446744073709551616 := ⟨_, rfl⟩
      obtain ⟨h1, hh1⟩ : ∃ h, h = s1 / 18446744073709551616 := ⟨_, rfl⟩
      obtain ⟨l1, hl1⟩ : ∃ h, h = s1 % 18446744073709551616 := ⟨_, rfl⟩
      have HTW : Hid (two15 (sumA (L.take j)) = [.int .u64 h0, .int .u64 l0] ∧ two15 s1 = [.int .u64 h1, .int .u64 l1]) := Lib.hid (by rw [hh0, hl0, hh1, hl1]; exact ⟨rfl, rfl⟩)
      rw [← hh0] at q0 HE2 HE3
      rw [← hl0] at q1 e1 HE2 HE3
      rw [← hl1] at e1 HE2 HE3
      rw [← hh1] at HE2 HE3
      clear hh0 hl0 hh1 hl1
      generalize y.c = cy at *
      by_cases hov : l1 < l0
      · have e2 := HE2.out hov
        go_wp2_with fail
        go_quiet (fail)
        go_wp2_with fail
        go_roundw
        case rel => exact ⟨j + 1, by omega, by go_num, ((Q2.out.drewN _).far (p := ⟨g2 + 1, 0, none⟩) (by show g2 ≠ g2 + 1; omega) _).far (p := ⟨g2 + 1, 1, none⟩) (by show g2 ≠ g2 + 1; omega) _, by rw [HS1.out, HTW.out.2]; have h := ((Q3.out.drewN nq).set_ 0 (.int .u64 h1)).set_ 1 (.int .u64 l1); rw [HTW.out.1] at h; exact h, ((Go.below_drewN BW.out _).setCell (p := ⟨g2 + 1, 0, none⟩) (by have := HG2.out; show w.heap.size ≤ g2 + 1; omega) _).setCell (p := ⟨g2 + 1, 1, none⟩) (by have := HG2.out; show w.heap.size ≤ g2 + 1; omega) _⟩
        case measure => simp [intOf]; omega
      · have HH3 := Lib.hid (HE3.out hov)
        go_wp2_with fail
        go_quiet (fail)
        go_wp2_with fail
        go_roundw
        case rel => exact ⟨j + 1, by omega, by go_num, (Q2.out.drewN _).far (p := ⟨g2 + 1, 1, none⟩) (by show g2 ≠ g2 + 1; omega) _, by rw [HS1.out, HTW.out.2, ← HH3.out]; have h := (Q3.out.drewN nq).set_ 1 (.int .u64 l1); rw [HTW.out.1] at h; exact h, (Go.below_drewN BW.out _).setCell (p := ⟨g2 + 1, 1, none⟩) (by have := HG2.out; show w.heap.size ≤ g2 + 1; omega) _⟩
        case measure => simp [intOf]; omega
    · have hlt' : ¬ (j : Int) < n := by omega
      have HE : Hid (L.take j = L) := Lib.hid (List.take_of_length_le (by rw [HNL.out]; omega))
      rw [HE.out] at Q3
      go_wp2_with (first
        | ((with_reducible show wpList _ _ _ ({ dst := some 30, op := Op.load _ _, type := _, pos := _, after := _, guard := _ } :: _) _ _); go_must (refine wpList_load_whole rfl 65 (.tmp 3) rfl (g2 + 1) 65 (two15 (sumA L)) _ Tryd.underlying65 rfl (size_two15 _) Q3.out ?_ ?_; go_simp))
        | ((with_reducible show wpList _ _ _ ({ dst := none, op := Op.store 65 (.tmp 2) _, type := _, pos := _, after := _, guard := _ } :: _) _ _); go_must (refine wpList_store_whole rfl 65 (.tmp 2) (.tmp 30) rfl g2 (two15 0) (two15 (sumA L)) Q2.out (size_two15 _) rfl (two_one15 _) ?_ ?_ ?_; go_simp; go_simp; intro w5 hr5 ht5)))
      have R5 := Lib.hid hr5
      have B5 := Lib.hid (BW.out.trans (ht5.below (B := w.heap.size) (by have := HG2.out; omega)))
      clear hr5 ht5
      refine bodyPost_ret (results_cell_row (h := rfl) _ w5 g2 65 _ (0, 0) _ (by rfl) R5.out.is Tryd.underlying65 rfl (size_two15 _)) rfl ?_
      exact ⟨rfl, B5.out⟩
end Go.Proofs.YtfaefpniiiandaaDoor

/-
  Of part Stores16: what is needed here.
-/
namespace Go.Proofs.YtfaefpniiiandaaDoor
open Go.RowKit
set_option linter.unusedVariables false
set_option maxRecDepth 100000
theorem addr_field16 (a : Addr) {o : Nat} (ho : 0 < o) : (⟨a.block, a.off + o, none⟩ : Addr) = a.add o := by
  unfold Addr.add
  rw [if_neg (by omega)]
theorem RS13.far16 {w w' : World} {pb base sb mb : Nat} {v : Value} {L M : List LHold} (h : RS13 w pb base v L) (hs : StIn w sb mb M) (hg : w.grownBy w' (some mb)) : RS13 w' pb base v L :=
  ⟨h.row.grown hg (fun e => hs.row_ne h.row (Option.some.inj e)), h.own.kept hg (hs.own_ne16 h.own), h.sto⟩
theorem StIn.far16 {w w' : World} {pb t sb mb : Nat} {xs : List Value} {M : List LHold} (hs : StIn w sb mb M) (hr : Row w pb t xs) (hne : 109 ≠ t) (hg : w.grownBy w' (some pb)) : StIn w' sb mb M :=
  hs.keep (hg.block _ hs.lt.1 (fun e => row_far16 hs.row hr hne (Option.some.inj e))) (hg.block _ hs.lt.2 (fun e => hs.row_ne hr (Option.some.inj e).symm))
theorem built_ref16 : Tryd.prog.built 92 [] = some (([.slice none 0 0] : List Value)).toArray := by kernel_rfl
def StoresDone16 (w : World) (L : List LHold) (e : Ending) (w' : World) : Prop := ∃ sb mb pb, e = .returned (.tuple #[.pointer (some ⟨sb, 0, none⟩), .pointer (some ⟨pb, 0, none⟩)]) ∧ StIn w' sb mb L ∧ w.heap.size ≤ sb ∧ w.heap.size ≤ mb ∧ Below w.heap.size w w'
theorem puts_len16 (l : List LHold) : (commit16 [] l).length ≤ l.length := by
  have := commit_len16 l []
  simpa using this
set_option maxHeartbeats 8000000 in
theorem stores16 (A : Option Addr) (n c B : Nat) (l : List LHold) (w : World) (hl : HolsIn16 w B A n l) (hB : B ≤ w.heap.size) (hn : n ≤ 200) : Calls Tryd.prog 11 #[.slice A n c] w (StoresDone16 w (commit16 [] l)) := by
  have HM := Lib.hid hl
  have HB := Lib.hid hB
  have HLN := Lib.hid hl.len
  clear hl hB
  go_enter Tryd.func11, Tryd.ntmps11
  go_wp2_with fail
  refine (new13 w).mono ?_
  rintro e w1 ⟨sb, mb, rfl, hs, h1, h2, hb⟩
  have S1 := Lib.hid hs
  have B1 := Lib.hid hb
  have HLO := Lib.hid (And.intro h1 h2)
  clear hs hb h1 h2
  go_upto_region 3 with (first
    | ((with_reducible show wpList _ _ _ ({ dst := some 8, op := Op.build _ _, type := _, pos := _, after := _, guard := _ } :: _) _ _); go_must (refine wpList_plain rfl fun K hK => wp_built _ _ _ rfl (by simp only [List.map_toArray, List.map_nil]; exact built_ref16) (hK _ _ ?_)))
    | ((with_reducible show wpList _ _ _ ({ dst := some 9, op := Op.box _ _, type := _, pos := _, after := _, guard := _ } :: _) _ _); go_must (refine wpList_box_new rfl 92 (.tmp 8) rfl [.slice none 0 0] (by go_simp) ?_)))
  obtain ⟨pb, hpb⟩ : ∃ g, g = w1.heap.size := ⟨_, rfl⟩
  have hb2 := (Below.refl w1.heap.size w1).alloc (Nat.le_refl _) (.cells ([Value.slice none 0 0] : List Value).toArray 92)
  have R2 : RS13 (w1.alloc (.cells ([Value.slice none 0 0] : List Value).toArray 92)) w1.heap.size w.heap.size (.slice none 0 0) [] := ⟨Row.new w1 _ _, own_nilN _ _ _ _, sto_nil⟩
  have S2 := Lib.hid (S1.out.below hb2)
  have B2 := Lib.hid (B1.out.trans (hb2.mono B1.out.size))
  have HPB : Hid (w.heap.size ≤ pb) := Lib.hid (by rw [hpb]; exact B1.out.size)
  rw [← hpb] at R2 ⊢
  have HR2 : Hid (∃ v, RS13 (w1.alloc (.cells ([Value.slice none 0 0] : List Value).toArray 92)) pb w.heap.size v []) := Lib.hid ⟨_, R2⟩
  clear hpb hb2 R2 S1 B1
  generalize w1.alloc (.cells ([Value.slice none 0 0] : List Value).toArray 92) = w2 at *
  go_wp2_with fail
  go_loopw [6] (fun i wr => ∃ k : Nat, k ≤ n ∧ i = .int .i64 k ∧ StIn wr sb mb (commit16 [] (l.take k)) ∧ (∃ v, RS13 wr pb w.heap.size v (commit16 [] (l.take k))) ∧ Below w.heap.size w wr) (fun i _ => n - (intOf i).toNat)
  case atStart => exact ⟨0, Nat.zero_le _, rfl, S2.out, HR2.out, B2.out⟩
  case round =>
    clear S2 HR2 B2
    obtain ⟨k, hk, rfl, hst, ⟨v, hrs⟩, hb⟩ := hrel
    have HST := Lib.hid hst
    have HRS := Lib.hid hrs
    have HBW := Lib.hid hb
    clear hst hrs hb
    rename World => wr
    by_cases hlt : k < n
    · have hlt' : (k : Int) < n := by omega
      obtain ⟨a, xs, ea, hab, hxs, hxl, hcs⟩ := HM.out.cs.get hlt (by omega)
      obtain ⟨h, hh, rfl⟩ : ∃ h, l[k]? = some h ∧ h.cells = xs := by
        rw [List.getElem?_map] at hxs
        obtain ⟨h, h1, h2⟩ := Option.map_eq_some_iff.1 hxs
        exact ⟨h, h1, h2⟩
      have HH := Lib.hid (HM.out.ok h (List.mem_of_getElem? hh))
      have HMT := Lib.hid (commit_take16 (L := []) hh)
      have HPL : Hid ((commit16 [] (l.take k)).length ≤ 5000) := Lib.hid (by have := puts_len16 (l.take k); have := List.length_take_le k l; omega)
      have HSK : Hid ((Tryd.prog.info? 57).map (·.size) = some (bv h.k).length) := Lib.hid (by rw [size_key, bv_length, HH.out.k.1])
      have HSA := Lib.hid (size_acc HH.out.a.o.1)
      have HCK : Hid (∀ V, Below w.heap.size w V → ∀ j u, (bv h.k)[j]? = some u → V.cell? ((a.add (k * 66)).add j) = some u) := Lib.hid fun V hV j u hu =>
        (hV.cell (by rw [addr_block, addr_block]; exact Nat.lt_of_lt_of_le hab HB.out)).trans (hcs _ _ (hold_k hu))
      have HCA : Hid (∀ V, Below w.heap.size w V → ∀ j u, h.a.cells[j]? = some u → V.cell? ((⟨(a.add (k * 66)).block, (a.add (k * 66)).off + 32, none⟩ : Addr).add j) = some u) := Lib.hid fun V hV j u hu => by
        rw [addr_field16 _ (by omega), addr_add, hV.cell (by rw [addr_block, addr_block]; exact Nat.lt_of_lt_of_le hab HB.out)]
        exact hcs _ _ (hold_a HH.out.k.1 hu)
      subst ea
      clear hab hxs hxl hcs hh
      go_upto_region 6 with fail
      refine wp_region_held_drew (S := (fun V => Below w.heap.size w V)) (by kernel_rfl) HBW.out.drew (fun _ => ?_)
      try dsimp only [List.append]
      have BD := Lib.hid HBW.out.drew
      have SD := Lib.hid (HST.out.below (Below.refl _ wr).drew)
      have RD := Lib.hid (HRS.out.below (Below.refl _ wr).drew)
      clear HST HRS HBW
      generalize wr.drew = wd at *
      refine takeL (i := 0) (v := ?_) rfl (by kernel_rfl) (by kernel_rfl) (by kernel_rfl) (fun _ _ _ h => h) (Or.inl ⟨by rfl, ?_⟩) BD.out ?_
      rotate_left
      · intro w hw
        try dsimp only at hw
        go_simp
        try with_reducible rfl
      try simp only [Act.put, List.setIfInBounds_toArray, List.set_cons_zero, List.set_cons_succ]
      refine takeL (i := 1) (v := ?_) rfl (by kernel_rfl) (by kernel_rfl) (by kernel_rfl) (fun _ _ _ h => h) (Or.inl ⟨by rfl, ?_⟩) BD.out ?_
      rotate_left
      · intro w hw
        try dsimp only at hw
        go_simp
        try with_reducible rfl
      try simp only [Act.put, List.setIfInBounds_toArray, List.set_cons_zero, List.set_cons_succ]
      refine takeL (i := 2) (v := ?_) rfl (by kernel_rfl) (by kernel_rfl) (by kernel_rfl) (fun _ _ _ h => h) (Or.inl ⟨by rfl, ?_⟩) BD.out ?_
      rotate_left
      · intro w hw
        try dsimp only at hw
        go_simp
        try with_reducible rfl
      try simp only [Act.put, List.setIfInBounds_toArray, List.set_cons_zero, List.set_cons_succ]
      refine takeL (i := 3) (v := ?_) rfl (by kernel_rfl) (by kernel_rfl) (by kernel_rfl) (fun _ _ _ h => h) (Or.inl ⟨by rfl, ?_⟩) BD.out ?_
      rotate_left
      · intro w hw
        try dsimp only at hw
        go_simp
        try with_reducible rfl
      try simp only [Act.put, List.setIfInBounds_toArray, List.set_cons_zero, List.set_cons_succ]
      refine takeL (i := 4) (v := ?_) rfl (by kernel_rfl) (by kernel_rfl) (by kernel_rfl) (fun _ _ _ h => h) (Or.inl ⟨by rfl, ?_⟩) BD.out ?_
      rotate_left
      · intro w hw
        try dsimp only at hw
        go_simp
        try with_reducible rfl
      try simp only [Act.put, List.setIfInBounds_toArray, List.set_cons_zero, List.set_cons_succ]
      refine takeL (i := 5) (v := .agg (bv h.k).toArray) rfl (by kernel_rfl) (by kernel_rfl) (by kernel_rfl) (fun _ _ _ h => h) (Or.inl ⟨by rfl, fun wz hwz => exec_load_at wz 57 (.tmp 20) rfl (a.add (k * 66)) (bv h.k) _ Tryd.underlying57 rfl HSK.out (HCK.out wz hwz) (by go_simp)⟩) BD.out ?_
      try simp only [Act.put, List.setIfInBounds_toArray, List.set_cons_zero, List.set_cons_succ]
      refine takeL (i := 6) (v := ?_) rfl (by kernel_rfl) (by kernel_rfl) (by kernel_rfl) (fun _ _ _ h => h) (Or.inl ⟨by rfl, ?_⟩) BD.out ?_
      rotate_left
      · intro w hw
        try dsimp only at hw
        go_simp
        try with_reducible rfl
      try simp only [Act.put, List.setIfInBounds_toArray, List.set_cons_zero, List.set_cons_succ]
      refine takeL (i := 7) (v := ?_) rfl (by kernel_rfl) (by kernel_rfl) (by kernel_rfl) (fun _ _ _ h => h) (Or.inl ⟨by rfl, ?_⟩) BD.out ?_
      rotate_left
      · intro w hw
        try dsimp only at hw
        go_simp
        try with_reducible rfl
      try simp only [Act.put, List.setIfInBounds_toArray, List.set_cons_zero, List.set_cons_succ]
      refine takeL (i := 8) (v := ?_) rfl (by kernel_rfl) (by kernel_rfl) (by kernel_rfl) (fun _ _ _ h => h) (Or.inl ⟨by rfl, ?_⟩) BD.out ?_
      rotate_left
      · intro w hw
        try dsimp only at hw
        go_simp
        try with_reducible rfl
      try simp only [Act.put, List.setIfInBounds_toArray, List.set_cons_zero, List.set_cons_succ]
      refine takeL (i := 9) (v := ?_) rfl (by kernel_rfl) (by kernel_rfl) (by kernel_rfl) (fun _ _ _ h => h) (Or.inl ⟨by rfl, ?_⟩) BD.out ?_
      rotate_left
      · intro w hw
        try dsimp only at hw
        go_simp
        try with_reducible rfl
      try simp only [Act.put, List.setIfInBounds_toArray, List.set_cons_zero, List.set_cons_succ]
      refine takeL (i := 10) (v := .agg h.a.cells.toArray) rfl (by kernel_rfl) (by kernel_rfl) (by kernel_rfl) (fun _ _ _ h => h) (Or.inl ⟨by rfl, fun wz hwz => exec_load_at wz 59 (.tmp 25) rfl ⟨(a.add (k * 66)).block, (a.add (k * 66)).off + 32, none⟩ h.a.cells _ Tryd.underlying59 rfl HSA.out (HCA.out wz hwz) (by go_simp)⟩) BD.out ?_
      try simp only [Act.put, List.setIfInBounds_toArray, List.set_cons_zero, List.set_cons_succ]
      refine readyL (i := 11) rfl (by kernel_rfl) (by kernel_rfl) fun K hK => ?_
      go_simp
      refine (put13 sb mb _ h.k h.a wd SD.out HH.out.k HH.out.a HPL.out).mono ?_
      rintro e w3 ⟨rfl, hs, hg⟩
      rw [← HMT.out] at hs
      have S3 := Lib.hid hs
      have R3 := Lib.hid (RD.out.far16 SD.out hg)
      have B3 := Lib.hid (gb_below16 (B := w.heap.size) hg HLO.out.2 BD.out.size)
      have BW3 := Lib.hid (BD.out.trans B3.out)
      clear hs hg SD RD
      refine hK.out _ _ BW3.out ?_
      clear hK K
      try simp only [Act.put, List.setIfInBounds_toArray, List.set_cons_zero, List.set_cons_succ]
      refine wpAnyH_done (by kernel_rfl) ?_ _
      go_upto_region 7 with fail
      refine wp_region_held_drew (S := (fun V => Below w.heap.size w V)) (by kernel_rfl) BW3.out.drew (fun _ => ?_)
      try dsimp only [List.append]
      have BE := Lib.hid BW3.out.drew
      have SE := Lib.hid (S3.out.below (Below.refl _ w3).drew)
      have RE := Lib.hid (R3.out.below (Below.refl _ w3).drew)
      clear S3 R3 BW3 B3 BD
      generalize w3.drew = we at *
      refine takeL (i := 0) (v := ?_) rfl (by kernel_rfl) (by kernel_rfl) (by kernel_rfl) (fun _ _ _ h => h) (Or.inl ⟨by rfl, ?_⟩) BE.out ?_
      rotate_left
      · intro w hw
        try dsimp only at hw
        go_simp
        try with_reducible rfl
      try simp only [Act.put, List.setIfInBounds_toArray, List.set_cons_zero, List.set_cons_succ]
      refine takeL (i := 1) (v := ?_) rfl (by kernel_rfl) (by kernel_rfl) (by kernel_rfl) (fun _ _ _ h => h) (Or.inl ⟨by rfl, ?_⟩) BE.out ?_
      rotate_left
      · intro w hw
        try dsimp only at hw
        go_simp
        try with_reducible rfl
      try simp only [Act.put, List.setIfInBounds_toArray, List.set_cons_zero, List.set_cons_succ]
      refine takeL (i := 2) (v := ?_) rfl (by kernel_rfl) (by kernel_rfl) (by kernel_rfl) (fun _ _ _ h => h) (Or.inl ⟨by rfl, ?_⟩) BE.out ?_
      rotate_left
      · intro w hw
        try dsimp only at hw
        go_simp
        try with_reducible rfl
      try simp only [Act.put, List.setIfInBounds_toArray, List.set_cons_zero, List.set_cons_succ]
      refine takeL (i := 3) (v := ?_) rfl (by kernel_rfl) (by kernel_rfl) (by kernel_rfl) (fun _ _ _ h => h) (Or.inl ⟨by rfl, ?_⟩) BE.out ?_
      rotate_left
      · intro w hw
        try dsimp only at hw
        go_simp
        try with_reducible rfl
      try simp only [Act.put, List.setIfInBounds_toArray, List.set_cons_zero, List.set_cons_succ]
      refine takeL (i := 4) (v := ?_) rfl (by kernel_rfl) (by kernel_rfl) (by kernel_rfl) (fun _ _ _ h => h) (Or.inl ⟨by rfl, ?_⟩) BE.out ?_
      rotate_left
      · intro w hw
        try dsimp only at hw
        go_simp
        try with_reducible rfl
      try simp only [Act.put, List.setIfInBounds_toArray, List.set_cons_zero, List.set_cons_succ]
      refine takeL (i := 5) (v := .agg (bv h.k).toArray) rfl (by kernel_rfl) (by kernel_rfl) (by kernel_rfl) (fun _ _ _ h => h) (Or.inl ⟨by rfl, fun wz hwz => exec_load_at wz 57 (.tmp 32) rfl (a.add (k * 66)) (bv h.k) _ Tryd.underlying57 rfl HSK.out (HCK.out wz hwz) (by go_simp)⟩) BE.out ?_
      try simp only [Act.put, List.setIfInBounds_toArray, List.set_cons_zero, List.set_cons_succ]
      refine takeL (i := 6) (v := ?_) rfl (by kernel_rfl) (by kernel_rfl) (by kernel_rfl) (fun _ _ _ h => h) (Or.inl ⟨by rfl, ?_⟩) BE.out ?_
      rotate_left
      · intro w hw
        try dsimp only at hw
        go_simp
        try with_reducible rfl
      try simp only [Act.put, List.setIfInBounds_toArray, List.set_cons_zero, List.set_cons_succ]
      refine takeL (i := 7) (v := ?_) rfl (by kernel_rfl) (by kernel_rfl) (by kernel_rfl) (fun _ _ _ h => h) (Or.inl ⟨by rfl, ?_⟩) BE.out ?_
      rotate_left
      · intro w hw
        try dsimp only at hw
        go_simp
        try with_reducible rfl
      try simp only [Act.put, List.setIfInBounds_toArray, List.set_cons_zero, List.set_cons_succ]
      refine takeL (i := 8) (v := ?_) rfl (by kernel_rfl) (by kernel_rfl) (by kernel_rfl) (fun _ _ _ h => h) (Or.inl ⟨by rfl, ?_⟩) BE.out ?_
      rotate_left
      · intro w hw
        try dsimp only at hw
        go_simp
        try with_reducible rfl
      try simp only [Act.put, List.setIfInBounds_toArray, List.set_cons_zero, List.set_cons_succ]
      refine takeL (i := 9) (v := ?_) rfl (by kernel_rfl) (by kernel_rfl) (by kernel_rfl) (fun _ _ _ h => h) (Or.inl ⟨by rfl, ?_⟩) BE.out ?_
      rotate_left
      · intro w hw
        try dsimp only at hw
        go_simp
        try with_reducible rfl
      try simp only [Act.put, List.setIfInBounds_toArray, List.set_cons_zero, List.set_cons_succ]
      refine takeL (i := 10) (v := .agg h.a.cells.toArray) rfl (by kernel_rfl) (by kernel_rfl) (by kernel_rfl) (fun _ _ _ h => h) (Or.inl ⟨by rfl, fun wz hwz => exec_load_at wz 59 (.tmp 37) rfl ⟨(a.add (k * 66)).block, (a.add (k * 66)).off + 32, none⟩ h.a.cells _ Tryd.underlying59 rfl HSA.out (HCA.out wz hwz) (by go_simp)⟩) BE.out ?_
      try simp only [Act.put, List.setIfInBounds_toArray, List.set_cons_zero, List.set_cons_succ]
      refine readyL (i := 11) rfl (by kernel_rfl) (by kernel_rfl) fun K hK => ?_
      go_simp
      refine (refPut13 pb w.heap.size v _ h.k h.a we RE.out HH.out.k HH.out.a HPL.out BE.out.size).mono ?_
      rintro e w4 ⟨rfl, u, hr, hg⟩
      rw [← HMT.out] at hr
      have R4 : Hid (∃ v, RS13 w4 pb w.heap.size v (commit16 [] (l.take (k + 1)))) := Lib.hid ⟨u, hr⟩
      have S4 := Lib.hid (SE.out.far16 RE.out.row (by decide) hg)
      have BW4 := Lib.hid (BE.out.trans (gb_below16 (B := w.heap.size) hg HPB.out BE.out.size))
      clear hr hg SE RE
      refine hK.out _ _ BW4.out ?_
      clear hK K
      try simp only [Act.put, List.setIfInBounds_toArray, List.set_cons_zero, List.set_cons_succ]
      refine wpAnyH_done (by kernel_rfl) ?_ _
      go_wp2_with fail
      go_roundw
      case rel => exact ⟨k + 1, by omega, by go_num, S4.out, R4.out, BW4.out⟩
      case measure => simp [intOf]; omega
    · have hke : k = n := by omega
      have hlt' : ¬ (k : Int) < n := by omega
      have HT : Hid (l.take k = l) := Lib.hid (by rw [hke, ← HLN.out]; exact List.take_length)
      rw [HT.out] at HST
      go_wp2_with fail
      go_ret2
      exact ⟨sb, mb, pb, rfl, HST.out, HLO.out.1, HLO.out.2, HBW.out⟩
end Go.Proofs.YtfaefpniiiandaaDoor

/-
  Of part KeysWalk16: what is needed here.
-/
namespace Go.Proofs.YtfaefpniiiandaaDoor
open Go.RowKit
set_option linter.unusedVariables false
set_option maxRecDepth 100000
theorem exec_bin16 {o : Oper} {a : Act} (w : World) (b : BinOp) (t : TypeId) {u : TypeId} (x y : Operand) {X Y : Array Value} {v : Value} (hm : Tryd.prog.eqGuardType Tryd.prog.depth t = false) (ho : o.op = .binOp b t x y u) (hx : a.eval x = .agg X) (hy : a.eval y = .agg Y) (h : (binOp b t (.agg X) (.agg Y)).run Tryd.prog w = .ok v w) : (execOp a.eval o).run Tryd.prog w = .ok (.value v) w := by
  unfold execOp
  rw [ho]
  simp only [hx, hy]
  rw [Sem.run_bind, Sem.run_bind, run_eqGuard_agg (hm := hm), Result.andThen_ok, h]
  rfl
end Go.Proofs.YtfaefpniiiandaaDoor

/-
  Of part Twice15: what is needed here.
-/
namespace Go.Proofs.YtfaefpniiiandaaDoor
open Go.RowKit
set_option linter.unusedVariables false
set_option maxRecDepth 100000
def SomeB15 (e : Ending) : Prop := ∃ b : Bool, e = .returned (.bool b)
set_option maxHeartbeats 8000000 in
theorem twice15 (A : Option Addr) (n c B : Nat) (l : List LRole) (w : World) (hx : RolesIn w B A n l) (hB : B ≤ w.heap.size) (hn : n ≤ 1000) :
    Calls Tryd.prog 9 #[.slice A n c] w fun e w' => SomeB15 e ∧ Below w.heap.size w w' := by
  have HX := Lib.hid hx
  have HB := Lib.hid hB
  clear hx
  go_enter Tryd.func9, Tryd.ntmps9
  go_wp2_with fail
  go_loopw [3] (fun i wr => ∃ k : Nat, k ≤ n ∧ i = .int .i64 k ∧ Below w.heap.size w wr) (fun i _ => n - (intOf i).toNat)
  case atStart => exact ⟨0, Nat.zero_le _, rfl, Below.refl _ _⟩
  case round =>
    obtain ⟨k, hk, rfl, hb⟩ := hrel
    have BW := Lib.hid hb
    clear hb
    rename World => wr
    by_cases hlt : k < n
    · have hlt' : (k : Int) < n := by omega
      go_wp2_with fail
      go_loopw [4] (fun i wr => ∃ j : Nat, j ≤ k ∧ i = .int .i64 j ∧ Below w.heap.size w wr) (fun i _ => k - (intOf i).toNat)
      case atStart => exact ⟨0, Nat.zero_le _, rfl, BW.out⟩
      case round =>
        obtain ⟨j, hj, rfl, hb⟩ := hrel
        have BV := Lib.hid hb
        clear hb BW
        rename World => wv
        by_cases hlj : j < k
        · have hlj' : (j : Int) < k := by omega
          have hjn : (j : Int) < n := by omega
          obtain ⟨a, y, ea, hab, hy, hyo, hyc⟩ := HX.out.get hlt
          obtain ⟨a2, z, ea2, hab2, hz, hzo, hzc⟩ := HX.out.get (k := j) (by omega)
          obtain rfl : a = a2 := by rw [ea] at ea2; exact Option.some.inj ea2
          have HSY : Hid ((Tryd.prog.info? 57).map (·.size) = some (bv y.key).length) := Lib.hid (by rw [bv_length, hyo.1]; exact size_key)
          have HSZ : Hid ((Tryd.prog.info? 57).map (·.size) = some (bv z.key).length) := Lib.hid (by rw [bv_length, hzo.1]; exact size_key)
          have HCY : Hid (∀ V, Below w.heap.size w V → ∀ i u, (bv y.key)[i]? = some u → V.cell? ((a.add (k * 34)).add i) = some u) := Lib.hid fun V hV i u hu => (hV.cell (by rw [addr_block, addr_block]; omega)).trans (hyc i u (role_key hu))
          have HCZ : Hid (∀ V, Below w.heap.size w V → ∀ i u, (bv z.key)[i]? = some u → V.cell? ((a.add (j * 34)).add i) = some u) := Lib.hid fun V hV i u hu => (hV.cell (by rw [addr_block, addr_block]; omega)).trans (hzc i u (role_key hu))
          obtain ⟨dd, hdd⟩ : ∃ d, d = decide (y.key = z.key) := ⟨_, rfl⟩
          have HEQ : Hid (∀ w, (binOp .eql 57 (.agg (bv y.key).toArray) (.agg (bv z.key).toArray)).run Tryd.prog w = .ok (.bool dd) w) := Lib.hid fun w => by rw [hdd]; exact key_eql hyo.1 hzo.1 w
          subst ea
          clear hab hab2 hy hz hyo hzo hyc hzc hdd ea2
          go_upto_region 7 with fail
          have SB := Lib.hid (show Below w.heap.size w wv.drew from BV.out.drew)
          refine wp_region_held_drew (S := fun V => Below w.heap.size w V) (by kernel_rfl) SB.out (fun _ => ?_)
          try dsimp only [List.append]
          clear BV
          generalize wv.drew = wd at *
          refine takeL (i := 0) (v := ?_) rfl (by kernel_rfl) (by kernel_rfl) (by kernel_rfl) (fun _ _ _ h => h) (Or.inl ⟨by rfl, ?_⟩) SB.out ?_
          rotate_left
          · intro w hw
            try dsimp only at hw
            go_simp
            try with_reducible rfl
          try simp only [Act.put, List.setIfInBounds_toArray, List.set_cons_zero, List.set_cons_succ]
          refine takeL (i := 1) (v := ?_) rfl (by kernel_rfl) (by kernel_rfl) (by kernel_rfl) (fun _ _ _ h => h) (Or.inl ⟨by rfl, ?_⟩) SB.out ?_
          rotate_left
          · intro w hw
            try dsimp only at hw
            go_simp
            try with_reducible rfl
          try simp only [Act.put, List.setIfInBounds_toArray, List.set_cons_zero, List.set_cons_succ]
          refine takeL (i := 2) (v := ?_) rfl (by kernel_rfl) (by kernel_rfl) (by kernel_rfl) (fun _ _ _ h => h) (Or.inl ⟨by rfl, ?_⟩) SB.out ?_
          rotate_left
          · intro w hw
            try dsimp only at hw
            go_simp
            try with_reducible rfl
          try simp only [Act.put, List.setIfInBounds_toArray, List.set_cons_zero, List.set_cons_succ]
          refine takeL (i := 3) (v := ?_) rfl (by kernel_rfl) (by kernel_rfl) (by kernel_rfl) (fun _ _ _ h => h) (Or.inl ⟨by rfl, ?_⟩) SB.out ?_
          rotate_left
          · intro w hw
            try dsimp only at hw
            go_simp
            try with_reducible rfl
          try simp only [Act.put, List.setIfInBounds_toArray, List.set_cons_zero, List.set_cons_succ]
          refine takeL (i := 4) (v := .agg (bv y.key).toArray) rfl (by kernel_rfl) (by kernel_rfl) (by kernel_rfl) (fun _ _ _ h => h) (Or.inl ⟨by rfl, fun wz hwz => exec_load_at wz 57 (.tmp 19) rfl (a.add (k * 34)) (bv y.key) _ Tryd.underlying57 rfl HSY.out (HCY.out wz hwz) (by go_simp)⟩) SB.out ?_
          try simp only [Act.put, List.setIfInBounds_toArray, List.set_cons_zero, List.set_cons_succ]
          refine takeL (i := 5) (v := ?_) rfl (by kernel_rfl) (by kernel_rfl) (by kernel_rfl) (fun _ _ _ h => h) (Or.inl ⟨by rfl, ?_⟩) SB.out ?_
          rotate_left
          · intro w hw
            try dsimp only at hw
            go_simp
            try with_reducible rfl
          try simp only [Act.put, List.setIfInBounds_toArray, List.set_cons_zero, List.set_cons_succ]
          refine takeL (i := 6) (v := ?_) rfl (by kernel_rfl) (by kernel_rfl) (by kernel_rfl) (fun _ _ _ h => h) (Or.inl ⟨by rfl, ?_⟩) SB.out ?_
          rotate_left
          · intro w hw
            try dsimp only at hw
            go_simp
            try with_reducible rfl
          try simp only [Act.put, List.setIfInBounds_toArray, List.set_cons_zero, List.set_cons_succ]
          refine takeL (i := 7) (v := ?_) rfl (by kernel_rfl) (by kernel_rfl) (by kernel_rfl) (fun _ _ _ h => h) (Or.inl ⟨by rfl, ?_⟩) SB.out ?_
          rotate_left
          · intro w hw
            try dsimp only at hw
            go_simp
            try with_reducible rfl
          try simp only [Act.put, List.setIfInBounds_toArray, List.set_cons_zero, List.set_cons_succ]
          refine takeL (i := 8) (v := ?_) rfl (by kernel_rfl) (by kernel_rfl) (by kernel_rfl) (fun _ _ _ h => h) (Or.inl ⟨by rfl, ?_⟩) SB.out ?_
          rotate_left
          · intro w hw
            try dsimp only at hw
            go_simp
            try with_reducible rfl
          try simp only [Act.put, List.setIfInBounds_toArray, List.set_cons_zero, List.set_cons_succ]
          refine takeL (i := 9) (v := .agg (bv z.key).toArray) rfl (by kernel_rfl) (by kernel_rfl) (by kernel_rfl) (fun _ _ _ h => h) (Or.inl ⟨by rfl, fun wz hwz => exec_load_at wz 57 (.tmp 24) rfl (a.add (j * 34)) (bv z.key) _ Tryd.underlying57 rfl HSZ.out (HCZ.out wz hwz) (by go_simp)⟩) SB.out ?_
          try simp only [Act.put, List.setIfInBounds_toArray, List.set_cons_zero, List.set_cons_succ]
          refine takeL (i := 10) (v := .bool dd) rfl (by kernel_rfl) (by kernel_rfl) (by kernel_rfl) (fun _ _ _ h => h) (Or.inl ⟨by rfl, fun wz hwz => exec_bin16 wz .eql 57 (.tmp 20) (.tmp 25) (by kernel_rfl) rfl (by go_simp) (by go_simp) (HEQ.out wz)⟩) SB.out ?_
          try simp only [Act.put, List.setIfInBounds_toArray, List.set_cons_zero, List.set_cons_succ]
          refine wpAnyH_done (by kernel_rfl) ?_ _
          cases dd with
          | true =>
            go_wp2_with fail
            go_ret
            exact ⟨⟨_, rfl⟩, SB.out⟩
          | false =>
            go_wp2_with fail
            go_roundw
            case rel => exact ⟨j + 1, by omega, by go_num, SB.out⟩
            case measure => simp [intOf]; omega
        · have hlj' : ¬ (j : Int) < k := by omega
          go_wp2_with fail
          go_roundw
          case rel => exact ⟨k + 1, by omega, by go_num, BV.out⟩
          case measure => simp [intOf]; omega
    · have hlt' : ¬ (k : Int) < n := by omega
      go_wp2_with fail
      go_ret
      exact ⟨⟨_, rfl⟩, BW.out⟩
end Go.Proofs.YtfaefpniiiandaaDoor

/-
  Of part Two15: what is needed here.
-/
namespace Go.Proofs.YtfaefpniiiandaaDoor
open Go.RowKit
set_option linter.unusedVariables false
set_option maxRecDepth 100000
/-- two lists of accounts, apart -/
structure Two15 (w : World) (base : Nat) (va vb : Value) (l1 l2 : List LAcc) : Prop where
  a : w.ownsRow base 59 34 va l1.length (accsC l1)
  b : w.ownsRow base 59 34 vb l2.length (accsC l2)
  ne : ∀ g, va.ownBlock = some g → vb.ownBlock ≠ some g
section
variable {w w' : World} {base : Nat} {va vb v' : Value} {l1 l2 : List LAcc} {y : LAcc}
theorem Two15.nil (w : World) (base : Nat) : Two15 w base (.slice none 0 0) (.slice none 0 0) [] [] := ⟨own_nilN _ _ _ _, own_nilN _ _ _ _, fun g h => by cases h⟩
theorem Two15.below (h : Two15 w base va vb l1 l2) (hb : Below w.heap.size w w') : Two15 w' base va vb l1 l2 := ⟨own_below h.a hb, own_below h.b hb, h.ne⟩
theorem Two15.swap (h : Two15 w base va vb l1 l2) : Two15 w base vb va l2 l1 := ⟨h.b, h.a, fun g h1 h2 => h.ne g h2 h1⟩
theorem Two15.grow (h : Two15 w base va vb l1 l2) (ho : w'.ownsRow base 59 34 v' (l1.length + 1) (accsC l1 ++ y.cells)) (hg : Grew w w' va v') : Two15 w' base v' vb (l1 ++ [y]) l2 := by
  refine ⟨?_, h.b.kept hg.grown ?_, fun g h1 h2 => ?_⟩
  · rw [accsC_snoc, List.length_append]
    exact ho
  · cases hb : vb.ownBlock with
    | none => exact .inl rfl
    | some g => exact .inr fun e => h.ne g e.symm hb
  · rcases hg.fresh g h1 with h3 | h3
    · exact h.ne g h3 h2
    · have := (h.b.lt g h2).2
      omega
theorem two_far15 {g : Nat} (h : Two15 w base va vb l1 l2) (hg : w.heap.size ≤ g) : some g ≠ va.ownBlock ∧ some g ≠ vb.ownBlock := ⟨fun e => by have := (h.a.lt g e.symm).2; omega, fun e => by have := (h.b.lt g e.symm).2; omega⟩
/-- one more onto the first -/
theorem wp_addA15 {o : Oper} {a : Act} {K : Act → World → Prop} {Q : Exit → Act → World → Prop} {g : Nat} (s x : Operand) (ho : o.op = .call { callee := .builtin .append, args := #[s, x], argTypes := #[49, 49] }) (h : Two15 w base va vb l1 l2) (hs : a.eval s = va) (hx : a.eval x = .slice (some ⟨g, 0, none⟩) 1 1) (hr : Row w g 59 y.cells) (hy : y.o.length = 32) (hn : l1.length ≤ 1000) (hb : base ≤ w.heap.size)
    (k : ∀ v' w', Two15 w' base v' vb (l1 ++ [y]) l2 → Below base w w' → (∀ g2 t ys, some g2 ≠ va.ownBlock → Row w g2 t ys → Row w' g2 t ys) → K (a.put o.dst v') w') : o.wp Tryd.prog a w K Q := by
  have hs1 := hr.sees0
  rw [acc_len hy] at hs1
  refine wp_appendN s x 49 59 _ 34 48 ho Tryd.underlying49 info_ac15 (by kernel_rfl) (by omega) va l1.length (accsC l1) base w.heap.size (some ⟨g, 0, none⟩) 1 1 y.cells hs h.a hx hs1 (acc_one _) (by unfold maxLen; omega) (by omega) hb ?_
  intro v' w' ho' hg
  exact k v' w' (h.grow ho' hg) (hg.below h.a hb) fun g2 t ys h1 h2 => hg.row h2 h1
theorem wp_addB15 {o : Oper} {a : Act} {K : Act → World → Prop} {Q : Exit → Act → World → Prop} {g : Nat} (s x : Operand) (ho : o.op = .call { callee := .builtin .append, args := #[s, x], argTypes := #[49, 49] }) (h : Two15 w base va vb l1 l2) (hs : a.eval s = vb) (hx : a.eval x = .slice (some ⟨g, 0, none⟩) 1 1) (hr : Row w g 59 y.cells) (hy : y.o.length = 32) (hn : l2.length ≤ 1000) (hb : base ≤ w.heap.size)
    (k : ∀ v' w', Two15 w' base va v' l1 (l2 ++ [y]) → Below base w w' → K (a.put o.dst v') w') : o.wp Tryd.prog a w K Q :=
  wp_addA15 s x ho h.swap hs hx hr hy hn hb fun v' w' h1 h2 _ => k v' w' h1.swap h2
theorem Two15.formA (h : Two15 w base va vb l1 l2) : ∃ A c, va = .slice A l1.length c ∧ l1.length ≤ c ∧ c ≤ maxLen := by
  obtain ⟨A, c, e, _, h1, h2, _⟩ := own_form2 h.a
  exact ⟨A, c, e, h1, h2⟩
end
theorem wp_val15 {o : Oper} {a : Act} {w : World} {K : Act → World → Prop} {Q : Exit → Act → World → Prop} {v : Value} (h : (execOp a.eval o).run Tryd.prog w = .ok (.value v) w) (hK : K (a.put o.dst v) w) : o.wp Tryd.prog a w K Q := by
  unfold Oper.wp
  rw [h]
  exact hK
theorem built_fee15 (f : Int) : Tryd.prog.built 59 [(0, .int .u64 f)] = some (LAcc.mk f key0 0).cells.toArray := by kernel_rfl
theorem infoU64_15 : ∃ i, Tryd.prog.info? 37 = some i := Option.isSome_iff_exists.1 (by kernel_rfl)
theorem cellsU64_15 : Tryd.prog.cellsOf 37 = 1 := by kernel_rfl
theorem plainU64_15 : Tryd.prog.plainKey 37 = true := by kernel_rfl
theorem two_eql15 (s : Int) (w : World) : (binOp .eql 65 (.agg (two15 s).toArray) (.agg (two15 s).toArray)).run Tryd.prog w = .ok (.bool true) w := by
  unfold two15
  generalize s / 18446744073709551616 = h
  generalize s % 18446744073709551616 = l
  obtain ⟨i, hi⟩ := infoU64_15
  have p0 := run_part_plain (P := Tryd.prog) w plainU64_15 (xs := #[.int .u64 h, .int .u64 l]) (off := 0) rfl
  have p1 := run_part_plain (P := Tryd.prog) w plainU64_15 (xs := #[.int .u64 h, .int .u64 l]) (off := 1) rfl
  rw [run_eql_struct, show (10000 : Nat) = 9999 + 1 from rfl, run_equalIn_array w 9999 _ _ Tryd.underlying65 hi, cellsU64_15, show List.range 2 = [0, 1] from rfl]
  simp [Op.eqItems, p0, p1, run_equalIn_int w 9998 37 .u64 .u64 _ _ Tryd.underlying37]
/-- what lies there while the law asks -/
structure CW15 (w V : World) (g2 : Nat) (q : YRaw) (x : LReady) : Prop where
  b : Below w.heap.size w V
  r2 : Row V g2 41 (q.cells x)
  rd : ReadyIn V w.heap.size q x
theorem CW15.below {w V V' : World} {g2 : Nat} {q : YRaw} {x : LReady} (h : CW15 w V g2 q x) (hb : Below V.heap.size V V') : CW15 w V' g2 q x := ⟨h.b.trans (hb.mono h.b.size), h.r2.below hb h.r2.lt, h.rd.below (hb.mono h.b.size)⟩
end Go.Proofs.YtfaefpniiiandaaDoor
