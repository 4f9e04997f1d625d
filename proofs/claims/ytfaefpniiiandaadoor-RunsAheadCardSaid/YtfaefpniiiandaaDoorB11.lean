/-
  Parts joined: Lives15 Great15 FailMath15 FailWalk15 Use15 AheadMath15 AheadMem15.
-/
import Derived.Below
import Derived.Laws.OwnMore
import Derived.Deep.AppendLies
import Derived.Deep.Draws
import Derived.Lib.Hide
import Derived.Laws.MakeOwn
import Derived.Laws.CopyOwn
import Derived.Laws.Rows
import Derived.Laws.BitsAllLaws
import Derived.WalkKit
import Derived.Test.YtfaefpniiiandaaDoorRows
import Derived.WalkSpells
import Derived.WalkLawsBesides
import Derived.IntWalk
import Derived.Deep.MidRow
import Derived.Deep.WholeRow
import Derived.Maps.AppendAt
import Derived.OwnWalk
import Derived.Great.BuildSlice
import Derived.Recover
import Derived.Deep.RegionHeld
import Derived.Deep.QuietTactic
import Derived.BigQuiet
import Derived.ChangeKeysEq
import Derived.Deep.RegionHeld2
import Derived.Deep.CutBlock
import Derived.Laws.Tables
import Derived.ProofKit
import Derived.OpenShut
import Derived.ShutString
import Derived.ChangeOld
import Derived.Lib.SmallJoins
import Derived.Deep.Slices
import Derived.Deep.Strs
import Derived.SizedLaws
import Derived.Laws.StructEq
import Derived.Laws.Slices
import Derived.Deep.DeepCutAuto
import Derived.Maps.OwnSet
import Derived.DeepKeys4
import Derived.WideKeyArr
import Derived.Laws.EntriesVeiled
import Derived.Deep.RegionHeld3
import Derived.WideKeyEntry
import Derived.WalkMore
import Derived.Shelf.SlMaps.Clone
import Derived.Laws.Append
import Derived.Laws.AppendOwn
import Derived.LaidMore
import Derived.Maps.OwnOps
import Derived.Maps.RangeWalk
import Derived.Laws.BytesArg
import Derived.Laws.Strings
import Derived.Lib.Strings
import Derived.Great.Walk
import Derived.Laws.Bits64b
import Derived.Laws.Externs
import Derived.LaidHandle
import Derived.LaidLaws
import Derived.LaidEql
import Derived.Stop.Asserts
import Derived.RowKitTokens
import Derived.Test.YtfaefpniiiandaaDoorB1
import Derived.Test.YtfaefpniiiandaaDoorB2
import Derived.Test.YtfaefpniiiandaaDoorB3
import Derived.Test.YtfaefpniiiandaaDoorB4
import Derived.Test.YtfaefpniiiandaaDoorB5
import Derived.Test.YtfaefpniiiandaaDoorB6
import Derived.Test.YtfaefpniiiandaaDoorB7
import Derived.Test.YtfaefpniiiandaaDoorB8
import Derived.Test.YtfaefpniiiandaaDoorB9
import Derived.Test.YtfaefpniiiandaaDoorB10
/-
  Of part Lives15: what is needed here.
-/
namespace Go.Proofs.YtfaefpniiiandaaDoor
open Go.RowKit
set_option linter.unusedVariables false
set_option maxRecDepth 100000
def ac15x (c : Int) : LAcc := ⟨c, k0, 0⟩
theorem ac_ok15x {c : Int} (h : 0 ≤ c ∧ c < 18446744073709551616) : AccOk (ac15x c) := ⟨h, k0_key15, by show (0 : Int) ≤ 0 ∧ (0 : Int) < 18446744073709551616; decide⟩
theorem built_ac15 (c : Int) : Tryd.prog.built 59 [(0, .int .u64 c)] = some (ac15x c).cells.toArray := by kernel_rfl
def st15x : List LHold := [⟨kx15 8, ac15x 20000⟩]
def l15x : List LAcc := [ac15x 15000, blank13, blank13]
def h15a : LHold := ⟨kx15 8, ac15x 14800⟩
def h15b : LHold := ⟨kx15 9, ac15x 200⟩
def o15x : LOut := ⟨0, -1, 150, 5000, 0, [h15a, h15b]⟩
theorem put15x : putH [] (kx15 8) (ac15x 20000) = st15x := by kernel_rfl
theorem pay15x : pay15 st15x rd15x = true := by kernel_rfl
theorem load15x : load15 st15x rd15x = l15x := by kernel_rfl
theorem run15x : run15 rd15x l15x = (o15x, 0) := by kernel_rfl
theorem hold_eql15 {x y : LHold} (hkx : x.k.length = 32) (hky : y.k.length = 32) (hx : x.a.o.length = 32) (hy : y.a.o.length = 32) (w : World) : (binOp .eql 64 (.agg x.cells.toArray) (.agg y.cells.toArray)).run Tryd.prog w = .ok (.bool (decide (x = y))) w := by
  rw [run_eql_struct, hold_eq0 hkx hky hx hy w _ rfl]
  rfl
theorem built_h15a : Tryd.prog.built 64 [(0, .agg (bv (kx15 8)).toArray), (1, .agg (ac15x 14800).cells.toArray)] = some h15a.cells.toArray := built_hold15 rfl rfl
theorem built_h15b : Tryd.prog.built 64 [(0, .agg (bv (kx15 9)).toArray), (1, .agg (ac15x 200).cells.toArray)] = some h15b.cells.toArray := built_hold15 rfl rfl
/-- what is there on the way -/
structure LX15 (w V : World) (g1 g2 : Nat) : Prop where
  b : Below w.heap.size w V
  r1 : Row V g1 57 (bv (kx15 8))
  r2 : Row V g2 57 (bv (kx15 9))
  lo : w.heap.size ≤ g1 ∧ w.heap.size ≤ g2
theorem LX15.below {w V V' : World} {g1 g2 : Nat} (m : LX15 w V g1 g2) (hb : Below V.heap.size V V') : LX15 w V' g1 g2 := ⟨m.b.trans (hb.mono m.b.size), m.r1.below hb m.r1.lt, m.r2.below hb m.r2.lt, m.lo⟩
theorem grown_below15 {w V V' : World} {mb : Nat} (hg : V.grownBy V' (some mb)) (hb : Below w.heap.size w V) (hm : w.heap.size ≤ mb) : Below w.heap.size w V' := hb.grown hg hb.size (fun k hk => by cases hk; exact hm)
theorem LX15.grown {w V V' : World} {g1 g2 mb : Nat} (m : LX15 w V g1 g2) (hg : V.grownBy V' (some mb)) (hm : w.heap.size ≤ mb) (h1 : g1 ≠ mb) (h2 : g2 ≠ mb) : LX15 w V' g1 g2 :=
  ⟨grown_below15 hg m.b hm, m.r1.grown hg (fun e => h1 (by injection e)), m.r2.grown hg (fun e => h2 (by injection e)), m.lo⟩
/-- the outcome's holdings, where they lie -/
theorem chg_at15 {w : World} {base c : Nat} {A : Option Addr} {L : List LHold} (h : w.ownsRow base 64 66 (.slice A L.length c) L.length (holC L)) (ho : ∀ x ∈ L, x.cells.length = 66) {k : Nat} {x : LHold} (hk : L[k]? = some x) : ∃ a, A = some a ∧ a.block < w.heap.size ∧ ∀ j u, x.cells[j]? = some u → w.cell? ((a.add (k * 66)).add j) = some u := by
  obtain ⟨A', c', e, h2, _⟩ := own_form2 h
  injection e with e _ _
  subst e
  have hcs : CsIn 66 w w.heap.size A L.length (L.map LHold.cells) := ⟨by rw [List.length_map], fun k hk => by obtain ⟨y, hy, rfl⟩ := List.mem_map.1 hk; exact ho y hy, h2⟩
  obtain ⟨a, y, e, hb, hy, _, hc⟩ := hcs.get (k := k) (List.getElem?_eq_some_iff.1 hk).1 (by omega)
  rw [List.getElem?_map, hk] at hy
  injection hy with hy
  subst hy
  exact ⟨a, e, hb, hc⟩
theorem acc_in15 {w : World} {base g cap n : Nat} {rest : List Value} {out : List LAcc} (h : OutAt w base g cap n rest out) : AccsIn w w.heap.size (some ⟨g, 0, none⟩) n out := h.done.accs h.len.symm
set_option maxHeartbeats 16000000 in
theorem lives15 (w : World) (htw : TypAt w) : Calls Tryd.prog 10 #[] w fun e w' => e = .returned (.bool true) ∧ Below w.heap.size w w' := by
  have HT := Lib.hid htw
  have HA := Lib.hid built_ac15
  have HKN := Lib.hid built_kx8
  have HKM := Lib.hid built_kx9
  have HNB : Hid (∀ w, (binOp .neq 59 (.agg blank13.cells.toArray) (.agg blank13.cells.toArray)).run Tryd.prog w = .ok (.bool false) w) := Lib.hid fun w => by rw [acc_neq rfl rfl, decide_eq_true rfl]; rfl
  have HEA : Hid (∀ w, (binOp .eql 64 (.agg h15a.cells.toArray) (.agg h15a.cells.toArray)).run Tryd.prog w = .ok (.bool true) w) := Lib.hid fun w => by rw [hold_eql15 rfl rfl rfl rfl, decide_eq_true rfl]
  have HEB : Hid (∀ w, (binOp .eql 64 (.agg h15b.cells.toArray) (.agg h15b.cells.toArray)).run Tryd.prog w = .ok (.bool true) w) := Lib.hid fun w => by rw [hold_eql15 rfl rfl rfl rfl, decide_eq_true rfl]
  have HPAY := Lib.hid pay15x
  have HLOD := Lib.hid load15x
  have HRUN := Lib.hid run15x
  have HPUT := Lib.hid put15x
  clear htw
  go_enter Tryd.func10, Tryd.ntmps10
  go_upto_region 2 with (first
    | ((with_reducible show wpList _ _ _ ({ dst := some 9, op := Op.build _ _, type := _, pos := _, after := _, guard := _ } :: _) _ _); go_must (refine wpList_plain rfl fun K hK => wp_built _ _ _ rfl (by simp only [List.map_toArray, List.map_cons, List.map_nil]; exact HKN.out) (hK _ _ ?_)))
    | ((with_reducible show wpList _ _ _ ({ dst := none, op := Op.store 57 _ _, type := _, pos := _, after := _, guard := _ } :: _) _ _); go_must (refine wpList_store_new rfl 57 (.tmp 1) (.tmp 9) rfl (bv (kx15 8)) (by kernel_rfl) (bv_one _) rfl ?_ ?_ ?_; go_simp; go_simp; intro w1 hr1 hb1 hz1)))
  have R1 := Lib.hid hr1
  have B1 := Lib.hid hb1
  obtain ⟨g1, hg1⟩ : ∃ g, g = w.heap.size := ⟨_, rfl⟩
  rw [← hg1] at R1 ⊢
  have HG1 : Hid (w.heap.size ≤ g1) := Lib.hid (by omega)
  clear hr1 hb1 hz1 hg1
  go_upto_region 3 with (first
    | ((with_reducible show wpList _ _ _ ({ dst := some 10, op := Op.build _ _, type := _, pos := _, after := _, guard := _ } :: _) _ _); go_must (refine wpList_plain rfl fun K hK => wp_built _ _ _ rfl (by simp only [List.map_toArray, List.map_cons, List.map_nil]; exact HKM.out) (hK _ _ ?_)))
    | ((with_reducible show wpList _ _ _ ({ dst := none, op := Op.store 57 _ _, type := _, pos := _, after := _, guard := _ } :: _) _ _); go_must (refine wpList_store_new rfl 57 (.tmp 2) (.tmp 10) rfl (bv (kx15 9)) (by kernel_rfl) (bv_one _) rfl ?_ ?_ ?_; go_simp; go_simp; intro w2 hr2 hb2 hz2)))
  have R2 := Lib.hid hr2
  have HX0 : Hid (Below w1.heap.size w1 w2) := Lib.hid hb2
  obtain ⟨g2, hg2⟩ : ∃ g, g = w1.heap.size := ⟨_, rfl⟩
  rw [← hg2] at R2 ⊢
  have X2 : Hid (LX15 w w2 g1 g2) := Lib.hid ⟨B1.out.trans (HX0.out.mono B1.out.size), R1.out.below HX0.out R1.out.lt, R2.out, HG1.out, by rw [hg2]; exact B1.out.size⟩
  clear hr2 hb2 hz2 hg2 HX0 R1 R2 B1 HG1
  go_wp2_with fail
  refine (new13 w2).mono ?_
  rintro e w3 ⟨sb, mb, rfl, hst, hsl, hml, hb3⟩
  have X3 := Lib.hid (X2.out.below hb3)
  have HML : Hid (w.heap.size ≤ mb ∧ g1 ≠ mb ∧ g2 ≠ mb) := Lib.hid (by have h1 := X2.out.r1.lt; have h2 := X2.out.r2.lt; have h3 := X2.out.b.size; omega)
  have S3 := Lib.hid hst
  clear hst hsl hml hb3 X2
  go_wp2_with (first
    | ((with_reducible show wpList _ _ _ ({ dst := some 13, op := Op.load _ _, type := _, pos := _, after := _, guard := _ } :: _) _ _); go_must (refine wpList_load_whole rfl 57 (.tmp 1) rfl g1 _ (bv (kx15 8)) _ Tryd.underlying57 rfl (by kernel_rfl) X3.out.r1 ?_ ?_; go_simp))
    | ((with_reducible show wpList _ _ _ ({ dst := some 14, op := Op.build _ _, type := _, pos := _, after := _, guard := _ } :: _) _ _); go_must (refine wpList_plain rfl fun K hK => wp_built _ _ _ rfl (by simp only [List.map_toArray, List.map_cons, List.map_nil]; exact HA.out 20000) (hK _ _ ?_)))
    | fail)
  refine (put13 sb mb [] (kx15 8) (ac15x 20000) w3 S3.out (kx_ok15 (by omega)) (ac_ok15x (by omega)) (by simp)).mono ?_
  rintro e w4 ⟨rfl, hst, hg4⟩
  rw [HPUT.out] at hst
  have S4 := Lib.hid hst
  have X4 := Lib.hid (X3.out.grown hg4 HML.out.1 HML.out.2.1 HML.out.2.2)
  clear hst hg4 X3 S3 HML HPUT
  go_wp2_with (first
    | ((with_reducible show wpList _ _ _ ({ dst := some 16, op := Op.load _ _, type := _, pos := _, after := _, guard := _ } :: _) _ _); go_must (refine wpList_load_whole rfl 57 (.tmp 1) rfl g1 _ (bv (kx15 8)) _ Tryd.underlying57 rfl (by kernel_rfl) X4.out.r1 ?_ ?_; go_simp))
    | ((with_reducible show wpList _ _ _ ({ dst := some 17, op := Op.load _ _, type := _, pos := _, after := _, guard := _ } :: _) _ _); go_must (refine wpList_load_whole rfl 57 (.tmp 2) rfl g2 _ (bv (kx15 9)) _ Tryd.underlying57 rfl (by kernel_rfl) X4.out.r2 ?_ ?_; go_simp))
    | fail)
  refine (move15 w4).mono ?_
  rintro e w5 ⟨gi, gr, rfl, hrd, hb5⟩
  have RD5 := Lib.hid hrd
  have X5 := Lib.hid (X4.out.below hb5)
  have S5 := Lib.hid (S4.out.below hb5)
  clear hrd hb5 X4 S4
  go_upto_region 6 with (first
    | ((with_reducible show wpList _ _ _ ({ dst := some 4, op := Op.alloc _, type := _, pos := _, after := _, guard := _ } :: _) _ _); go_must (refine wpList_alloc_zero rfl 41 rfl zrdC zero_rdx ?_))
    | ((with_reducible show wpList _ _ _ ({ dst := none, op := Op.store 41 _ _, type := _, pos := _, after := _, guard := _ } :: _) _ _); go_must (refine wpList_store_new rfl 41 (.tmp 4) (.tmp 18) rfl ((q15x gi gr).cells rd15x) (size_rdx _ _) (one_rdx _ _) rfl ?_ ?_ ?_; go_simp; go_simp; intro w6 hr6 hb6 hz6)))
  have R6 := Lib.hid hr6
  have X6 := Lib.hid (X5.out.below hb6)
  have S6 := Lib.hid (S5.out.below hb6)
  have RD6 := Lib.hid ((RD5.out.below hb6).more hb6.size)
  obtain ⟨g4, hg4⟩ : ∃ g, g = w5.heap.size := ⟨_, rfl⟩
  rw [← hg4] at R6 ⊢
  clear hr6 hb6 hz6 hg4 X5 S5 RD5
  go_wp2_with (first
    | ((with_reducible show wpList _ _ _ ({ dst := some 21, op := Op.load _ _, type := _, pos := _, after := _, guard := _ } :: _) _ _); go_must (refine wpList_load_whole rfl 41 (.tmp 4) rfl g4 _ ((q15x gi gr).cells rd15x) _ Tryd.underlying41 rfl (by kernel_rfl) R6.out ?_ ?_; go_simp))
    | fail)
  refine (loadC sb mb st15x (q15x gi gr) rd15x w6.heap.size w6 S6.out RD6.out (Nat.le_refl _) (by simp [q15x]) (fun r hr => (ro_ok15x r hr).2) (by decide)).mono ?_
  rintro e w7 ⟨hb7, hcs⟩
  rw [HPAY.out, HLOD.out] at hcs
  rcases hcs with ⟨h, _⟩ | ⟨_, gl, cap, rest, rfl, hol⟩
  · cases h
  have X7 := Lib.hid (X6.out.below hb7)
  have R7 := Lib.hid (R6.out.below hb7 R6.out.lt)
  have RD7 := Lib.hid (RD6.out.below hb7)
  have OL := Lib.hid hol
  have HL67 := Lib.hid hb7.size
  clear hol hb7 X6 R6 S6 RD6 HPAY HLOD
  have a0 : w7.cell? ⟨gl, 0, none⟩ = some (.int .u64 15000) := by have := OL.out.cell (k := 0) (by decide) (j := 0) (u := .int .u64 15000) rfl; simpa using this
  have HA1 : Hid (∀ j u, blank13.cells[j]? = some u → w7.cell? ⟨gl, 34 + j, none⟩ = some u) := Lib.hid fun j u hu => by have := OL.out.cell (k := 1) (by decide) (j := j) (u := u) hu; simpa using this
  have hnb := HNB.out
  have h3 : rd15x.roles.length = 3 := rfl
  rw [h3]
  go_upto_region 9 with (first
    | ((with_reducible show wpList _ _ _ ({ dst := some 42, op := Op.load _ _, type := _, pos := _, after := _, guard := _ } :: _) _ _); go_must (refine wpList_load_atg (by kernel_rfl) 59 (.tmp 41) rfl ⟨gl, 34, none⟩ blank13.cells _ Tryd.underlying59 rfl (by kernel_rfl) (fun j v hv => by rw [addr_row]; exact HA1.out j v hv) ?_ ?_; go_simp))
    | ((with_reducible show wpList _ _ _ ({ dst := some 43, op := Op.build _ _, type := _, pos := _, after := _, guard := _ } :: _) _ _); go_must (refine BigFrame.wpList_want (by kernel_rfl) fun K hK => wp_built _ _ _ rfl (by simp only [List.map_toArray, List.map_nil]; exact built_blank) (hK _ _ ?_))))
  clear a0 hnb HA1 h3
  have HRC := Lib.hid (runC (q15x gi gr) rd15x w7.heap.size (some ⟨gl, 0, none⟩) 3 3 l15x w7 (RD7.out.more HL67.out) (acc_in15 OL.out) ⟨Nat.le_refl _, by unfold maxLen; omega⟩ (Nat.le_refl _) (by omega) (fun a ha => by obtain rfl := List.mem_singleton.1 ha; exact ⟨by decide, by decide⟩) (fun a ha => by obtain rfl := List.mem_singleton.1 ha; exact ⟨acc_ok15x, dat_ok15x⟩) (by decide) ⟨by simp [q15x], fun a ha => by obtain rfl := List.mem_singleton.1 ha; decide⟩ (HT.out.below X7.out.b HT.out.pos))
  rw [HRUN.out] at HRC
  clear HRUN OL RD7 HL67
  go_wp2_with (first
    | ((with_reducible show wpList _ _ _ ({ dst := some 47, op := Op.load _ _, type := _, pos := _, after := _, guard := _ } :: _) _ _); go_must (refine wpList_load_whole rfl 41 (.tmp 4) rfl g4 _ ((q15x gi gr).cells rd15x) _ Tryd.underlying41 rfl (by kernel_rfl) R7.out ?_ ?_; go_simp))
    | fail)
  refine HRC.out.mono ?_
  rintro e w8 ⟨A8, c8, rfl, ho8, hb8⟩
  have X8 := Lib.hid (X7.out.below hb8)
  have HO8 := Lib.hid ho8
  clear ho8 hb8 X7 R7 HRC
  go_upto_region 10 with (first
    | ((with_reducible show wpList _ _ _ ({ dst := some 7, op := Op.alloc _, type := _, pos := _, after := _, guard := _ } :: _) _ _); go_must (refine wpList_alloc_zero rfl 54 rfl (out0.cells (.slice none 0 0)) zero_out15 ?_))
    | ((with_reducible show wpList _ _ _ ({ dst := none, op := Op.store 54 _ _, type := _, pos := _, after := _, guard := _ } :: _) _ _); go_must (refine wpList_store_new rfl 54 (.tmp 7) (.tmp 50) rfl (o15x.cells (.slice A8 o15x.ch.length o15x.ch.length)) (size_out15 _ _) (out_one15 _ rfl) rfl ?_ ?_ ?_; go_simp; go_simp; intro w9 hr9 hb9 hz9)))
  have R9 := Lib.hid hr9
  have X9 := Lib.hid (X8.out.below hb9)
  have HO9 := Lib.hid (own_below HO8.out hb9)
  obtain ⟨g7, hg7⟩ : ∃ g, g = w8.heap.size := ⟨_, rfl⟩
  rw [← hg7] at R9 ⊢
  clear hr9 hb9 hz9 hg7 X8 HO8
  obtain ⟨a8, rfl, hab, hac⟩ := chg_at15 HO9.out (fun x hx => by simp only [o15x, List.mem_cons, List.not_mem_nil, or_false] at hx; rcases hx with rfl | rfl <;> rfl) (k := 0) (x := h15a) rfl
  obtain ⟨a8', e8, _, hbc⟩ := chg_at15 HO9.out (fun x hx => by simp only [o15x, List.mem_cons, List.not_mem_nil, or_false] at hx; rcases hx with rfl | rfl <;> rfl) (k := 1) (x := h15b) rfl
  obtain rfl : a8 = a8' := by injection e8
  have HAB := Lib.hid hab
  have HAC := Lib.hid hac
  have HBC := Lib.hid hbc
  have HOL2 : Hid (o15x.ch.length = 2) := Lib.hid rfl
  clear hab hac hbc e8 HO9
  have SF := Lib.hid (show Below w9.heap.size w9 w9.drew from (Below.refl w9.heap.size w9).drew)
  refine wp_region_held_drew (S := fun V => Below w9.heap.size w9 V) (by kernel_rfl) SF.out (fun _ => ?_)
  try dsimp only [List.append]
  generalize w9.drew = wd at *
  refine takeL (i := 0) (v := ?_) rfl (by kernel_rfl) (by kernel_rfl) (by kernel_rfl) (fun _ _ _ h => h) (Or.inl ⟨by rfl, ?_⟩) SF.out ?_
  rotate_left
  · intro w hw
    try dsimp only at hw
    go_simp
    try with_reducible rfl
  try simp only [Act.put, List.setIfInBounds_toArray, List.set_cons_zero, List.set_cons_succ]
  refine takeL (i := 1) (v := ?_) rfl (by kernel_rfl) (by kernel_rfl) (by kernel_rfl) (fun _ _ _ h => h) (Or.inl ⟨by rfl, ?_⟩) SF.out ?_
  rotate_left
  · intro w hw
    try dsimp only at hw
    go_simp
    try with_reducible rfl
  try simp only [Act.put, List.setIfInBounds_toArray, List.set_cons_zero, List.set_cons_succ]
  refine takeL (i := 2) (v := ?_) rfl (by kernel_rfl) (by kernel_rfl) (by kernel_rfl) (fun _ _ _ h => h) (Or.inl ⟨by rfl, ?_⟩) SF.out ?_
  rotate_left
  · intro w hw
    try dsimp only at hw
    go_simp
    try with_reducible rfl
  try simp only [Act.put, List.setIfInBounds_toArray, List.set_cons_zero, List.set_cons_succ]
  refine takeL (i := 3) (v := ?_) rfl (by kernel_rfl) (by kernel_rfl) (by kernel_rfl) (fun _ _ _ h => h) (Or.inl ⟨by rfl, ?_⟩) SF.out ?_
  rotate_left
  · intro w hw
    try dsimp only at hw
    go_simp
    try with_reducible rfl
  try simp only [Act.put, List.setIfInBounds_toArray, List.set_cons_zero, List.set_cons_succ]
  refine takeL (i := 4) (v := ?_) rfl (by kernel_rfl) (by kernel_rfl) (by kernel_rfl) (fun _ _ _ h => h) (Or.inl ⟨by rfl, ?_⟩) SF.out ?_
  rotate_left
  · intro w hw
    try dsimp only at hw
    have oc : w.cell? ⟨g7, 0, none⟩ = some (.int .i64 0) := (hw.cell (p := ⟨g7, 0, none⟩) R9.out.lt).trans (R9.out.cell 0)
    go_simp
    try with_reducible rfl
  try simp only [Act.put, List.setIfInBounds_toArray, List.set_cons_zero, List.set_cons_succ]
  refine takeL (i := 5) (v := ?_) rfl (by kernel_rfl) (by kernel_rfl) (by kernel_rfl) (fun _ _ _ h => h) (Or.inl ⟨by rfl, ?_⟩) SF.out ?_
  rotate_left
  · intro w hw
    try dsimp only at hw
    go_simp
    try with_reducible rfl
  try simp only [Act.put, List.setIfInBounds_toArray, List.set_cons_zero, List.set_cons_succ]
  refine takeL (i := 6) (v := ?_) rfl (by kernel_rfl) (by kernel_rfl) (by kernel_rfl) (fun _ _ _ h => h) (Or.inl ⟨by rfl, ?_⟩) SF.out ?_
  rotate_left
  · intro w hw
    try dsimp only at hw
    go_simp
    try with_reducible rfl
  try simp only [Act.put, List.setIfInBounds_toArray, List.set_cons_zero, List.set_cons_succ]
  refine takeL (i := 7) (v := ?_) rfl (by kernel_rfl) (by kernel_rfl) (by kernel_rfl) (fun _ _ _ h => h) (Or.inl ⟨by rfl, ?_⟩) SF.out ?_
  rotate_left
  · intro w hw
    try dsimp only at hw
    go_simp
    try with_reducible rfl
  try simp only [Act.put, List.setIfInBounds_toArray, List.set_cons_zero, List.set_cons_succ]
  refine takeL (i := 8) (v := ?_) rfl (by kernel_rfl) (by kernel_rfl) (by kernel_rfl) (fun _ _ _ h => h) (Or.inl ⟨by rfl, ?_⟩) SF.out ?_
  rotate_left
  · intro w hw
    try dsimp only at hw
    go_simp
    try with_reducible rfl
  try simp only [Act.put, List.setIfInBounds_toArray, List.set_cons_zero, List.set_cons_succ]
  refine takeL (i := 9) (v := ?_) rfl (by kernel_rfl) (by kernel_rfl) (by kernel_rfl) (fun _ _ _ h => h) (Or.inl ⟨by rfl, ?_⟩) SF.out ?_
  rotate_left
  · intro w hw
    try dsimp only at hw
    have oc : w.cell? ⟨g7, 1, none⟩ = some (.int .i64 (-1)) := (hw.cell (p := ⟨g7, 1, none⟩) R9.out.lt).trans (R9.out.cell 1)
    go_simp
    try with_reducible rfl
  try simp only [Act.put, List.setIfInBounds_toArray, List.set_cons_zero, List.set_cons_succ]
  refine takeL (i := 10) (v := ?_) rfl (by kernel_rfl) (by kernel_rfl) (by kernel_rfl) (fun _ _ _ h => h) (Or.inl ⟨by rfl, ?_⟩) SF.out ?_
  rotate_left
  · intro w hw
    try dsimp only at hw
    go_simp
    try with_reducible rfl
  try simp only [Act.put, List.setIfInBounds_toArray, List.set_cons_zero, List.set_cons_succ]
  refine takeL (i := 11) (v := ?_) rfl (by kernel_rfl) (by kernel_rfl) (by kernel_rfl) (fun _ _ _ h => h) (Or.inl ⟨by rfl, ?_⟩) SF.out ?_
  rotate_left
  · intro w hw
    try dsimp only at hw
    go_simp
    try with_reducible rfl
  try simp only [Act.put, List.setIfInBounds_toArray, List.set_cons_zero, List.set_cons_succ]
  refine takeL (i := 12) (v := ?_) rfl (by kernel_rfl) (by kernel_rfl) (by kernel_rfl) (fun _ _ _ h => h) (Or.inl ⟨by rfl, ?_⟩) SF.out ?_
  rotate_left
  · intro w hw
    try dsimp only at hw
    go_simp
    try with_reducible rfl
  try simp only [Act.put, List.setIfInBounds_toArray, List.set_cons_zero, List.set_cons_succ]
  refine takeL (i := 13) (v := ?_) rfl (by kernel_rfl) (by kernel_rfl) (by kernel_rfl) (fun _ _ _ h => h) (Or.inl ⟨by rfl, ?_⟩) SF.out ?_
  rotate_left
  · intro w hw
    try dsimp only at hw
    go_simp
    try with_reducible rfl
  try simp only [Act.put, List.setIfInBounds_toArray, List.set_cons_zero, List.set_cons_succ]
  refine takeL (i := 14) (v := ?_) rfl (by kernel_rfl) (by kernel_rfl) (by kernel_rfl) (fun _ _ _ h => h) (Or.inl ⟨by rfl, ?_⟩) SF.out ?_
  rotate_left
  · intro w hw
    try dsimp only at hw
    have oc : w.cell? ⟨g7, 2, none⟩ = some (.int .u64 150) := (hw.cell (p := ⟨g7, 2, none⟩) R9.out.lt).trans (R9.out.cell 2)
    go_simp
    try with_reducible rfl
  try simp only [Act.put, List.setIfInBounds_toArray, List.set_cons_zero, List.set_cons_succ]
  refine takeL (i := 15) (v := ?_) rfl (by kernel_rfl) (by kernel_rfl) (by kernel_rfl) (fun _ _ _ h => h) (Or.inl ⟨by rfl, ?_⟩) SF.out ?_
  rotate_left
  · intro w hw
    try dsimp only at hw
    go_simp
    try with_reducible rfl
  try simp only [Act.put, List.setIfInBounds_toArray, List.set_cons_zero, List.set_cons_succ]
  refine takeL (i := 16) (v := ?_) rfl (by kernel_rfl) (by kernel_rfl) (by kernel_rfl) (fun _ _ _ h => h) (Or.inl ⟨by rfl, ?_⟩) SF.out ?_
  rotate_left
  · intro w hw
    try dsimp only at hw
    go_simp
    try with_reducible rfl
  try simp only [Act.put, List.setIfInBounds_toArray, List.set_cons_zero, List.set_cons_succ]
  refine takeL (i := 17) (v := ?_) rfl (by kernel_rfl) (by kernel_rfl) (by kernel_rfl) (fun _ _ _ h => h) (Or.inl ⟨by rfl, ?_⟩) SF.out ?_
  rotate_left
  · intro w hw
    try dsimp only at hw
    go_simp
    try with_reducible rfl
  try simp only [Act.put, List.setIfInBounds_toArray, List.set_cons_zero, List.set_cons_succ]
  refine takeL (i := 18) (v := ?_) rfl (by kernel_rfl) (by kernel_rfl) (by kernel_rfl) (fun _ _ _ h => h) (Or.inl ⟨by rfl, ?_⟩) SF.out ?_
  rotate_left
  · intro w hw
    try dsimp only at hw
    go_simp
    try with_reducible rfl
  try simp only [Act.put, List.setIfInBounds_toArray, List.set_cons_zero, List.set_cons_succ]
  refine takeL (i := 19) (v := ?_) rfl (by kernel_rfl) (by kernel_rfl) (by kernel_rfl) (fun _ _ _ h => h) (Or.inl ⟨by rfl, ?_⟩) SF.out ?_
  rotate_left
  · intro w hw
    try dsimp only at hw
    have oc : w.cell? ⟨g7, 3, none⟩ = some (.int .u64 5000) := (hw.cell (p := ⟨g7, 3, none⟩) R9.out.lt).trans (R9.out.cell 3)
    go_simp
    try with_reducible rfl
  try simp only [Act.put, List.setIfInBounds_toArray, List.set_cons_zero, List.set_cons_succ]
  refine takeL (i := 20) (v := ?_) rfl (by kernel_rfl) (by kernel_rfl) (by kernel_rfl) (fun _ _ _ h => h) (Or.inl ⟨by rfl, ?_⟩) SF.out ?_
  rotate_left
  · intro w hw
    try dsimp only at hw
    go_simp
    try with_reducible rfl
  try simp only [Act.put, List.setIfInBounds_toArray, List.set_cons_zero, List.set_cons_succ]
  refine takeL (i := 21) (v := ?_) rfl (by kernel_rfl) (by kernel_rfl) (by kernel_rfl) (fun _ _ _ h => h) (Or.inl ⟨by rfl, ?_⟩) SF.out ?_
  rotate_left
  · intro w hw
    try dsimp only at hw
    go_simp
    try with_reducible rfl
  try simp only [Act.put, List.setIfInBounds_toArray, List.set_cons_zero, List.set_cons_succ]
  refine takeL (i := 22) (v := ?_) rfl (by kernel_rfl) (by kernel_rfl) (by kernel_rfl) (fun _ _ _ h => h) (Or.inl ⟨by rfl, ?_⟩) SF.out ?_
  rotate_left
  · intro w hw
    try dsimp only at hw
    go_simp
    try with_reducible rfl
  try simp only [Act.put, List.setIfInBounds_toArray, List.set_cons_zero, List.set_cons_succ]
  refine takeL (i := 23) (v := ?_) rfl (by kernel_rfl) (by kernel_rfl) (by kernel_rfl) (fun _ _ _ h => h) (Or.inl ⟨by rfl, ?_⟩) SF.out ?_
  rotate_left
  · intro w hw
    try dsimp only at hw
    go_simp
    try with_reducible rfl
  try simp only [Act.put, List.setIfInBounds_toArray, List.set_cons_zero, List.set_cons_succ]
  refine takeL (i := 24) (v := ?_) rfl (by kernel_rfl) (by kernel_rfl) (by kernel_rfl) (fun _ _ _ h => h) (Or.inl ⟨by rfl, ?_⟩) SF.out ?_
  rotate_left
  · intro w hw
    try dsimp only at hw
    have oc : w.cell? ⟨g7, 4, none⟩ = some (.int .u64 0) := (hw.cell (p := ⟨g7, 4, none⟩) R9.out.lt).trans (R9.out.cell 4)
    go_simp
    try with_reducible rfl
  try simp only [Act.put, List.setIfInBounds_toArray, List.set_cons_zero, List.set_cons_succ]
  refine takeL (i := 25) (v := ?_) rfl (by kernel_rfl) (by kernel_rfl) (by kernel_rfl) (fun _ _ _ h => h) (Or.inl ⟨by rfl, ?_⟩) SF.out ?_
  rotate_left
  · intro w hw
    try dsimp only at hw
    go_simp
    try with_reducible rfl
  try simp only [Act.put, List.setIfInBounds_toArray, List.set_cons_zero, List.set_cons_succ]
  refine takeL (i := 26) (v := ?_) rfl (by kernel_rfl) (by kernel_rfl) (by kernel_rfl) (fun _ _ _ h => h) (Or.inl ⟨by rfl, ?_⟩) SF.out ?_
  rotate_left
  · intro w hw
    try dsimp only at hw
    go_simp
    try with_reducible rfl
  try simp only [Act.put, List.setIfInBounds_toArray, List.set_cons_zero, List.set_cons_succ]
  refine takeL (i := 27) (v := ?_) rfl (by kernel_rfl) (by kernel_rfl) (by kernel_rfl) (fun _ _ _ h => h) (Or.inl ⟨by rfl, ?_⟩) SF.out ?_
  rotate_left
  · intro w hw
    try dsimp only at hw
    go_simp
    try with_reducible rfl
  try simp only [Act.put, List.setIfInBounds_toArray, List.set_cons_zero, List.set_cons_succ]
  refine takeL (i := 28) (v := ?_) rfl (by kernel_rfl) (by kernel_rfl) (by kernel_rfl) (fun _ _ _ h => h) (Or.inl ⟨by rfl, ?_⟩) SF.out ?_
  rotate_left
  · intro w hw
    try dsimp only at hw
    go_simp
    try with_reducible rfl
  try simp only [Act.put, List.setIfInBounds_toArray, List.set_cons_zero, List.set_cons_succ]
  refine takeL (i := 29) (v := ?_) rfl (by kernel_rfl) (by kernel_rfl) (by kernel_rfl) (fun _ _ _ h => h) (Or.inl ⟨by rfl, ?_⟩) SF.out ?_
  rotate_left
  · intro w hw
    try dsimp only at hw
    have oc : w.cell? ⟨g7, 5, none⟩ = some (.slice (some a8) 2 2) := (hw.cell (p := ⟨g7, 5, none⟩) R9.out.lt).trans (R9.out.cell 5)
    go_simp
    try with_reducible rfl
  try simp only [Act.put, List.setIfInBounds_toArray, List.set_cons_zero, List.set_cons_succ]
  refine takeL (i := 30) (v := ?_) rfl (by kernel_rfl) (by kernel_rfl) (by kernel_rfl) (fun _ _ _ h => h) (Or.inl ⟨by rfl, ?_⟩) SF.out ?_
  rotate_left
  · intro w hw
    try dsimp only at hw
    go_simp
    try with_reducible rfl
  try simp only [Act.put, List.setIfInBounds_toArray, List.set_cons_zero, List.set_cons_succ]
  refine takeL (i := 31) (v := ?_) rfl (by kernel_rfl) (by kernel_rfl) (by kernel_rfl) (fun _ _ _ h => h) (Or.inl ⟨by rfl, ?_⟩) SF.out ?_
  rotate_left
  · intro w hw
    try dsimp only at hw
    go_simp
    try with_reducible rfl
  try simp only [Act.put, List.setIfInBounds_toArray, List.set_cons_zero, List.set_cons_succ]
  refine takeL (i := 32) (v := ?_) rfl (by kernel_rfl) (by kernel_rfl) (by kernel_rfl) (fun _ _ _ h => h) (Or.inl ⟨by rfl, ?_⟩) SF.out ?_
  rotate_left
  · intro w hw
    try dsimp only at hw
    go_simp
    try with_reducible rfl
  try simp only [Act.put, List.setIfInBounds_toArray, List.set_cons_zero, List.set_cons_succ]
  refine takeL (i := 33) (v := ?_) rfl (by kernel_rfl) (by kernel_rfl) (by kernel_rfl) (fun _ _ _ h => h) (Or.inl ⟨by rfl, ?_⟩) SF.out ?_
  rotate_left
  · intro w hw
    try dsimp only at hw
    go_simp
    try with_reducible rfl
  try simp only [Act.put, List.setIfInBounds_toArray, List.set_cons_zero, List.set_cons_succ]
  refine takeL (i := 34) (v := ?_) rfl (by kernel_rfl) (by kernel_rfl) (by kernel_rfl) (fun _ _ _ h => h) (Or.inl ⟨by rfl, ?_⟩) SF.out ?_
  rotate_left
  · intro w hw
    try dsimp only at hw
    go_simp
    try with_reducible rfl
  try simp only [Act.put, List.setIfInBounds_toArray, List.set_cons_zero, List.set_cons_succ]
  refine takeL (i := 35) (v := ?_) rfl (by kernel_rfl) (by kernel_rfl) (by kernel_rfl) (fun _ _ _ h => h) (Or.inl ⟨by rfl, ?_⟩) SF.out ?_
  rotate_left
  · intro w hw
    try dsimp only at hw
    have oc : w.cell? ⟨g7, 5, none⟩ = some (.slice (some a8) 2 2) := (hw.cell (p := ⟨g7, 5, none⟩) R9.out.lt).trans (R9.out.cell 5)
    go_simp
    try with_reducible rfl
  try simp only [Act.put, List.setIfInBounds_toArray, List.set_cons_zero, List.set_cons_succ]
  refine takeL (i := 36) (v := ?_) rfl (by kernel_rfl) (by kernel_rfl) (by kernel_rfl) (fun _ _ _ h => h) (Or.inl ⟨by rfl, ?_⟩) SF.out ?_
  rotate_left
  · intro w hw
    try dsimp only at hw
    go_simp
    try with_reducible rfl
  try simp only [Act.put, List.setIfInBounds_toArray, List.set_cons_zero, List.set_cons_succ]
  refine takeL (i := 37) (v := .agg h15a.cells.toArray) rfl (by kernel_rfl) (by kernel_rfl) (by kernel_rfl) (fun _ _ _ h => h) (Or.inl ⟨by rfl, fun wz hwz => exec_load_at wz 64 (.tmp 88) rfl a8 h15a.cells _ Tryd.underlying64 rfl (by kernel_rfl) (fun j u hu => (hwz.cell (by rw [addr_block]; exact HAB.out)).trans (by have := HAC.out j u hu; rwa [addr_add, Nat.zero_mul, Nat.zero_add] at this)) (by go_simp)⟩) SF.out ?_
  try simp only [Act.put, List.setIfInBounds_toArray, List.set_cons_zero, List.set_cons_succ]
  refine takeL (i := 38) (v := .agg (bv (kx15 8)).toArray) rfl (by kernel_rfl) (by kernel_rfl) (by kernel_rfl) (fun _ _ _ h => h) (Or.inl ⟨by rfl, fun wz hwz => exec_load_at wz 57 (.tmp 1) rfl ⟨g1, 0, none⟩ (bv (kx15 8)) _ Tryd.underlying57 rfl (by kernel_rfl) (fun j u hu => by rw [addr_row, Nat.zero_add]; exact (hwz.cell (p := ⟨g1, j, none⟩) X9.out.r1.lt).trans ((X9.out.r1.cell j).trans hu)) (by go_simp)⟩) SF.out ?_
  try simp only [Act.put, List.setIfInBounds_toArray, List.set_cons_zero, List.set_cons_succ]
  refine takeL (i := 39) (v := .agg (ac15x 14800).cells.toArray) rfl (by kernel_rfl) (by kernel_rfl) (by kernel_rfl) (fun _ _ _ h => h) (Or.inl ⟨by rfl, fun wz hwz => exec_built wz _ _ _ rfl (by simp only [List.map_toArray, List.map_cons, List.map_nil]; exact HA.out 14800)⟩) SF.out ?_
  try simp only [Act.put, List.setIfInBounds_toArray, List.set_cons_zero, List.set_cons_succ]
  refine takeL (i := 40) (v := .agg h15a.cells.toArray) rfl (by kernel_rfl) (by kernel_rfl) (by kernel_rfl) (fun _ _ _ h => h) (Or.inl ⟨by rfl, fun wz hwz => exec_built wz _ _ _ rfl (by simp only [List.map_toArray, List.map_cons, List.map_nil]; exact built_h15a)⟩) SF.out ?_
  try simp only [Act.put, List.setIfInBounds_toArray, List.set_cons_zero, List.set_cons_succ]
  refine takeL (i := 41) (v := ?_) rfl (by kernel_rfl) (by kernel_rfl) (by kernel_rfl) (fun _ _ _ h => h) (Or.inl ⟨by rfl, ?_⟩) SF.out ?_
  rotate_left
  · intro w hw
    try dsimp only at hw
    have hea := HEA.out
    go_simp
    try with_reducible rfl
  try simp only [Act.put, List.setIfInBounds_toArray, List.set_cons_zero, List.set_cons_succ]
  refine takeL (i := 42) (v := ?_) rfl (by kernel_rfl) (by kernel_rfl) (by kernel_rfl) (fun _ _ _ h => h) (Or.inl ⟨by rfl, ?_⟩) SF.out ?_
  rotate_left
  · intro w hw
    try dsimp only at hw
    go_simp
    try with_reducible rfl
  try simp only [Act.put, List.setIfInBounds_toArray, List.set_cons_zero, List.set_cons_succ]
  refine takeL (i := 43) (v := ?_) rfl (by kernel_rfl) (by kernel_rfl) (by kernel_rfl) (fun _ _ _ h => h) (Or.inl ⟨by rfl, ?_⟩) SF.out ?_
  rotate_left
  · intro w hw
    try dsimp only at hw
    go_simp
    try with_reducible rfl
  try simp only [Act.put, List.setIfInBounds_toArray, List.set_cons_zero, List.set_cons_succ]
  refine takeL (i := 44) (v := ?_) rfl (by kernel_rfl) (by kernel_rfl) (by kernel_rfl) (fun _ _ _ h => h) (Or.inl ⟨by rfl, ?_⟩) SF.out ?_
  rotate_left
  · intro w hw
    try dsimp only at hw
    go_simp
    try with_reducible rfl
  try simp only [Act.put, List.setIfInBounds_toArray, List.set_cons_zero, List.set_cons_succ]
  refine takeL (i := 45) (v := ?_) rfl (by kernel_rfl) (by kernel_rfl) (by kernel_rfl) (fun _ _ _ h => h) (Or.inl ⟨by rfl, ?_⟩) SF.out ?_
  rotate_left
  · intro w hw
    try dsimp only at hw
    have oc : w.cell? ⟨g7, 5, none⟩ = some (.slice (some a8) 2 2) := (hw.cell (p := ⟨g7, 5, none⟩) R9.out.lt).trans (R9.out.cell 5)
    go_simp
    try with_reducible rfl
  try simp only [Act.put, List.setIfInBounds_toArray, List.set_cons_zero, List.set_cons_succ]
  refine takeL (i := 46) (v := ?_) rfl (by kernel_rfl) (by kernel_rfl) (by kernel_rfl) (fun _ _ _ h => h) (Or.inl ⟨by rfl, ?_⟩) SF.out ?_
  rotate_left
  · intro w hw
    try dsimp only at hw
    go_simp
    try with_reducible rfl
  try simp only [Act.put, List.setIfInBounds_toArray, List.set_cons_zero, List.set_cons_succ]
  refine takeL (i := 47) (v := .agg h15b.cells.toArray) rfl (by kernel_rfl) (by kernel_rfl) (by kernel_rfl) (fun _ _ _ h => h) (Or.inl ⟨by rfl, fun wz hwz => exec_load_at wz 64 (.tmp 98) rfl (a8.add 66) h15b.cells _ Tryd.underlying64 rfl (by kernel_rfl) (fun j u hu => (hwz.cell (by rw [addr_block, addr_block]; exact HAB.out)).trans (by have := HBC.out j u hu; simpa using this)) (by go_simp)⟩) SF.out ?_
  try simp only [Act.put, List.setIfInBounds_toArray, List.set_cons_zero, List.set_cons_succ]
  refine takeL (i := 48) (v := .agg (bv (kx15 9)).toArray) rfl (by kernel_rfl) (by kernel_rfl) (by kernel_rfl) (fun _ _ _ h => h) (Or.inl ⟨by rfl, fun wz hwz => exec_load_at wz 57 (.tmp 2) rfl ⟨g2, 0, none⟩ (bv (kx15 9)) _ Tryd.underlying57 rfl (by kernel_rfl) (fun j u hu => by rw [addr_row, Nat.zero_add]; exact (hwz.cell (p := ⟨g2, j, none⟩) X9.out.r2.lt).trans ((X9.out.r2.cell j).trans hu)) (by go_simp)⟩) SF.out ?_
  try simp only [Act.put, List.setIfInBounds_toArray, List.set_cons_zero, List.set_cons_succ]
  refine takeL (i := 49) (v := .agg (ac15x 200).cells.toArray) rfl (by kernel_rfl) (by kernel_rfl) (by kernel_rfl) (fun _ _ _ h => h) (Or.inl ⟨by rfl, fun wz hwz => exec_built wz _ _ _ rfl (by simp only [List.map_toArray, List.map_cons, List.map_nil]; exact HA.out 200)⟩) SF.out ?_
  try simp only [Act.put, List.setIfInBounds_toArray, List.set_cons_zero, List.set_cons_succ]
  refine takeL (i := 50) (v := .agg h15b.cells.toArray) rfl (by kernel_rfl) (by kernel_rfl) (by kernel_rfl) (fun _ _ _ h => h) (Or.inl ⟨by rfl, fun wz hwz => exec_built wz _ _ _ rfl (by simp only [List.map_toArray, List.map_cons, List.map_nil]; exact built_h15b)⟩) SF.out ?_
  try simp only [Act.put, List.setIfInBounds_toArray, List.set_cons_zero, List.set_cons_succ]
  refine takeL (i := 51) (v := ?_) rfl (by kernel_rfl) (by kernel_rfl) (by kernel_rfl) (fun _ _ _ h => h) (Or.inl ⟨by rfl, ?_⟩) SF.out ?_
  rotate_left
  · intro w hw
    try dsimp only at hw
    have heb := HEB.out
    go_simp
    try with_reducible rfl
  try simp only [Act.put, List.setIfInBounds_toArray, List.set_cons_zero, List.set_cons_succ]
  refine takeL (i := 52) (v := ?_) rfl (by kernel_rfl) (by kernel_rfl) (by kernel_rfl) (fun _ _ _ h => h) (Or.inl ⟨by rfl, ?_⟩) SF.out ?_
  rotate_left
  · intro w hw
    try dsimp only at hw
    go_simp
    try with_reducible rfl
  try simp only [Act.put, List.setIfInBounds_toArray, List.set_cons_zero, List.set_cons_succ]
  refine takeL (i := 53) (v := ?_) rfl (by kernel_rfl) (by kernel_rfl) (by kernel_rfl) (fun _ _ _ h => h) (Or.inl ⟨by rfl, ?_⟩) SF.out ?_
  rotate_left
  · intro w hw
    try dsimp only at hw
    go_simp
    try with_reducible rfl
  try simp only [Act.put, List.setIfInBounds_toArray, List.set_cons_zero]
  refine wpAnyH_done (by kernel_rfl) ?_ _
  go_wp2_with fail
  go_ret
  exact ⟨rfl, X9.out.b.trans (SF.out.mono X9.out.b.size)⟩
end Go.Proofs.YtfaefpniiiandaaDoor

/-
  Of part Great15: what is needed here.
-/
namespace Go.Proofs.YtfaefpniiiandaaDoor
open Go.RowKit
set_option linter.unusedVariables false
set_option maxRecDepth 100000
theorem cells15_38 {q : Raw} {m : LMsg} (h : m.recent.length = 32) : (q.cells m)[38]? = some (.slice q.LA q.ln q.lc) := by
  simp [Raw.cells, bv_length, h]
theorem inSize15_succ {l : List LIn} {k : Nat} {x : LIn} (h : l[k]? = some x) : inSize (l.take (k + 1)) = inSize (l.take k) + (x.acc.length + x.dat.length) := by
  unfold inSize
  rw [List.take_add_one, h]
  simp
theorem lookSize15_succ {l : List LLook} {k : Nat} {x : LLook} (h : l[k]? = some x) : lookSize (l.take (k + 1)) = lookSize (l.take k) + (x.wr.length + x.rd.length) := by
  unfold lookSize
  rw [List.take_add_one, h]
  simp
theorem below_dn15 {B : Nat} {w V : World} (h : Below B w V) (j : Nat) : Below B w (V.drewN j) := h.trans ⟨rfl, rfl, rfl, Nat.le_refl _, fun _ _ => rfl⟩
def tot15 (x : LReady) : Nat := x.bytes.length + x.roles.length + x.tx.sigs.length + x.tx.m.keys.length + x.tx.m.ins.length + x.tx.m.looks.length + inSize x.tx.m.ins + lookSize x.tx.m.looks
/-- not too great to be gone through -/
structure Fw15 (x : LReady) : Prop where
  t : tot15 x ≤ 10000
  n : x.tx.m.ins.length ≤ 200
  r : x.roles.length ≤ 300
theorem Fw15.acc {x : LReady} (h : Fw15 x) {a : LIn} (ha : a ∈ x.tx.m.ins) : a.acc.length ≤ 10000 ∧ a.dat.length ≤ 10000 := by
  have h1 := size_mem ha
  have h2 := h.t
  unfold tot15 at h2
  omega
/-- no list of it is longer than memory is wide -/
structure Wide15 (x : LReady) : Prop where
  m : Sized x.tx.m
  b : x.bytes.length ≤ 140737488355328
  r : x.roles.length ≤ 140737488355328
  s : x.tx.sigs.length ≤ 140737488355328
/-- what Great tells -/
def GrDone15 (x : LReady) (w : World) (e : Ending) (w' : World) : Prop := (∃ b, e = .returned (.bool b) ∧ (b = false → Fw15 x)) ∧ Below w.heap.size w w'
set_option maxHeartbeats 4000000 in
theorem great15 (q : YRaw) (x : LReady) (B : Nat) (w : World) (h : ReadyIn w B q x) (hB : B ≤ w.heap.size) (hs : Wide15 x) :
    Calls Tryd.prog 8 #[.agg (q.cells x).toArray] w (GrDone15 x w) := by
  obtain ⟨BA, bn, bc, ⟨SA, sn, sc, ⟨KA, kn, kc, IA, n, ic, LA, ln, lc⟩⟩, RA, rn, rc⟩ := q
  have hrow := Row.new w 41 (YRaw.cells ⟨BA, bn, bc, ⟨SA, sn, sc, ⟨KA, kn, kc, IA, n, ic, LA, ln, lc⟩⟩, RA, rn, rc⟩ x)
  have hb0 := (Below.refl w.heap.size w).alloc (Nat.le_refl _) (.cells (YRaw.cells ⟨BA, bn, bc, ⟨SA, sn, sc, ⟨KA, kn, kc, IA, n, ic, LA, ln, lc⟩⟩, RA, rn, rc⟩ x).toArray 41)
  have H32 := h.tx.m.recent
  have d0 : (w.alloc (.cells (YRaw.cells ⟨BA, bn, bc, ⟨SA, sn, sc, ⟨KA, kn, kc, IA, n, ic, LA, ln, lc⟩⟩, RA, rn, rc⟩ x).toArray 41)).cell? ⟨w.heap.size, 0, none⟩ = some (.slice BA bn bc) := hrow.cell 0
  have d1 : (w.alloc (.cells (YRaw.cells ⟨BA, bn, bc, ⟨SA, sn, sc, ⟨KA, kn, kc, IA, n, ic, LA, ln, lc⟩⟩, RA, rn, rc⟩ x).toArray 41)).cell? ⟨w.heap.size, 1, none⟩ = some (.slice SA sn sc) := hrow.cell 1
  have d6 : (w.alloc (.cells (YRaw.cells ⟨BA, bn, bc, ⟨SA, sn, sc, ⟨KA, kn, kc, IA, n, ic, LA, ln, lc⟩⟩, RA, rn, rc⟩ x).toArray 41)).cell? ⟨w.heap.size, 6, none⟩ = some (.slice KA kn kc) := hrow.cell 6
  have d39 : (w.alloc (.cells (YRaw.cells ⟨BA, bn, bc, ⟨SA, sn, sc, ⟨KA, kn, kc, IA, n, ic, LA, ln, lc⟩⟩, RA, rn, rc⟩ x).toArray 41)).cell? ⟨w.heap.size, 39, none⟩ = some (.slice IA n ic) := (hrow.cell 39).trans (ycells_39 H32)
  have d40 : (w.alloc (.cells (YRaw.cells ⟨BA, bn, bc, ⟨SA, sn, sc, ⟨KA, kn, kc, IA, n, ic, LA, ln, lc⟩⟩, RA, rn, rc⟩ x).toArray 41)).cell? ⟨w.heap.size, 40, none⟩ = some (.slice LA ln lc) := (hrow.cell 40).trans (ycells_t (j := 39) ((tcells_m 38).trans (cells15_38 H32)))
  have d41 : (w.alloc (.cells (YRaw.cells ⟨BA, bn, bc, ⟨SA, sn, sc, ⟨KA, kn, kc, IA, n, ic, LA, ln, lc⟩⟩, RA, rn, rc⟩ x).toArray 41)).cell? ⟨w.heap.size, 41, none⟩ = some (.slice RA rn rc) := (hrow.cell 41).trans (ycells_41 H32 0)
  have lb : x.bytes.length = bn := by have := h.bs.len; rwa [bv_length] at this
  have lr : x.roles.length = rn := h.rs.len
  have lsg : x.tx.sigs.length = sn := h.tx.sigs.len
  have lk : x.tx.m.keys.length = kn := h.tx.m.keys.len
  have li : x.tx.m.ins.length = n := h.tx.m.ins.len
  have ll : x.tx.m.looks.length = ln := h.tx.m.looks.len
  have k1 := hs.m.keys
  have k2 := hs.m.ins
  have k3 := hs.m.looks
  have k4 := hs.b
  have k5 := hs.r
  have k6 := hs.s
  rw [lk] at k1
  rw [li] at k2
  rw [ll] at k3
  rw [lb] at k4
  rw [lr] at k5
  rw [lsg] at k6
  have HM := Lib.hid ((h.below (hb0.mono hB)).tx.m)
  have HSZ := Lib.hid hs.m
  have HB0 := Lib.hid hb0
  have HT : Hid (tot15 x = bn + rn + sn + kn + n + ln + inSize x.tx.m.ins + lookSize x.tx.m.looks) := Lib.hid (by unfold tot15; rw [lb, lr, lsg, lk, li, ll])
  have HLI := Lib.hid li
  have HLR := Lib.hid lr
  have HLL := Lib.hid ll
  clear hrow h hs hb0 H32 lb lr lsg lk li ll
  generalize YRaw.cells ⟨BA, bn, bc, ⟨SA, sn, sc, ⟨KA, kn, kc, IA, n, ic, LA, ln, lc⟩⟩, RA, rn, rc⟩ x = cs at *
  go_enter Tryd.func8, Tryd.ntmps8
  go_upto_region 1 with fail
  generalize (w.alloc (Obj.cells cs.toArray 41)) = W0 at *
  obtain ⟨g1, hg1⟩ : ∃ g, g = w.heap.size := ⟨_, rfl⟩
  have HG1 := Lib.hid hg1
  rw [← hg1] at d0 d1 d6 d39 d40 d41 ⊢
  clear hg1
  go_wp2_with fail
  go_loopw [3, 4] (fun nn i wr => ∃ (k j s : Nat), k ≤ n ∧ i = .int .i64 k ∧ nn = .int .i64 s ∧ wr = W0.drewN j ∧ s = bn + rn + sn + kn + n + ln + inSize (x.tx.m.ins.take k) ∧ s ≤ 1900000000000000) (fun nn i _ => n - (intOf i).toNat)
  case atStart => exact ⟨0, 0, bn + rn + sn + kn + n + ln, Nat.zero_le _, rfl, by first | rfl | go_num, rfl, by simp [inSize], by omega⟩
  case round =>
    obtain ⟨k, j, s, hk, rfl, rfl, rfl, hsum, hs9⟩ := hrel
    have HS := Lib.hid hsum
    clear hsum
    by_cases hgo : k < n ∧ s < 20000
    · obtain ⟨hlt, hs3⟩ := hgo
      obtain ⟨a, y, va, vd, rfl, hab, hx, hat⟩ := HM.out.ins.get hlt
      obtain ⟨A1, c1, rfl, _, _, _⟩ := hat.acc.is
      obtain ⟨A2, c2, rfl, _, _, _⟩ := hat.dat.is
      have e1 : W0.cell? ⟨(a.add (k * 3)).block, (a.add (k * 3)).off + 1, none⟩ = some (.slice A1 y.acc.length c1) := hat.cells 1 _ rfl
      have e2 : W0.cell? ⟨(a.add (k * 3)).block, (a.add (k * 3)).off + 2, none⟩ = some (.slice A2 y.dat.length c2) := hat.cells 2 _ rfl
      have l1 := (HSZ.out.inl y (List.mem_of_getElem? hx)).1
      have l2 := (HSZ.out.inl y (List.mem_of_getElem? hx)).2
      have HX := Lib.hid (inSize15_succ hx)
      clear hat hx
      go_wp2_with fail
      go_quiet (fail)
      go_wp2_with fail
      go_roundw
      case rel => exact ⟨k + 1, j + nq, s + y.acc.length + y.dat.length, by omega, by go_num, by go_num, by simp, by have := HS.out; have := HX.out; omega, by omega⟩
      case measure => simp [intOf]; omega
    · have HGO : Hid (20000 ≤ s ∨ s = bn + rn + sn + kn + n + ln + inSize x.tx.m.ins) := by
        refine Lib.hid ?_
        by_cases h3 : s < 20000
        · right
          have hkn : k = n := by
            have : ¬ k < n := fun h => hgo ⟨h, h3⟩
            omega
          have := HS.out
          rwa [hkn, List.take_of_length_le (by rw [HLI.out]; exact Nat.le_refl _)] at this
        · left; omega
      have hdec : (k < n ∧ ¬ s < 20000) ∨ ¬ k < n := by
        by_cases h : k < n
        · exact .inl ⟨h, fun h3 => hgo ⟨h, h3⟩⟩
        · exact .inr h
      clear HS hgo
      rcases hdec with ⟨hd1, hd2⟩ | hd1
      all_goals
        (go_wp2_with fail
         go_loopw [3, 5] (fun nn i wr => ∃ (k j s : Nat), k ≤ ln ∧ i = .int .i64 k ∧ nn = .int .i64 s ∧ wr = W0.drewN j ∧ (20000 ≤ s ∨ s = bn + rn + sn + kn + n + ln + inSize x.tx.m.ins + lookSize (x.tx.m.looks.take k)) ∧ s ≤ 1900000000000000) (fun nn i _ => ln - (intOf i).toNat)
         case atStart => exact ⟨0, j, s, Nat.zero_le _, rfl, rfl, rfl, by simpa [lookSize] using HGO.out, hs9⟩
         case round =>
          clear HGO hd1
          try clear hd2
          clear hs9 hk
          obtain ⟨k, j, s, hk, rfl, rfl, rfl, hsum, hs9⟩ := hrel
          have HS := Lib.hid hsum
          clear hsum
          by_cases hgo : k < ln ∧ s < 20000
          · obtain ⟨hlt, hs3⟩ := hgo
            obtain ⟨a, y, va, vd, rfl, hab, hx, hat⟩ := HM.out.looks.get hlt
            have hc1 : W0.cell? ((a.add (k * 34)).add 32) = some va := hat.cells 32 va (by rw [List.getElem?_append_right (by rw [bv_length, hat.len]; exact Nat.le_refl _), bv_length, hat.len]; rfl)
            have hc2 : W0.cell? ((a.add (k * 34)).add 33) = some vd := hat.cells 33 vd (by rw [List.getElem?_append_right (by rw [bv_length, hat.len]; omega), bv_length, hat.len]; rfl)
            obtain ⟨A1, c1, rfl, _, _, _⟩ := hat.wr.is
            obtain ⟨A2, c2, rfl, _, _, _⟩ := hat.rd.is
            have e1 : W0.cell? ⟨(a.add (k * 34)).block, (a.add (k * 34)).off + 32, none⟩ = some (.slice A1 y.wr.length c1) := hc1
            have e2 : W0.cell? ⟨(a.add (k * 34)).block, (a.add (k * 34)).off + 33, none⟩ = some (.slice A2 y.rd.length c2) := hc2
            have l1 := (HSZ.out.lol y (List.mem_of_getElem? hx)).1
            have l2 := (HSZ.out.lol y (List.mem_of_getElem? hx)).2
            have HX := Lib.hid (lookSize15_succ hx)
            clear hat hx hc1 hc2
            go_wp2_with fail
            go_quiet (fail)
            go_wp2_with fail
            go_roundw
            case rel =>
              refine ⟨k + 1, j + nq, s + y.wr.length + y.rd.length, by omega, by go_num, by go_num, by simp, ?_, by omega⟩
              have h1 := HS.out
              have h2 := HX.out
              omega
            case measure => simp [intOf]; omega
          · have HT2 : Hid (s ≤ 10000 → tot15 x ≤ 10000) := by
              refine Lib.hid fun h3 => ?_
              have hkn : k = ln := by
                have : ¬ k < ln := fun h => hgo ⟨h, by omega⟩
                omega
              have h1 := HS.out
              rw [hkn, List.take_of_length_le (by rw [HLL.out]; exact Nat.le_refl _)] at h1
              have h2 := HT.out
              omega
            have hdec : (k < ln ∧ ¬ s < 20000) ∨ ¬ k < ln := by
              by_cases h : k < ln
              · exact .inl ⟨h, fun h3 => hgo ⟨h, h3⟩⟩
              · exact .inr h
            clear HS hgo
            rcases hdec with ⟨hd1, hd2⟩ | hd1
            · have h10 : 10000 < s := by omega
              have hI : (10000 : Int) < s := by omega
              go_wp2_with fail
              go_ret
              exact ⟨⟨true, rfl, fun hb => by cases hb⟩, below_dn15 HB0.out j⟩
            · by_cases h10 : 10000 < s
              · have hI : (10000 : Int) < s := by omega
                go_wp2_with fail
                go_ret
                exact ⟨⟨true, rfl, fun hb => by cases hb⟩, below_dn15 HB0.out j⟩
              have hJ10 : (s : Int) ≤ 10000 := by omega
              by_cases hn2 : 200 < n
              · have hI : (200 : Int) < n := by omega
                go_wp2_with fail
                go_ret
                exact ⟨⟨true, rfl, fun hb => by cases hb⟩, below_dn15 HB0.out j⟩
              have hJn : (n : Int) ≤ 200 := by omega
              by_cases hr3 : 300 < rn
              · have hI : (300 : Int) < rn := by omega
                go_wp2_with fail
                go_ret
                exact ⟨⟨true, rfl, fun hb => by cases hb⟩, below_dn15 HB0.out j⟩
              have hJr : (rn : Int) ≤ 300 := by omega
              have HFEW : Hid (Fw15 x) := Lib.hid ⟨HT2.out (by omega), by rw [HLI.out]; omega, by rw [HLR.out]; omega⟩
              go_wp2_with fail
              go_ret
              exact ⟨⟨_, rfl, fun _ => HFEW.out⟩, below_dn15 HB0.out j⟩)
end Go.Proofs.YtfaefpniiiandaaDoor

/-
  Of part FailMath15: what is needed here.
-/
namespace Go.Proofs.YtfaefpniiiandaaDoor
set_option linter.unusedVariables false
theorem step_zero15 {x : LReady} {k : Nat} {a : LIn} {S : S15} (h : (step15 x k a S).1 = 0) : (step15 x k a S).2.units = S.units + 150 := by
  revert h
  unfold step15
  split
  · intro h; cases h
  · split
    · intro h; cases h
    · split
      · split
        · intro _; rfl
        · intro _; rfl
      · split
        · intro _; rfl
        · intro h; cases h
theorem step_bound15 {x : LReady} {k : Nat} {a : LIn} {S : S15} (h : 0 ≤ S.units ∧ S.units ≤ x.u) : 0 ≤ (step15 x k a S).2.units ∧ (step15 x k a S).2.units ≤ x.u := by
  unfold step15
  split
  · exact ⟨by show 0 ≤ x.u; omega, Int.le_refl _⟩
  · rename_i hc
    have h2 : 0 ≤ S.units + 150 ∧ S.units + 150 ≤ x.u := by omega
    split
    · exact h2
    · split
      · split
        · exact h2
        · exact h2
      · split
        · exact h2
        · exact h2
theorem go_bound15 {x : LReady} : ∀ (L : List LIn) (k : Nat) (S : S15), (0 ≤ S.units ∧ S.units ≤ x.u) → 0 ≤ (go15 x L k S).2.2.units ∧ (go15 x L k S).2.2.units ≤ x.u
  | [], _, _, h => h
  | a :: r, k, S, h => by
    unfold go15
    split
    · exact go_bound15 r _ _ (step_bound15 h)
    · exact step_bound15 h
theorem go_zero15 {x : LReady} : ∀ (L : List LIn) (k : Nat) (S : S15), (go15 x L k S).1 = 0 → (go15 x L k S).2.1 = -1 ∧ (go15 x L k S).2.2.units = S.units + 150 * (L.length : Int)
  | [], _, S, _ => ⟨rfl, by show S.units = S.units + 150 * 0; omega⟩
  | a :: r, k, S, h => by
    unfold go15 at h ⊢
    split at h
    · rename_i hs
      rw [if_pos hs]
      obtain ⟨h1, h2⟩ := go_zero15 r _ _ h
      refine ⟨h1, ?_⟩
      rw [h2, step_zero15 hs, List.length_cons]
      push_cast
      omega
    · rename_i hs
      exact absurd h hs
theorem go_ill15 {x : LReady} : ∀ (L : List LIn) (k : Nat) (S : S15), (go15 x L k S).1 ≠ 0 → (k : Int) ≤ (go15 x L k S).2.1 ∧ (go15 x L k S).2.1 < (k : Int) + (L.length : Int)
  | [], _, S, h => absurd rfl h
  | a :: r, k, S, h => by
    unfold go15 at h ⊢
    split at h
    · rename_i hs
      rw [if_pos hs]
      obtain ⟨h1, h2⟩ := go_ill15 r _ _ h
      rw [List.length_cons]
      push_cast at h1 h2 ⊢
      omega
    · rename_i hs
      rw [if_neg hs, List.length_cons]
      push_cast
      constructor
      · exact Int.le_refl _
      · show (k : Int) < _
        omega
/-- what comes of a transaction -/
inductive RunIs15 (x : LReady) (l : List LAcc) : LOut × Int → Prop where
  | no : RunIs15 x l (out0, 1)
  | fine (o : LOut) (hl : l.length = x.roles.length) (hf : o.fail = 0) (ha : o.at_ = -1) (hu : o.units = 150 * (x.tx.m.ins.length : Int)) (hb : 0 ≤ o.units ∧ o.units ≤ x.u) (hfee : o.fee = x.fee) : RunIs15 x l (o, 0)
  | ill (o : LOut) (hl : l.length = x.roles.length) (hf : o.fail ≠ 0) (ha : 0 ≤ o.at_ ∧ o.at_ < (x.tx.m.ins.length : Int)) (hs : o.space = 0) (hc : o.ch = chg15 x.roles l) (hb : 0 ≤ o.units ∧ o.units ≤ x.u) (hfee : o.fee = x.fee) : RunIs15 x l (o, 0)
theorem run_is15 (x : LReady) (l : List LAcc) (hu : 0 ≤ x.u) : RunIs15 x l (run15 x l) := by
  have hb := go_bound15 (x := x) x.tx.m.ins 0 ⟨l, 0, 0⟩ ⟨Int.le_refl _, hu⟩
  unfold run15
  by_cases hl : l.length ≠ x.roles.length
  · rw [if_pos hl]; exact .no
  rw [if_neg hl]
  have hl' : l.length = x.roles.length := by omega
  by_cases hp : ∃ a ∈ x.tx.m.ins, (x.roles.length : Int) ≤ a.p
  · rw [if_pos hp]; exact .no
  rw [if_neg hp]
  by_cases hz : (go15 x x.tx.m.ins 0 ⟨l, 0, 0⟩).1 = 0
  · rw [if_pos hz]
    obtain ⟨h1, h2⟩ := go_zero15 (x := x) _ _ _ hz
    refine .fine _ hl' rfl rfl ?_ hb rfl
    show (go15 x x.tx.m.ins 0 ⟨l, 0, 0⟩).2.2.units = _
    rw [h2]
    show (0 : Int) + _ = _
    omega
  · rw [if_neg hz]
    obtain ⟨h1, h2⟩ := go_ill15 (x := x) _ _ _ hz
    refine .ill _ hl' hz ⟨by show 0 ≤ (go15 x x.tx.m.ins 0 ⟨l, 0, 0⟩).2.1; omega, by show (go15 x x.tx.m.ins 0 ⟨l, 0, 0⟩).2.1 < _; omega⟩ rfl rfl hb rfl
theorem chg_ok15 : ∀ (rs : List LRole) (l : List LAcc), (∀ r ∈ rs, r.key.length = 32) → (∀ a ∈ l, a.o.length = 32) → ∀ x ∈ chg15 rs l, x.k.length = 32 ∧ x.a.o.length = 32
  | [], _, _, _, x, hx => by cases hx
  | _ :: _, [], _, _, x, hx => by cases hx
  | r :: rs, a :: l, hr, ha, x, hx => by
    have ih := chg_ok15 rs l (fun y hy => hr y (List.mem_cons_of_mem _ hy)) (fun y hy => ha y (List.mem_cons_of_mem _ hy))
    unfold chg15 at hx
    split at hx
    · rcases List.mem_cons.1 hx with rfl | hx
      · exact ⟨hr r (List.mem_cons_self ..), ha a (List.mem_cons_self ..)⟩
      · exact ih x hx
    · exact ih x hx
end Go.Proofs.YtfaefpniiiandaaDoor

/-
  Of part FailWalk15: what is needed here.
-/
namespace Go.Proofs.YtfaefpniiiandaaDoor
open Go.RowKit
set_option linter.unusedVariables false
set_option maxRecDepth 100000
/-- what is there of a transaction and its accounts -/
structure FW15 (w V : World) (B g2 : Nat) (q : YRaw) (x : LReady) (LA : Option Addr) (ln : Nat) (l : List LAcc) : Prop where
  b : Below w.heap.size w V
  r2 : Row V g2 41 (q.cells x)
  rd : ReadyIn V B q x
  ac : AccsIn V B LA ln l
theorem FW15.below {w V V' : World} {B g2 ln : Nat} {q : YRaw} {x : LReady} {LA : Option Addr} {l : List LAcc} (h : FW15 w V B g2 q x LA ln l) (hB : B ≤ w.heap.size) (hb : Below V.heap.size V V') : FW15 w V' B g2 q x LA ln l :=
  ⟨h.b.trans (hb.mono h.b.size), h.r2.below hb h.r2.lt, h.rd.below (hb.mono (Nat.le_trans hB h.b.size)), h.ac.below (hb.mono (Nat.le_trans hB h.b.size))⟩
/-- a transaction's numbers fit -/
structure RdOk15 (x : LReady) : Prop where
  p : ∀ a ∈ x.tx.m.ins, IsByte a.p
  ab : ∀ a ∈ x.tx.m.ins, AllBytes a.acc ∧ AllBytes a.dat
  u : 0 ≤ x.u ∧ x.u < 18446744073709551616
  fee : 0 ≤ x.fee ∧ x.fee < 18446744073709551616
  kb : ∀ r ∈ x.roles, AllBytes r.key
theorem fw_run15 {w V : World} {B g2 ln lc : Nat} {q : YRaw} {x : LReady} {LA : Option Addr} {l : List LAcc} (f : FW15 w V B g2 q x LA ln l) (hB : B ≤ w.heap.size) (hlc : ln ≤ lc ∧ lc ≤ maxLen) (hln : ln ≤ 300) (hf : Fw15 x) (hok : RdOk15 x) (ht : TypAt w) :
    Calls Tryd.prog 13 #[.agg (q.cells x).toArray, .slice LA ln lc] V (RunDoneC V (run15 x l)) :=
  runC q x B LA ln lc l V f.rd f.ac hlc (Nat.le_trans hB f.b.size) (by omega) hok.p hok.ab hok.u ⟨by have h1 := f.rd.tx.m.ins.len; have h2 := hf.n; omega, fun a ha => by have := (hf.acc ha).1; omega⟩ (ht.below f.b ht.pos)
end Go.Proofs.YtfaefpniiiandaaDoor

/-
  Of part Use15: what is needed here.
-/
namespace Go.Proofs.YtfaefpniiiandaaDoor
open Go.RowKit
set_option linter.unusedVariables false
theorem rd_ok15 {w : World} {B : Nat} {q : YRaw} {x : LReady} (h : RdOk x) (hi : ReadyIn w B q x) : RdOk15 x :=
  ⟨fun a ha => (h.wf.m.ins a ha).1, fun a ha => (h.wf.m.ins a ha).2, h.u, h.fee, fun r hr => (hi.rs.ok r hr).2⟩
theorem rd_wide15 {x : LReady} (h : RdOk x) : Wide15 x := by
  obtain ⟨_, h1, h2, _, h3, h4, _⟩ := h
  exact ⟨h1, h3, h4, h2⟩
end Go.Proofs.YtfaefpniiiandaaDoor

/-
  Of part AheadMath15: what is needed here.
-/
namespace Go.Proofs.YtfaefpniiiandaaDoor
set_option linter.unusedVariables false
/-- a transaction with one more role and one more instruction, of Budget's -/
def more15 (x : LReady) (dat : List Int) : LReady :=
  { x with roles := x.roles ++ [⟨k3, false, false⟩], tx := { x.tx with m := { x.tx.m with ins := x.tx.m.ins ++ [⟨(x.roles.length : Int), [], dat⟩] } } }
def extR15 (r : Res14) : Res14 := if r.e = 0 then ⟨0, r.l ++ [blank13], r.n⟩ else r
def extS15 (S : S15) : S15 := ⟨S.now ++ [blank13], S.units, S.space⟩
theorem ext_bad15 {e : Int} (h : e ≠ 0) : bad14 e = extR15 (bad14 e) := by
  unfold extR15
  rw [if_neg (show ¬ (bad14 e).e = 0 from h)]
theorem ext_fine15 (L : List LAcc) (n : Int) : (⟨0, L ++ [blank13], n⟩ : Res14) = extR15 ⟨0, L, n⟩ := by
  unfold extR15
  rw [if_pos rfl]
theorem getA_app15 {l : List LAcc} {i : Nat} (h : i < l.length) : getA (l ++ [blank13]) i = getA l i := by
  unfold getA
  rw [List.getD_eq_getElem?_getD, List.getD_eq_getElem?_getD, List.getElem?_append_left h]
theorem set_app15 {l : List LAcc} {i : Nat} (a : LAcc) (h : i < l.length) : (l ++ [blank13]).set i a = l.set i a ++ [blank13] := by
  rw [List.set_append, if_pos h]
theorem set_app15b {l : List LAcc} {i j : Nat} (a b : LAcc) (h : i < l.length) (h2 : j < l.length) : ((l ++ [blank13]).set i a).set j b = (l.set i a).set j b ++ [blank13] := by
  rw [set_app15 a h, List.set_append, if_pos (by rw [List.length_set]; exact h2)]
theorem make_app15 {l : List LAcc} {x : LAsk} {a b : Nat} (ha : a < l.length) (hb : b < l.length) : make14 (l ++ [blank13]) x a b = extR15 (make14 l x a b) := by
  unfold make14
  rw [getA_app15 ha, getA_app15 hb]
  by_cases h1 : getA l b ≠ blank13
  · simp only [if_pos h1]; exact ext_bad15 (by decide)
  simp only [if_neg h1]
  by_cases h2 : ¬ plain14 (getA l a)
  · simp only [if_pos h2]; exact ext_bad15 (by decide)
  simp only [if_neg h2]
  by_cases h3 : 1048576 < x.space
  · simp only [if_pos h3]; exact ext_bad15 (by decide)
  simp only [if_neg h3]
  by_cases h4 : (getA l a).c < x.coins
  · simp only [if_pos h4]; exact ext_bad15 (by decide)
  simp only [if_neg h4]
  rw [set_app15b _ _ ha hb]
  exact ext_fine15 _ _
theorem assign_app15 {l : List LAcc} {x : LAsk} {a : Nat} (ha : a < l.length) : assign14 (l ++ [blank13]) x a = extR15 (assign14 l x a) := by
  unfold assign14
  rw [getA_app15 ha]
  by_cases h1 : (getA l a).o ≠ key0
  · simp only [if_pos h1]; exact ext_bad15 (by decide)
  simp only [if_neg h1]
  rw [set_app15 _ ha]
  exact ext_fine15 _ _
theorem move_app15 {l : List LAcc} {x : LAsk} {a b : Nat} (ha : a < l.length) (hb : b < l.length) : move14 (l ++ [blank13]) x a b = extR15 (move14 l x a b) := by
  unfold move14
  rw [getA_app15 ha, getA_app15 hb]
  by_cases h2 : ¬ plain14 (getA l a)
  · simp only [if_pos h2]; exact ext_bad15 (by decide)
  simp only [if_neg h2]
  by_cases h4 : (getA l a).c < x.coins
  · simp only [if_pos h4]; exact ext_bad15 (by decide)
  simp only [if_neg h4]
  by_cases h5 : a = b
  · simp only [if_pos h5]; exact ext_fine15 _ _
  simp only [if_neg h5]
  by_cases h6 : 18446744073709551615 - x.coins < (getA l b).c
  · simp only [if_pos h6]; exact ext_bad15 (by decide)
  simp only [if_neg h6]
  rw [set_app15b _ _ ha hb]
  exact ext_fine15 _ _
theorem space_app15 {l : List LAcc} {x : LAsk} {a : Nat} (ha : a < l.length) : space14 (l ++ [blank13]) x a = extR15 (space14 l x a) := by
  unfold space14
  rw [getA_app15 ha]
  by_cases h2 : ¬ plain14 (getA l a)
  · simp only [if_pos h2]; exact ext_bad15 (by decide)
  simp only [if_neg h2]
  by_cases h3 : 1048576 < x.space
  · simp only [if_pos h3]; exact ext_bad15 (by decide)
  simp only [if_neg h3]
  rw [set_app15 _ ha]
  exact ext_fine15 _ _
theorem deed_app15 {l : List LAcc} {x : LAsk} {a b : Nat} (ha : a < l.length) (hb : b < l.length) : deed14 (l ++ [blank13]) x a b = extR15 (deed14 l x a b) := by
  unfold deed14
  by_cases h0 : x.tag = 0
  · simp only [if_pos h0]; exact make_app15 ha hb
  simp only [if_neg h0]
  by_cases h1 : x.tag = 1
  · simp only [if_pos h1]; exact assign_app15 ha
  simp only [if_neg h1]
  by_cases h2 : x.tag = 2
  · simp only [if_pos h2]; exact move_app15 ha hb
  simp only [if_neg h2]
  exact space_app15 ha
theorem deed_more_len15 {l : List LAcc} {x : LAsk} {a b : Nat} (h : (deed14 l x a b).e = 0) : (deed14 l x a b).l.length = l.length := by
  revert h
  unfold deed14 make14 assign14 move14 space14
  (repeat' split) <;> intro h <;> first | (cases h; done) | simp
theorem do_more_len15 {l : List LAcc} {r : List LRole} {acc dat : List Int} (h : (do14 l r acc dat).e = 0) : (do14 l r acc dat).l.length = l.length := by
  revert h
  unfold do14
  split
  · intro h; cases h
  split
  · intro h; cases h
  split
  · rename_i hp; intro h; exact absurd h hp
  · exact deed_more_len15
theorem rol_app15 {r : List LRole} {R : LRole} {i : Int} (h0 : 0 ≤ i) (h : i < r.length) : rol14 (r ++ [R]) i = rol14 r i := by
  unfold rol14
  rw [List.getD_eq_getElem?_getD, List.getD_eq_getElem?_getD, List.getElem?_append_left (by omega)]
theorem getD_mem15 {acc : List Int} {k : Nat} (h : k < acc.length) : acc.getD k 0 ∈ acc := by
  rw [List.getD_eq_getElem?_getD, List.getElem?_eq_getElem h]
  exact List.getElem_mem h
theorem plc_app15 {x : LAsk} {r : List LRole} {R : LRole} {acc : List Int} (hb : AllBytes acc) (h : plc14 x r acc ≠ 8) : plc14 x (r ++ [R]) acc = plc14 x r acc ∧ ¬ acc.length < need14 x ∧ ∀ i ∈ acc, i < (r.length : Int) := by
  unfold plc14 at h ⊢
  by_cases h1 : acc.length < need14 x
  · rw [if_pos h1] at h; exact absurd rfl h
  by_cases h2 : ∃ i ∈ acc, (r.length : Int) ≤ i
  · rw [if_neg h1, if_pos h2] at h; exact absurd rfl h
  have h3 : ∀ i ∈ acc, i < (r.length : Int) := fun i hi => by
    by_cases h4 : (r.length : Int) ≤ i
    · exact absurd ⟨i, hi, h4⟩ h2
    · omega
  have h5 : ¬ ∃ i ∈ acc, ((r ++ [R]).length : Int) ≤ i := fun ⟨i, hi, h4⟩ => h2 ⟨i, hi, by rw [List.length_append] at h4; simp only [List.length_cons, List.length_nil] at h4; omega⟩
  refine ⟨?_, h1, h3⟩
  have n1 : 1 ≤ need14 x := by unfold need14; split <;> decide
  have m0 := getD_mem15 (acc := acc) (k := 0) (by omega)
  rw [if_neg h1, if_neg h5, if_neg h1, if_neg h2, rol_app15 (hb _ m0).1 (h3 _ m0)]
  by_cases h6 : chk14 true (rol14 r (acc.getD 0 0)) ≠ 0
  · rw [if_pos h6, if_pos h6]
  rw [if_neg h6, if_neg h6]
  by_cases h7 : two14 x
  · have m1 := getD_mem15 (acc := acc) (k := 1) (by unfold need14 at h1; rw [if_pos h7] at h1; omega)
    rw [if_pos h7, if_pos h7, rol_app15 (hb _ m1).1 (h3 _ m1)]
  · rw [if_neg h7, if_neg h7]
theorem do_app15 {l : List LAcc} {r : List LRole} {R : LRole} {acc dat : List Int} (hb : AllBytes acc) (hl : l.length = r.length) (h : (do14 l r acc dat).e ≠ 8) : do14 (l ++ [blank13]) (r ++ [R]) acc dat = extR15 (do14 l r acc dat) := by
  unfold do14 at h ⊢
  have h1 : ¬ l.length ≠ r.length := fun g => g hl
  have h1' : ¬ (l ++ [blank13]).length ≠ (r ++ [R]).length := fun g => g (by rw [List.length_append, List.length_append, hl]; rfl)
  rw [if_neg h1] at h
  rw [if_neg h1', if_neg h1]
  cases hd : dat14 dat with
  | none => exact ext_bad15 (by decide)
  | some a =>
    rw [hd] at h
    dsimp only at h ⊢
    by_cases hp : plc14 a r acc ≠ 0
    · rw [if_pos hp] at h
      rw [(plc_app15 (R := R) hb h).1, if_pos hp, if_pos hp]
      exact ext_bad15 hp
    · have hz : plc14 a r acc = 0 := Classical.not_not.1 hp
      obtain ⟨e, hn, hi⟩ := plc_app15 (R := R) hb (by rw [hz]; decide)
      have n1 : 1 ≤ need14 a := by unfold need14; split <;> decide
      have m0 := getD_mem15 (acc := acc) (k := 0) (by omega)
      have m1 := getD_mem15 (acc := acc) (k := need14 a - 1) (by omega)
      rw [e, if_neg hp, if_neg hp]
      have b0 := (hb _ m0).1
      have b1 := (hb _ m1).1
      have i0 := hi _ m0
      have i1 := hi _ m1
      exact deed_app15 (by omega) (by omega)
theorem step_more15 {x : LReady} {dat : List Int} {k : Nat} {a : LIn} {S : S15} (hl : S.now.length = x.roles.length) (hp : 0 ≤ a.p ∧ a.p < (x.roles.length : Int)) (hb : AllBytes a.acc) (h8 : (step15 x k a S).1 ≠ 8) :
    step15 (more15 x dat) k a (extS15 S) = ((step15 x k a S).1, extS15 (step15 x k a S).2) := by
  have hpr : prog15 (more15 x dat) a = prog15 x a := by
    unfold prog15
    show (rol14 (x.roles ++ [_]) a.p).key = _
    rw [rol_app15 hp.1 hp.2]
  by_cases h1 : x.u < 150 ∨ x.u - 150 < S.units
  · rw [step15_units h1, step15_units (x := more15 x dat) (S := extS15 S) h1]; rfl
  by_cases h2 : (k : Int) = x.bad
  · rw [step15_bad h1 h2, step15_bad (x := more15 x dat) (S := extS15 S) h1 h2]; rfl
  by_cases h3 : prog15 x a = k0
  · by_cases h4 : (do14 S.now x.roles a.acc a.dat).e = 0
    · have h5 : do14 (extS15 S).now (more15 x dat).roles a.acc a.dat = extR15 (do14 S.now x.roles a.acc a.dat) := do_app15 hb hl (by rw [h4]; decide)
      have h5b : extR15 (do14 S.now x.roles a.acc a.dat) = ⟨0, (do14 S.now x.roles a.acc a.dat).l ++ [blank13], (do14 S.now x.roles a.acc a.dat).n⟩ := by unfold extR15; rw [if_pos h4]
      rw [step15_sys h1 h2 h3 h4, step15_sys (x := more15 x dat) (S := extS15 S) h1 h2 (hpr.trans h3) (by rw [h5, h5b]), h5, h5b]
      rfl
    · rw [step15_sysbad h1 h2 h3 h4] at h8
      have h5 : do14 (extS15 S).now (more15 x dat).roles a.acc a.dat = extR15 (do14 S.now x.roles a.acc a.dat) := do_app15 hb hl h8
      have h5b : extR15 (do14 S.now x.roles a.acc a.dat) = do14 S.now x.roles a.acc a.dat := by unfold extR15; rw [if_neg h4]
      rw [step15_sysbad h1 h2 h3 h4, step15_sysbad (x := more15 x dat) (S := extS15 S) h1 h2 (hpr.trans h3) (by rw [h5, h5b]; exact h4), h5, h5b]
      rfl
  by_cases h4 : prog15 x a = k3
  · rw [step15_bud h1 h2 h3 h4, step15_bud (x := more15 x dat) (S := extS15 S) h1 h2 (by rw [hpr]; exact h3) (hpr.trans h4)]; rfl
  · rw [step15_none h1 h2 h3 h4, step15_none (x := more15 x dat) (S := extS15 S) h1 h2 (by rw [hpr]; exact h3) (by rw [hpr]; exact h4)]; rfl
theorem step_more_len15 {x : LReady} {k : Nat} {a : LIn} {S : S15} : (step15 x k a S).2.now.length = S.now.length := by
  unfold step15
  split
  · rfl
  split
  · rfl
  split
  · split
    · rename_i h
      exact do_more_len15 h
    · rfl
  · split <;> rfl
theorem go_more_len15 {x : LReady} : ∀ (L : List LIn) (k : Nat) (S : S15), (go15 x L k S).2.2.now.length = S.now.length
  | [], k, S => rfl
  | a :: r, k, S => by
    unfold go15
    split
    · rw [go_more_len15 r, step_more_len15]
    · exact step_more_len15
theorem go_more15 {x : LReady} {dat : List Int} {R : List LIn} : ∀ (L : List LIn) (k : Nat) (S : S15), S.now.length = x.roles.length → (∀ a ∈ L, (0 ≤ a.p ∧ a.p < (x.roles.length : Int)) ∧ AllBytes a.acc) → (go15 x L k S).1 ≠ 8 →
    go15 (more15 x dat) (L ++ R) k (extS15 S) = if (go15 x L k S).1 = 0 then go15 (more15 x dat) R (k + L.length) (extS15 (go15 x L k S).2.2) else ((go15 x L k S).1, (go15 x L k S).2.1, extS15 (go15 x L k S).2.2)
  | [], k, S, _, _, _ => by
    unfold go15
    rw [if_pos rfl]
    rfl
  | a :: r, k, S, hl, hp, h8 => by
    have hpa := hp a (List.mem_cons_self ..)
    rw [List.cons_append]
    conv => lhs; unfold go15
    by_cases hz : (step15 x k a S).1 = 0
    · have e : go15 x (a :: r) k S = go15 x r (k + 1) (step15 x k a S).2 := by
        conv => lhs; unfold go15
        rw [if_pos hz]
      rw [e] at h8 ⊢
      rw [step_more15 hl hpa.1 hpa.2 (by rw [hz]; decide), if_pos hz, go_more15 r (k + 1) _ (by rw [step_more_len15]; exact hl) (fun b hb => hp b (List.mem_cons_of_mem _ hb)) h8, List.length_cons, show k + 1 + r.length = k + (r.length + 1) by omega]
    · have e : go15 x (a :: r) k S = ((step15 x k a S).1, (k : Int), (step15 x k a S).2) := by
        conv => lhs; unfold go15
        rw [if_neg hz]
      rw [e] at h8 ⊢
      rw [step_more15 hl hpa.1 hpa.2 h8, if_neg hz, if_neg hz]
theorem chg_app15 : ∀ (rs : List LRole) (l : List LAcc) (k : List Int) (a : LAcc), l.length = rs.length → chg15 (rs ++ [⟨k, false, false⟩]) (l ++ [a]) = chg15 rs l
  | [], [], _, _, _ => rfl
  | [], _ :: _, _, _, h => by cases h
  | _ :: _, [], _, _, h => by cases h
  | r :: rs, b :: l, k, a, h => by
    have ih := chg_app15 rs l k a (by simpa using h)
    rw [List.cons_append, List.cons_append]
    unfold chg15
    rw [ih]
/-- an outcome, and that of a transaction with one more instruction, of Budget's -/
inductive Ahead15 (x : LReady) (o z : LOut) : Prop where
  | late (h : (x.tx.m.ins.length : Int) ≤ x.bad)
  | index (h : x.bad < (x.tx.m.ins.length : Int)) (ho : o.fail = 8)
  | ill (h : x.bad < (x.tx.m.ins.length : Int)) (ho : o.fail ≠ 0) (h8 : o.fail ≠ 8) (hf : z.fail = o.fail) (ha : z.at_ = o.at_) (hu : z.units = o.units) (hc : z.ch = o.ch)
  | units (h : x.bad < (x.tx.m.ins.length : Int)) (ho : o.fail = 0) (hx : x.u < 150 ∨ x.u - 150 < o.units) (hf : z.fail = 20) (hu : z.units = x.u)
  | fine (h : x.bad < (x.tx.m.ins.length : Int)) (ho : o.fail = 0) (hx : ¬ (x.u < 150 ∨ x.u - 150 < o.units)) (hf : z.fail = 0) (hu : z.units = o.units + 150) (hs : z.space = o.space) (hc : z.ch = o.ch)
theorem run_two15 {x : LReady} {l : List LAcc} (h : (run15 x l).2 = 0) : l.length = x.roles.length ∧ ∀ a ∈ x.tx.m.ins, a.p < (x.roles.length : Int) := by
  unfold run15 at h
  by_cases hl : l.length ≠ x.roles.length
  · rw [if_pos hl] at h; cases h
  rw [if_neg hl] at h
  by_cases hp : ∃ a ∈ x.tx.m.ins, (x.roles.length : Int) ≤ a.p
  · rw [if_pos hp] at h; cases h
  refine ⟨by omega, fun a ha => ?_⟩
  by_cases hc : (x.roles.length : Int) ≤ a.p
  · exact absurd ⟨a, ha, hc⟩ hp
  · omega
theorem run_eq15 {x : LReady} {l : List LAcc} (hl : l.length = x.roles.length) (hp : ∀ a ∈ x.tx.m.ins, a.p < (x.roles.length : Int)) :
    run15 x l = if (go15 x x.tx.m.ins 0 ⟨l, 0, 0⟩).1 = 0 then
      (⟨0, -1, (go15 x x.tx.m.ins 0 ⟨l, 0, 0⟩).2.2.units, x.fee, (go15 x x.tx.m.ins 0 ⟨l, 0, 0⟩).2.2.space, chg15 x.roles (go15 x x.tx.m.ins 0 ⟨l, 0, 0⟩).2.2.now⟩, 0)
    else (⟨(go15 x x.tx.m.ins 0 ⟨l, 0, 0⟩).1, (go15 x x.tx.m.ins 0 ⟨l, 0, 0⟩).2.1, (go15 x x.tx.m.ins 0 ⟨l, 0, 0⟩).2.2.units, x.fee, 0, chg15 x.roles l⟩, 0) := by
  unfold run15
  rw [if_neg (by omega), if_neg (by rintro ⟨b, hb, hc⟩; have := hp b hb; omega)]
theorem ahead15 {x : LReady} {l : List LAcc} {dat : List Int} (h : (run15 x l).2 = 0) (hok : ∀ a ∈ x.tx.m.ins, 0 ≤ a.p ∧ AllBytes a.acc) :
    (run15 (more15 x dat) (l ++ [blank13])).2 = 0 ∧ Ahead15 x (run15 x l).1 (run15 (more15 x dat) (l ++ [blank13])).1 := by
  obtain ⟨hl, hp⟩ := run_two15 h
  have hl2 : (l ++ [blank13]).length = (more15 x dat).roles.length := by
    show _ = (x.roles ++ [_]).length
    rw [List.length_append, List.length_append, hl]; rfl
  have hp2 : ∀ a ∈ (more15 x dat).tx.m.ins, a.p < ((more15 x dat).roles.length : Int) := fun a ha => by
    have e : ((more15 x dat).roles.length : Int) = (x.roles.length : Int) + 1 := by
      show ((x.roles ++ [_]).length : Int) = _
      rw [List.length_append]; rfl
    rw [e]
    rcases List.mem_append.1 (show a ∈ x.tx.m.ins ++ [_] from ha) with ha | ha
    · have := hp a ha; omega
    · obtain rfl := List.mem_singleton.1 ha
      show (x.roles.length : Int) < _
      omega
  rw [run_eq15 hl2 hp2, run_eq15 hl hp]
  by_cases hlate : (x.tx.m.ins.length : Int) ≤ x.bad
  · refine ⟨?_, .late hlate⟩
    split <;> rfl
  have hlt : x.bad < (x.tx.m.ins.length : Int) := by omega
  by_cases h8 : (go15 x x.tx.m.ins 0 ⟨l, 0, 0⟩).1 = 8
  · refine ⟨by split <;> rfl, .index hlt ?_⟩
    rw [if_neg (by rw [h8]; decide)]
    exact h8
  have hg : go15 (more15 x dat) (more15 x dat).tx.m.ins 0 ⟨l ++ [blank13], 0, 0⟩ = if (go15 x x.tx.m.ins 0 ⟨l, 0, 0⟩).1 = 0 then go15 (more15 x dat) [⟨(x.roles.length : Int), [], dat⟩] (0 + x.tx.m.ins.length) (extS15 (go15 x x.tx.m.ins 0 ⟨l, 0, 0⟩).2.2) else ((go15 x x.tx.m.ins 0 ⟨l, 0, 0⟩).1, (go15 x x.tx.m.ins 0 ⟨l, 0, 0⟩).2.1, extS15 (go15 x x.tx.m.ins 0 ⟨l, 0, 0⟩).2.2) :=
    go_more15 x.tx.m.ins 0 ⟨l, 0, 0⟩ hl (fun a ha => ⟨⟨(hok a ha).1, hp a ha⟩, (hok a ha).2⟩) h8
  have hnl := go_more_len15 (x := x) x.tx.m.ins 0 ⟨l, 0, 0⟩
  rw [hg]
  clear hg
  generalize hG : go15 x x.tx.m.ins 0 ⟨l, 0, 0⟩ = G at *
  obtain ⟨ge, gat, gS⟩ := G
  dsimp only at h8 hnl ⊢
  by_cases hz : ge = 0
  · rw [if_pos hz, if_pos hz]
    have hpk : prog15 (more15 x dat) ⟨(x.roles.length : Int), [], dat⟩ = k3 := by
      unfold prog15 rol14
      show ((x.roles ++ [_]).getD _ _).key = _
      rw [List.getD_eq_getElem?_getD, show ((x.roles.length : Int)).toNat = x.roles.length by omega, List.getElem?_append_right (Nat.le_refl _), Nat.sub_self]
      rfl
    by_cases hu : x.u < 150 ∨ x.u - 150 < gS.units
    · have e : go15 (more15 x dat) [⟨(x.roles.length : Int), [], dat⟩] (0 + x.tx.m.ins.length) (extS15 gS) = (20, ((0 + x.tx.m.ins.length : Nat) : Int), ⟨gS.now ++ [blank13], x.u, gS.space⟩) := by
        unfold go15
        rw [step15_units (x := more15 x dat) (S := extS15 gS) hu]
        dsimp only
        rw [if_neg (by decide)]
        rfl
      rw [e, if_neg (show ¬ (20 : Int) = 0 by decide)]
      exact ⟨rfl, .units hlt rfl hu rfl rfl⟩
    · have hb : ¬ (((0 + x.tx.m.ins.length : Nat) : Int) = (more15 x dat).bad) := by
        show ¬ _ = x.bad
        omega
      have e : go15 (more15 x dat) [⟨(x.roles.length : Int), [], dat⟩] (0 + x.tx.m.ins.length) (extS15 gS) = (0, -1, ⟨gS.now ++ [blank13], gS.units + 150, gS.space⟩) := by
        unfold go15
        rw [step15_bud (x := more15 x dat) (S := extS15 gS) hu hb (by rw [hpk]; decide) hpk, if_pos rfl]
        rfl
      rw [e, if_pos rfl]
      exact ⟨rfl, .fine hlt rfl hu rfl rfl rfl (chg_app15 x.roles gS.now k3 blank13 (by rw [hnl]; exact hl))⟩
  · rw [if_neg hz, if_neg hz]
    dsimp only
    rw [if_neg hz]
    exact ⟨rfl, .ill hlt hz h8 rfl rfl rfl (chg_app15 x.roles l k3 blank13 hl)⟩
end Go.Proofs.YtfaefpniiiandaaDoor

/-
  Of part AheadMem15: what is needed here.
-/
namespace Go.Proofs.YtfaefpniiiandaaDoor
open Go.RowKit
set_option linter.unusedVariables false
set_option maxRecDepth 100000
/-- another list of roles, another list of instructions -/
def rawRoles15 (q : YRaw) (A : Option Addr) (n c : Nat) : YRaw := { q with RA := A, rn := n, rc := c }
def rawIns15 (q : YRaw) (A : Option Addr) (n c : Nat) : YRaw := { q with t := rawIns q.t A n c }
def inR15 (x : LReady) (l : List LRole) : LReady := { x with roles := l }
def inI15 (x : LReady) (l : List LIn) : LReady := { x with tx := withIns x.tx l }
theorem cells_roles15 (q : YRaw) (x : LReady) (h : x.tx.m.recent.length = 32) (A : Option Addr) (n c : Nat) (l : List LRole) : (q.cells x).set 41 (.slice A n c) = (rawRoles15 q A n c).cells (inR15 x l) := by
  unfold YRaw.cells
  rw [show (41 : Nat) = 40 + 1 from rfl, List.set_cons_succ, List.set_append_right _ _ (by rw [tcells_len h]; omega), tcells_len h]
  rfl
theorem cells_ins15 (q : YRaw) (x : LReady) (h : x.tx.m.recent.length = 32) (A : Option Addr) (n c : Nat) (l : List LIn) : (q.cells x).set 39 (.slice A n c) = (rawIns15 q A n c).cells (inI15 x l) := by
  unfold YRaw.cells
  rw [show (39 : Nat) = 38 + 1 from rfl, List.set_cons_succ, List.set_append_left _ _ (by rw [tcells_len h]; omega), cells_ins q.t x.tx h]
  rfl
theorem rd_roles15 {w : World} {B : Nat} {q : YRaw} {x : LReady} {l : List LRole} (h : ReadyIn w B q x) {A : Option Addr} {n c : Nat} (hs : RolesIn w B A n l) (hc : n ≤ c ∧ c ≤ maxLen) : ReadyIn w B (rawRoles15 q A n c) (inR15 x l) := ⟨h.bs, h.bn, h.tx, hs, hc⟩
theorem rd_ins15 {w : World} {B : Nat} {q : YRaw} {x : LReady} {l : List LIn} (h : ReadyIn w B q x) {A : Option Addr} {n c : Nat} (hs : InsIn w B A n l) (hc : n ≤ c ∧ c ≤ maxLen) : ReadyIn w B (rawIns15 q A n c) (inI15 x l) := ⟨h.bs, h.bn, in_ins h.tx hs hc, h.rs, h.rn⟩
def rolC15 (L : List LRole) : List Value := (L.map LRole.cells).flatten
theorem rolC_one15 (L : List LRole) : ∀ u ∈ rolC15 L, u.oneCell' = true := fun u hu => by
  obtain ⟨c, hc, hu⟩ := List.mem_flatten.1 hu
  obtain ⟨x, _, rfl⟩ := List.mem_map.1 hc
  exact role_one x u hu
theorem rolC_snoc15 (L : List LRole) (x : LRole) : rolC15 L ++ x.cells = rolC15 (L ++ [x]) := by unfold rolC15; rw [List.map_append, List.flatten_append]; simp
theorem roles_own15 {w : World} {base c n : Nat} {A : Option Addr} {L : List LRole} (h : w.ownsRow base 62 34 (.slice A n c) n (rolC15 L)) (hn : L.length = n) (ho : ∀ x ∈ L, RoleOk x) : RolesIn w w.heap.size A n L ∧ n ≤ c ∧ c ≤ maxLen := by
  obtain ⟨A', c', e, h1, h2, h3, _⟩ := own_form2 h
  injection e with e1 _ e2
  subst e1
  subst e2
  exact ⟨⟨⟨by rw [List.length_map, hn], roles_each ho, h1⟩, ho⟩, h2, h3⟩
theorem r3_ok15 : RoleOk ⟨k3, false, false⟩ := ⟨rfl, k3_ok⟩
theorem r3_len15 : (LRole.mk k3 false false).cells.length = 34 := role_len rfl
theorem ins_own15 {w : World} {base c n : Nat} {A : Option Addr} {L : List LIn} {news : List Value} (h : w.ownsRow base 70 3 (.slice A n c) n news) (hc : InsCells w w.heap.size L news) (hn : L.length = n) : InsIn w w.heap.size A n L ∧ n ≤ c ∧ c ≤ maxLen := by
  obtain ⟨A', c', e, h1, h2, h3, _⟩ := own_form2 h
  injection e with e1 _ e2
  subst e1
  subst e2
  exact ⟨hc.in_ h1 hn, h2, h3⟩
theorem bytes_nil15 (w : World) (B : Nat) : BytesIn w B (.slice none 0 0) [] := ⟨none, 0, rfl, Sees.nil _ _ _, Nat.le_refl _, by unfold maxLen; omega⟩
theorem built_r315 : Tryd.prog.built 62 [(0, .agg (bv k3).toArray)] = some (LRole.mk k3 false false).cells.toArray := by kernel_rfl
theorem built_in15 (p : Int) (D : Option Addr) (n c : Nat) : Tryd.prog.built 70 [(0, .int .u8 p), (2, .slice D n c)] = some (inCells p (.slice none 0 0) (.slice D n c)).toArray := by kernel_rfl
theorem info_in15 : (Tryd.prog.info? 70).map (fun i => (i.zero, i.size, i.bytes)) = some (some (.agg (inCells 0 (.slice none 0 0) (.slice none 0 0)).toArray), 3, 56) := by kernel_rfl
theorem info_ac15 : (Tryd.prog.info? 59).map (fun i => (i.zero, i.size, i.bytes)) = some (some (.agg blank13.cells.toArray), 34, 48) := by kernel_rfl
/-- three that may come up -/
theorem ready15 {P : Program} {L : List Oper} {Q : Exit → Act → World → Prop} {md : Region.Mode} {S : World → Prop} {i j k : Nat} {o o' o'' : Oper} {fuel : Nat} {listed : Array Bool} {a : Act} {w : World} (ho : L[i]? = some o) (ho' : L[j]? = some o') (ho'' : L[k]? = some o'') (hr : Region.ready md L.toArray listed = [i, j, k])
    (hw : Region.wanted o (yielded L.toArray a.tmps) = true) (hw' : Region.wanted o' (yielded L.toArray a.tmps) = true) (hw'' : Region.wanted o'' (yielded L.toArray a.tmps) = true)
    (h : ∀ K' : Act → World → Prop, Shut (∀ a w, S w → wpAnyH P md L.toArray Q S fuel (listed.setIfInBounds i true) a w → K' a w) → Oper.wp P o a w K' Q)
    (h' : ∀ K' : Act → World → Prop, Shut (∀ a w, S w → wpAnyH P md L.toArray Q S fuel (listed.setIfInBounds j true) a w → K' a w) → Oper.wp P o' a w K' Q)
    (h'' : ∀ K' : Act → World → Prop, Shut (∀ a w, S w → wpAnyH P md L.toArray Q S fuel (listed.setIfInBounds k true) a w → K' a w) → Oper.wp P o'' a w K' Q) : wpAnyH P md L.toArray Q S (fuel + 1) listed a w :=
  wpAnyH_ready hr (by simp) (AllReadyH.cons (by simpa using ho) (fun K hK => by
    rw [if_pos hw]
    exact h K (fun a w hS hW => hK a w hS fun _ => hW)) (AllReadyH.cons (by simpa using ho') (fun K hK => by
    rw [if_pos hw']
    exact h' K (fun a w hS hW => hK a w hS fun _ => hW)) (AllReadyH.cons (by simpa using ho'') (fun K hK => by
    rw [if_pos hw'']
    exact h'' K (fun a w hS hW => hK a w hS fun _ => hW)) AllReadyH.nil)))
/-- that transaction, run -/
theorem run_more15 {w V : World} {B2 g2 B : Nat} {q Q : YRaw} {x : LReady} {dat : List Int} {A LA : Option Addr} {n c ln : Nat} {L : List LAcc} (f : FW15 w V B g2 q x LA ln L) (hrd : ReadyIn V B2 Q (more15 x dat)) {L' : List LAcc} (hac : AccsIn V B2 A n L') (hc : n ≤ c ∧ c ≤ maxLen) (hB : B2 ≤ V.heap.size) (hn : n ≤ 301) (hr : x.roles.length ≤ 200) (hf : Fw15 x) (hok : RdOk15 x) (hdb : AllBytes dat) (ht : TypAt w) :
    Calls Tryd.prog 13 #[.agg (Q.cells (more15 x dat)).toArray, .slice A n c] V (RunDoneC V (run15 (more15 x dat) L')) := by
  refine runC Q (more15 x dat) B2 A n c L' V hrd hac hc hB (by omega) (fun a ha => ?_) (fun a ha => ?_) hok.u ⟨?_, fun a ha => ?_⟩ (ht.below f.b ht.pos)
  · rcases List.mem_append.1 (show a ∈ x.tx.m.ins ++ [_] from ha) with ha | ha
    · exact hok.p a ha
    · obtain rfl := List.mem_singleton.1 ha
      exact ⟨by show (0 : Int) ≤ (x.roles.length : Int); omega, by show (x.roles.length : Int) < 256; omega⟩
  · rcases List.mem_append.1 (show a ∈ x.tx.m.ins ++ [_] from ha) with ha | ha
    · exact hok.ab a ha
    · obtain rfl := List.mem_singleton.1 ha
      exact ⟨fun z hz => (by cases hz), hdb⟩
  · have h1 := hrd.tx.m.ins.len
    have h2 : (x.tx.m.ins ++ [(⟨(x.roles.length : Int), [], dat⟩ : LIn)]).length = Q.t.q.n := h1
    have h3 := hf.n
    rw [List.length_append] at h2
    simp only [List.length_cons, List.length_nil] at h2
    omega
  · rcases List.mem_append.1 (show a ∈ x.tx.m.ins ++ [_] from ha) with ha | ha
    · have := (hf.acc ha).1; omega
    · obtain rfl := List.mem_singleton.1 ha
      show ([] : List Int).length ≤ _
      simp
theorem blank_ok15 : AccOk blank13 := blank_ok
theorem run_chg15 {x : LReady} {l : List LAcc} (hr : ∀ r ∈ x.roles, r.key.length = 32) (hl : ∀ a ∈ l, AccOk a) (hb : ∀ a ∈ x.tx.m.ins, AllBytes a.acc ∧ AllBytes a.dat) : (∀ y ∈ (run15 x l).1.ch, y.k.length = 32 ∧ y.a.o.length = 32) ∧ (run15 x l).1.ch.length ≤ l.length := by
  have hgo : ∀ (L : List LIn) (k : Nat) (S : S15), (∀ y ∈ S.now, AccOk y) → (∀ a ∈ L, AllBytes a.acc ∧ AllBytes a.dat) → (∀ y ∈ (go15 x L k S).2.2.now, AccOk y) ∧ (go15 x L k S).2.2.now.length = S.now.length := by
    intro L
    induction L with
    | nil => intro k S h _; exact ⟨h, rfl⟩
    | cons a r ih =>
      intro k S h hb
      have hba := hb a (List.mem_cons_self ..)
      have hst : (∀ y ∈ (step15 x k a S).2.now, AccOk y) ∧ (step15 x k a S).2.now.length = S.now.length := by
        unfold step15
        split
        · exact ⟨h, rfl⟩
        · split
          · exact ⟨h, rfl⟩
          · split
            · split
              · rename_i he
                obtain ⟨pa, pb, hwt⟩ := do_went h hba.2 hba.1 he
                exact ⟨hwt.d.ok, hwt.d.len⟩
              · exact ⟨h, rfl⟩
            · split
              · exact ⟨h, rfl⟩
              · exact ⟨h, rfl⟩
      unfold go15
      split
      · obtain ⟨h1, h2⟩ := ih (k + 1) _ hst.1 (fun b hb2 => hb b (List.mem_cons_of_mem _ hb2))
        exact ⟨h1, h2.trans hst.2⟩
      · exact hst
  obtain ⟨g1, g2⟩ := hgo x.tx.m.ins 0 ⟨l, 0, 0⟩ hl hb
  unfold run15
  split
  · exact ⟨fun y hy => (by cases hy), Nat.zero_le _⟩
  split
  · exact ⟨fun y hy => (by cases hy), Nat.zero_le _⟩
  split
  · exact ⟨chg_ok15 _ _ hr fun a ha => (g1 a ha).o.1, Nat.le_trans (chg_len15 _ _) (Nat.le_of_eq g2)⟩
  · exact ⟨chg_ok15 _ _ hr fun a ha => (hl a ha).o.1, chg_len15 _ _⟩
end Go.Proofs.YtfaefpniiiandaaDoor
