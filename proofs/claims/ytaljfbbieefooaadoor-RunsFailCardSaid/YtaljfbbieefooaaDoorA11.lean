/-
  Parts joined: Lives15 Great15 FailMath15 FailWalk15 Use15.
-/
import Derived.Below
import Derived.Laws.OwnMore
import Derived.Deep.AppendLies
import Derived.Deep.Draws
import Derived.Lib.Hide
import Derived.Laws.MakeOwn
import Derived.Laws.CopyOwn
import Derived.Laws.Rows
import Derived.Laws.BitsAllLaws
import Derived.WalkKit
import Derived.Test.YtaljfbbieefooaaDoorRows
import Derived.WalkSpells
import Derived.WalkLawsBesides
import Derived.IntWalk
import Derived.Deep.MidRow
import Derived.Deep.WholeRow
import Derived.Maps.AppendAt
import Derived.OwnWalk
import Derived.Great.BuildSlice
import Derived.Recover
import Derived.Deep.RegionHeld
import Derived.Deep.QuietTactic
import Derived.BigQuiet
import Derived.ChangeKeysEq
import Derived.Deep.RegionHeld2
import Derived.Deep.CutBlock
import Derived.Laws.Tables
import Derived.ProofKit
import Derived.OpenShut
import Derived.ShutString
import Derived.ChangeOld
import Derived.Lib.SmallJoins
import Derived.Deep.Slices
import Derived.Deep.Strs
import Derived.SizedLaws
import Derived.Laws.StructEq
import Derived.Laws.Slices
import Derived.Deep.DeepCutAuto
import Derived.Maps.OwnSet
import Derived.DeepKeys4
import Derived.WideKeyArr
import Derived.Laws.EntriesVeiled
import Derived.Deep.RegionHeld3
import Derived.WideKeyEntry
import Derived.WalkMore
import Derived.Shelf.SlMaps.Clone
import Derived.Laws.Append
import Derived.Laws.AppendOwn
import Derived.LaidMore
import Derived.Maps.OwnOps
import Derived.Maps.RangeWalk
import Derived.Laws.BytesArg
import Derived.Laws.Strings
import Derived.Lib.Strings
import Derived.Great.Walk
import Derived.Laws.Bits64b
import Derived.Laws.Externs
import Derived.LaidHandle
import Derived.LaidLaws
import Derived.LaidEql
import Derived.Stop.Asserts
import Derived.RowKitTokens
import Derived.Test.YtaljfbbieefooaaDoorA1
import Derived.Test.YtaljfbbieefooaaDoorA2
import Derived.Test.YtaljfbbieefooaaDoorA3
import Derived.Test.YtaljfbbieefooaaDoorA4
import Derived.Test.YtaljfbbieefooaaDoorA5
import Derived.Test.YtaljfbbieefooaaDoorA6
import Derived.Test.YtaljfbbieefooaaDoorA7
import Derived.Test.YtaljfbbieefooaaDoorA8
import Derived.Test.YtaljfbbieefooaaDoorA9
import Derived.Test.YtaljfbbieefooaaDoorA10
/-
  Of part Lives15: what is needed here.
-/
namespace Go.Proofs.YtaljfbbieefooaaDoor
open Go.RowKit
set_option linter.unusedVariables false
set_option maxRecDepth 100000
def ac15x (c : Int) : LAcc := ⟨c, k0, 0⟩
theorem ac_ok15x {c : Int} (h : 0 ≤ c ∧ c < 18446744073709551616) : AccOk (ac15x c) := ⟨h, k0_key15, by show (0 : Int) ≤ 0 ∧ (0 : Int) < 18446744073709551616; decide⟩
theorem built_ac15 (c : Int) : Tryd.prog.built 59 [(0, .int .u64 c)] = some (ac15x c).cells.toArray := by kernel_rfl
def st15x : List LHold := [⟨kx15 8, ac15x 20000⟩]
def l15x : List LAcc := [ac15x 15000, blank13, blank13]
def h15a : LHold := ⟨kx15 8, ac15x 14800⟩
def h15b : LHold := ⟨kx15 9, ac15x 200⟩
def o15x : LOut := ⟨0, -1, 150, 5000, 0, [h15a, h15b]⟩
theorem put15x : putH [] (kx15 8) (ac15x 20000) = st15x := by kernel_rfl
theorem pay15x : pay15 st15x rd15x = true := by kernel_rfl
theorem load15x : load15 st15x rd15x = l15x := by kernel_rfl
theorem run15x : run15 rd15x l15x = (o15x, 0) := by kernel_rfl
theorem hold_eql15 {x y : LHold} (hkx : x.k.length = 32) (hky : y.k.length = 32) (hx : x.a.o.length = 32) (hy : y.a.o.length = 32) (w : World) : (binOp .eql 64 (.agg x.cells.toArray) (.agg y.cells.toArray)).run Tryd.prog w = .ok (.bool (decide (x = y))) w := by
  rw [run_eql_struct, hold_eq0 hkx hky hx hy w _ rfl]
  rfl
theorem built_h15a : Tryd.prog.built 64 [(0, .agg (bv (kx15 8)).toArray), (1, .agg (ac15x 14800).cells.toArray)] = some h15a.cells.toArray := built_hold15 rfl rfl
theorem built_h15b : Tryd.prog.built 64 [(0, .agg (bv (kx15 9)).toArray), (1, .agg (ac15x 200).cells.toArray)] = some h15b.cells.toArray := built_hold15 rfl rfl
/-- what is there on the way -/
structure LX15 (w V : World) (g1 g2 : Nat) : Prop where
  b : Below w.heap.size w V
  r1 : Row V g1 57 (bv (kx15 8))
  r2 : Row V g2 57 (bv (kx15 9))
  lo : w.heap.size ≤ g1 ∧ w.heap.size ≤ g2
theorem LX15.below {w V V' : World} {g1 g2 : Nat} (m : LX15 w V g1 g2) (hb : Below V.heap.size V V') : LX15 w V' g1 g2 := ⟨m.b.trans (hb.mono m.b.size), m.r1.below hb m.r1.lt, m.r2.below hb m.r2.lt, m.lo⟩
theorem grown_below15 {w V V' : World} {mb : Nat} (hg : V.grownBy V' (some mb)) (hb : Below w.heap.size w V) (hm : w.heap.size ≤ mb) : Below w.heap.size w V' := hb.grown hg hb.size (fun k hk => by cases hk; exact hm)
theorem LX15.grown {w V V' : World} {g1 g2 mb : Nat} (m : LX15 w V g1 g2) (hg : V.grownBy V' (some mb)) (hm : w.heap.size ≤ mb) (h1 : g1 ≠ mb) (h2 : g2 ≠ mb) : LX15 w V' g1 g2 :=
  ⟨grown_below15 hg m.b hm, m.r1.grown hg (fun e => h1 (by injection e)), m.r2.grown hg (fun e => h2 (by injection e)), m.lo⟩
/-- the outcome's holdings, where they lie -/
theorem chg_at15 {w : World} {base c : Nat} {A : Option Addr} {L : List LHold} (h : w.ownsRow base 64 66 (.slice A L.length c) L.length (holC L)) (ho : ∀ x ∈ L, x.cells.length = 66) {k : Nat} {x : LHold} (hk : L[k]? = some x) : ∃ a, A = some a ∧ a.block < w.heap.size ∧ ∀ j u, x.cells[j]? = some u → w.cell? ((a.add (k * 66)).add j) = some u := by
  obtain ⟨A', c', e, h2, _⟩ := own_form2 h
  injection e with e _ _
  subst e
  have hcs : CsIn 66 w w.heap.size A L.length (L.map LHold.cells) := ⟨by rw [List.length_map], fun k hk => by obtain ⟨y, hy, rfl⟩ := List.mem_map.1 hk; exact ho y hy, h2⟩
  obtain ⟨a, y, e, hb, hy, _, hc⟩ := hcs.get (k := k) (List.getElem?_eq_some_iff.1 hk).1 (by omega)
  rw [List.getElem?_map, hk] at hy
  injection hy with hy
  subst hy
  exact ⟨a, e, hb, hc⟩
theorem acc_in15 {w : World} {base g cap n : Nat} {rest : List Value} {out : List LAcc} (h : OutAt w base g cap n rest out) : AccsIn w w.heap.size (some ⟨g, 0, none⟩) n out := h.done.accs h.len.symm
set_option maxHeartbeats 16000000 in
theorem lives15 (w : World) (htw : TypAt w) : Calls Tryd.prog 8 #[] w fun e w' => e = .returned (.bool true) ∧ Below w.heap.size w w' := by
  have HT := Lib.hid htw
  have HA := Lib.hid built_ac15
  have HKN := Lib.hid built_kx8
  have HKM := Lib.hid built_kx9
  have HNB : Hid (∀ w, (binOp .neq 59 (.agg blank13.cells.toArray) (.agg blank13.cells.toArray)).run Tryd.prog w = .ok (.bool false) w) := Lib.hid fun w => by rw [acc_neq rfl rfl, decide_eq_true rfl]; rfl
  have HEA : Hid (∀ w, (binOp .eql 64 (.agg h15a.cells.toArray) (.agg h15a.cells.toArray)).run Tryd.prog w = .ok (.bool true) w) := Lib.hid fun w => by rw [hold_eql15 rfl rfl rfl rfl, decide_eq_true rfl]
  have HEB : Hid (∀ w, (binOp .eql 64 (.agg h15b.cells.toArray) (.agg h15b.cells.toArray)).run Tryd.prog w = .ok (.bool true) w) := Lib.hid fun w => by rw [hold_eql15 rfl rfl rfl rfl, decide_eq_true rfl]
  have HPAY := Lib.hid pay15x
  have HLOD := Lib.hid load15x
  have HRUN := Lib.hid run15x
  have HPUT := Lib.hid put15x
  clear htw
  go_enter Tryd.func8, Tryd.ntmps8
  go_upto_region 2 with (first
    | ((with_reducible show wpList _ _ _ ({ dst := some 9, op := Op.build _ _, type := _, pos := _, after := _, guard := _ } :: _) _ _); go_must (refine wpList_plain rfl fun K hK => wp_built _ _ _ rfl (by simp only [List.map_toArray, List.map_cons, List.map_nil]; exact HKN.out) (hK _ _ ?_)))
    | ((with_reducible show wpList _ _ _ ({ dst := none, op := Op.store 57 _ _, type := _, pos := _, after := _, guard := _ } :: _) _ _); go_must (refine wpList_store_new rfl 57 (.tmp 1) (.tmp 9) rfl (bv (kx15 8)) (by kernel_rfl) (bv_one _) rfl ?_ ?_ ?_; go_simp; go_simp; intro w1 hr1 hb1 hz1)))
  have R1 := Lib.hid hr1
  have B1 := Lib.hid hb1
  obtain ⟨g1, hg1⟩ : ∃ g, g = w.heap.size := ⟨_, rfl⟩
  rw [← hg1] at R1 ⊢
  have HG1 : Hid (w.heap.size ≤ g1) := Lib.hid (by omega)
  clear hr1 hb1 hz1 hg1
  go_upto_region 3 with (first
    | ((with_reducible show wpList _ _ _ ({ dst := some 10, op := Op.build _ _, type := _, pos := _, after := _, guard := _ } :: _) _ _); go_must (refine wpList_plain rfl fun K hK => wp_built _ _ _ rfl (by simp only [List.map_toArray, List.map_cons, List.map_nil]; exact HKM.out) (hK _ _ ?_)))
    | ((with_reducible show wpList _ _ _ ({ dst := none, op := Op.store 57 _ _, type := _, pos := _, after := _, guard := _ } :: _) _ _); go_must (refine wpList_store_new rfl 57 (.tmp 2) (.tmp 10) rfl (bv (kx15 9)) (by kernel_rfl) (bv_one _) rfl ?_ ?_ ?_; go_simp; go_simp; intro w2 hr2 hb2 hz2)))
  have R2 := Lib.hid hr2
  have HX0 : Hid (Below w1.heap.size w1 w2) := Lib.hid hb2
  obtain ⟨g2, hg2⟩ : ∃ g, g = w1.heap.size := ⟨_, rfl⟩
  rw [← hg2] at R2 ⊢
  have X2 : Hid (LX15 w w2 g1 g2) := Lib.hid ⟨B1.out.trans (HX0.out.mono B1.out.size), R1.out.below HX0.out R1.out.lt, R2.out, HG1.out, by rw [hg2]; exact B1.out.size⟩
  clear hr2 hb2 hz2 hg2 HX0 R1 R2 B1 HG1
  go_wp2_with fail
  refine (new13 w2).mono ?_
  rintro e w3 ⟨sb, mb, rfl, hst, hsl, hml, hb3⟩
  have X3 := Lib.hid (X2.out.below hb3)
  have HML : Hid (w.heap.size ≤ mb ∧ g1 ≠ mb ∧ g2 ≠ mb) := Lib.hid (by have h1 := X2.out.r1.lt; have h2 := X2.out.r2.lt; have h3 := X2.out.b.size; omega)
  have S3 := Lib.hid hst
  clear hst hsl hml hb3 X2
  go_wp2_with (first
    | ((with_reducible show wpList _ _ _ ({ dst := some 13, op := Op.load _ _, type := _, pos := _, after := _, guard := _ } :: _) _ _); go_must (refine wpList_load_whole rfl 57 (.tmp 1) rfl g1 _ (bv (kx15 8)) _ Tryd.underlying57 rfl (by kernel_rfl) X3.out.r1 ?_ ?_; go_simp))
    | ((with_reducible show wpList _ _ _ ({ dst := some 14, op := Op.build _ _, type := _, pos := _, after := _, guard := _ } :: _) _ _); go_must (refine wpList_plain rfl fun K hK => wp_built _ _ _ rfl (by simp only [List.map_toArray, List.map_cons, List.map_nil]; exact HA.out 20000) (hK _ _ ?_)))
    | fail)
  refine (put13 sb mb [] (kx15 8) (ac15x 20000) w3 S3.out (kx_ok15 (by omega)) (ac_ok15x (by omega)) (by simp)).mono ?_
  rintro e w4 ⟨rfl, hst, hg4⟩
  rw [HPUT.out] at hst
  have S4 := Lib.hid hst
  have X4 := Lib.hid (X3.out.grown hg4 HML.out.1 HML.out.2.1 HML.out.2.2)
  clear hst hg4 X3 S3 HML HPUT
  go_wp2_with (first
    | ((with_reducible show wpList _ _ _ ({ dst := some 16, op := Op.load _ _, type := _, pos := _, after := _, guard := _ } :: _) _ _); go_must (refine wpList_load_whole rfl 57 (.tmp 1) rfl g1 _ (bv (kx15 8)) _ Tryd.underlying57 rfl (by kernel_rfl) X4.out.r1 ?_ ?_; go_simp))
    | ((with_reducible show wpList _ _ _ ({ dst := some 17, op := Op.load _ _, type := _, pos := _, after := _, guard := _ } :: _) _ _); go_must (refine wpList_load_whole rfl 57 (.tmp 2) rfl g2 _ (bv (kx15 9)) _ Tryd.underlying57 rfl (by kernel_rfl) X4.out.r2 ?_ ?_; go_simp))
    | fail)
  refine (move15 w4).mono ?_
  rintro e w5 ⟨gi, gr, rfl, hrd, hb5⟩
  have RD5 := Lib.hid hrd
  have X5 := Lib.hid (X4.out.below hb5)
  have S5 := Lib.hid (S4.out.below hb5)
  clear hrd hb5 X4 S4
  go_upto_region 6 with (first
    | ((with_reducible show wpList _ _ _ ({ dst := some 4, op := Op.alloc _, type := _, pos := _, after := _, guard := _ } :: _) _ _); go_must (refine wpList_alloc_zero rfl 41 rfl zrdC zero_rdx ?_))
    | ((with_reducible show wpList _ _ _ ({ dst := none, op := Op.store 41 _ _, type := _, pos := _, after := _, guard := _ } :: _) _ _); go_must (refine wpList_store_new rfl 41 (.tmp 4) (.tmp 18) rfl ((q15x gi gr).cells rd15x) (size_rdx _ _) (one_rdx _ _) rfl ?_ ?_ ?_; go_simp; go_simp; intro w6 hr6 hb6 hz6)))
  have R6 := Lib.hid hr6
  have X6 := Lib.hid (X5.out.below hb6)
  have S6 := Lib.hid (S5.out.below hb6)
  have RD6 := Lib.hid ((RD5.out.below hb6).more hb6.size)
  obtain ⟨g4, hg4⟩ : ∃ g, g = w5.heap.size := ⟨_, rfl⟩
  rw [← hg4] at R6 ⊢
  clear hr6 hb6 hz6 hg4 X5 S5 RD5
  go_wp2_with (first
    | ((with_reducible show wpList _ _ _ ({ dst := some 21, op := Op.load _ _, type := _, pos := _, after := _, guard := _ } :: _) _ _); go_must (refine wpList_load_whole rfl 41 (.tmp 4) rfl g4 _ ((q15x gi gr).cells rd15x) _ Tryd.underlying41 rfl (by kernel_rfl) R6.out ?_ ?_; go_simp))
    | fail)
  refine (loadC sb mb st15x (q15x gi gr) rd15x w6.heap.size w6 S6.out RD6.out (Nat.le_refl _) (by simp [q15x]) (fun r hr => (ro_ok15x r hr).2) (by decide)).mono ?_
  rintro e w7 ⟨hb7, hcs⟩
  rw [HPAY.out, HLOD.out] at hcs
  rcases hcs with ⟨h, _⟩ | ⟨_, gl, cap, rest, rfl, hol⟩
  · cases h
  have X7 := Lib.hid (X6.out.below hb7)
  have R7 := Lib.hid (R6.out.below hb7 R6.out.lt)
  have RD7 := Lib.hid (RD6.out.below hb7)
  have OL := Lib.hid hol
  have HL67 := Lib.hid hb7.size
  clear hol hb7 X6 R6 S6 RD6 HPAY HLOD
  have a0 : w7.cell? ⟨gl, 0, none⟩ = some (.int .u64 15000) := by have := OL.out.cell (k := 0) (by decide) (j := 0) (u := .int .u64 15000) rfl; simpa using this
  have HA1 : Hid (∀ j u, blank13.cells[j]? = some u → w7.cell? ⟨gl, 34 + j, none⟩ = some u) := Lib.hid fun j u hu => by have := OL.out.cell (k := 1) (by decide) (j := j) (u := u) hu; simpa using this
  have hnb := HNB.out
  have h3 : rd15x.roles.length = 3 := rfl
  rw [h3]
  go_upto_region 9 with (first
    | ((with_reducible show wpList _ _ _ ({ dst := some 42, op := Op.load _ _, type := _, pos := _, after := _, guard := _ } :: _) _ _); go_must (refine wpList_load_atg (by kernel_rfl) 59 (.tmp 41) rfl ⟨gl, 34, none⟩ blank13.cells _ Tryd.underlying59 rfl (by kernel_rfl) (fun j v hv => by rw [addr_row]; exact HA1.out j v hv) ?_ ?_; go_simp))
    | ((with_reducible show wpList _ _ _ ({ dst := some 43, op := Op.build _ _, type := _, pos := _, after := _, guard := _ } :: _) _ _); go_must (refine BigFrame.wpList_want (by kernel_rfl) fun K hK => wp_built _ _ _ rfl (by simp only [List.map_toArray, List.map_nil]; exact built_blank) (hK _ _ ?_))))
  clear a0 hnb HA1 h3
  have HRC := Lib.hid (runC (q15x gi gr) rd15x w7.heap.size (some ⟨gl, 0, none⟩) 3 3 l15x w7 (RD7.out.more HL67.out) (acc_in15 OL.out) ⟨Nat.le_refl _, by unfold maxLen; omega⟩ (Nat.le_refl _) (by omega) (fun a ha => by obtain rfl := List.mem_singleton.1 ha; exact ⟨by decide, by decide⟩) (fun a ha => by obtain rfl := List.mem_singleton.1 ha; exact ⟨acc_ok15x, dat_ok15x⟩) (by decide) ⟨by simp [q15x], fun a ha => by obtain rfl := List.mem_singleton.1 ha; decide⟩ (HT.out.below X7.out.b HT.out.pos))
  rw [HRUN.out] at HRC
  clear HRUN OL RD7 HL67
  go_wp2_with (first
    | ((with_reducible show wpList _ _ _ ({ dst := some 47, op := Op.load _ _, type := _, pos := _, after := _, guard := _ } :: _) _ _); go_must (refine wpList_load_whole rfl 41 (.tmp 4) rfl g4 _ ((q15x gi gr).cells rd15x) _ Tryd.underlying41 rfl (by kernel_rfl) R7.out ?_ ?_; go_simp))
    | fail)
  refine HRC.out.mono ?_
  rintro e w8 ⟨A8, c8, rfl, ho8, hb8⟩
  have X8 := Lib.hid (X7.out.below hb8)
  have HO8 := Lib.hid ho8
  clear ho8 hb8 X7 R7 HRC
  go_upto_region 10 with (first
    | ((with_reducible show wpList _ _ _ ({ dst := some 7, op := Op.alloc _, type := _, pos := _, after := _, guard := _ } :: _) _ _); go_must (refine wpList_alloc_zero rfl 54 rfl (out0.cells (.slice none 0 0)) zero_out15 ?_))
    | ((with_reducible show wpList _ _ _ ({ dst := none, op := Op.store 54 _ _, type := _, pos := _, after := _, guard := _ } :: _) _ _); go_must (refine wpList_store_new rfl 54 (.tmp 7) (.tmp 50) rfl (o15x.cells (.slice A8 o15x.ch.length o15x.ch.length)) (size_out15 _ _) (out_one15 _ rfl) rfl ?_ ?_ ?_; go_simp; go_simp; intro w9 hr9 hb9 hz9)))
  have R9 := Lib.hid hr9
  have X9 := Lib.hid (X8.out.below hb9)
  have HO9 := Lib.hid (own_below HO8.out hb9)
  obtain ⟨g7, hg7⟩ : ∃ g, g = w8.heap.size := ⟨_, rfl⟩
  rw [← hg7] at R9 ⊢
  clear hr9 hb9 hz9 hg7 X8 HO8
  obtain ⟨a8, rfl, hab, hac⟩ := chg_at15 HO9.out (fun x hx => by simp only [o15x, List.mem_cons, List.not_mem_nil, or_false] at hx; rcases hx with rfl | rfl <;> rfl) (k := 0) (x := h15a) rfl
  obtain ⟨a8', e8, _, hbc⟩ := chg_at15 HO9.out (fun x hx => by simp only [o15x, List.mem_cons, List.not_mem_nil, or_false] at hx; rcases hx with rfl | rfl <;> rfl) (k := 1) (x := h15b) rfl
  obtain rfl : a8 = a8' := by injection e8
  have HAB := Lib.hid hab
  have HAC := Lib.hid hac
  have HBC := Lib.hid hbc
  have HOL2 : Hid (o15x.ch.length = 2) := Lib.hid rfl
  clear hab hac hbc e8 HO9
  have SF := Lib.hid (show Below w9.heap.size w9 w9.drew from (Below.refl w9.heap.size w9).drew)
  refine wp_region_held_drew (S := fun V => Below w9.heap.size w9 V) (by kernel_rfl) SF.out (fun _ => ?_)
  try dsimp only [List.append]
  generalize w9.drew = wd at *
  refine takeL (i := 0) (v := ?_) rfl (by kernel_rfl) (by kernel_rfl) (by kernel_rfl) (fun _ _ _ h => h) (Or.inl ⟨by rfl, ?_⟩) SF.out ?_
  rotate_left
  · intro w hw
    try dsimp only at hw
    go_simp
    try with_reducible rfl
  try simp only [Act.put, List.setIfInBounds_toArray, List.set_cons_zero, List.set_cons_succ]
  refine takeL (i := 1) (v := ?_) rfl (by kernel_rfl) (by kernel_rfl) (by kernel_rfl) (fun _ _ _ h => h) (Or.inl ⟨by rfl, ?_⟩) SF.out ?_
  rotate_left
  · intro w hw
    try dsimp only at hw
    go_simp
    try with_reducible rfl
  try simp only [Act.put, List.setIfInBounds_toArray, List.set_cons_zero, List.set_cons_succ]
  refine takeL (i := 2) (v := ?_) rfl (by kernel_rfl) (by kernel_rfl) (by kernel_rfl) (fun _ _ _ h => h) (Or.inl ⟨by rfl, ?_⟩) SF.out ?_
  rotate_left
  · intro w hw
    try dsimp only at hw
    go_simp
    try with_reducible rfl
  try simp only [Act.put, List.setIfInBounds_toArray, List.set_cons_zero, List.set_cons_succ]
  refine takeL (i := 3) (v := ?_) rfl (by kernel_rfl) (by kernel_rfl) (by kernel_rfl) (fun _ _ _ h => h) (Or.inl ⟨by rfl, ?_⟩) SF.out ?_
  rotate_left
  · intro w hw
    try dsimp only at hw
    go_simp
    try with_reducible rfl
  try simp only [Act.put, List.setIfInBounds_toArray, List.set_cons_zero, List.set_cons_succ]
  refine takeL (i := 4) (v := ?_) rfl (by kernel_rfl) (by kernel_rfl) (by kernel_rfl) (fun _ _ _ h => h) (Or.inl ⟨by rfl, ?_⟩) SF.out ?_
  rotate_left
  · intro w hw
    try dsimp only at hw
    have oc : w.cell? ⟨g7, 0, none⟩ = some (.int .i64 0) := (hw.cell (p := ⟨g7, 0, none⟩) R9.out.lt).trans (R9.out.cell 0)
    go_simp
    try with_reducible rfl
  try simp only [Act.put, List.setIfInBounds_toArray, List.set_cons_zero, List.set_cons_succ]
  refine takeL (i := 5) (v := ?_) rfl (by kernel_rfl) (by kernel_rfl) (by kernel_rfl) (fun _ _ _ h => h) (Or.inl ⟨by rfl, ?_⟩) SF.out ?_
  rotate_left
  · intro w hw
    try dsimp only at hw
    go_simp
    try with_reducible rfl
  try simp only [Act.put, List.setIfInBounds_toArray, List.set_cons_zero, List.set_cons_succ]
  refine takeL (i := 6) (v := ?_) rfl (by kernel_rfl) (by kernel_rfl) (by kernel_rfl) (fun _ _ _ h => h) (Or.inl ⟨by rfl, ?_⟩) SF.out ?_
  rotate_left
  · intro w hw
    try dsimp only at hw
    go_simp
    try with_reducible rfl
  try simp only [Act.put, List.setIfInBounds_toArray, List.set_cons_zero, List.set_cons_succ]
  refine takeL (i := 7) (v := ?_) rfl (by kernel_rfl) (by kernel_rfl) (by kernel_rfl) (fun _ _ _ h => h) (Or.inl ⟨by rfl, ?_⟩) SF.out ?_
  rotate_left
  · intro w hw
    try dsimp only at hw
    go_simp
    try with_reducible rfl
  try simp only [Act.put, List.setIfInBounds_toArray, List.set_cons_zero, List.set_cons_succ]
  refine takeL (i := 8) (v := ?_) rfl (by kernel_rfl) (by kernel_rfl) (by kernel_rfl) (fun _ _ _ h => h) (Or.inl ⟨by rfl, ?_⟩) SF.out ?_
  rotate_left
  · intro w hw
    try dsimp only at hw
    go_simp
    try with_reducible rfl
  try simp only [Act.put, List.setIfInBounds_toArray, List.set_cons_zero, List.set_cons_succ]
  refine takeL (i := 9) (v := ?_) rfl (by kernel_rfl) (by kernel_rfl) (by kernel_rfl) (fun _ _ _ h => h) (Or.inl ⟨by rfl, ?_⟩) SF.out ?_
  rotate_left
  · intro w hw
    try dsimp only at hw
    have oc : w.cell? ⟨g7, 1, none⟩ = some (.int .i64 (-1)) := (hw.cell (p := ⟨g7, 1, none⟩) R9.out.lt).trans (R9.out.cell 1)
    go_simp
    try with_reducible rfl
  try simp only [Act.put, List.setIfInBounds_toArray, List.set_cons_zero, List.set_cons_succ]
  refine takeL (i := 10) (v := ?_) rfl (by kernel_rfl) (by kernel_rfl) (by kernel_rfl) (fun _ _ _ h => h) (Or.inl ⟨by rfl, ?_⟩) SF.out ?_
  rotate_left
  · intro w hw
    try dsimp only at hw
    go_simp
    try with_reducible rfl
  try simp only [Act.put, List.setIfInBounds_toArray, List.set_cons_zero, List.set_cons_succ]
  refine takeL (i := 11) (v := ?_) rfl (by kernel_rfl) (by kernel_rfl) (by kernel_rfl) (fun _ _ _ h => h) (Or.inl ⟨by rfl, ?_⟩) SF.out ?_
  rotate_left
  · intro w hw
    try dsimp only at hw
    go_simp
    try with_reducible rfl
  try simp only [Act.put, List.setIfInBounds_toArray, List.set_cons_zero, List.set_cons_succ]
  refine takeL (i := 12) (v := ?_) rfl (by kernel_rfl) (by kernel_rfl) (by kernel_rfl) (fun _ _ _ h => h) (Or.inl ⟨by rfl, ?_⟩) SF.out ?_
  rotate_left
  · intro w hw
    try dsimp only at hw
    go_simp
    try with_reducible rfl
  try simp only [Act.put, List.setIfInBounds_toArray, List.set_cons_zero, List.set_cons_succ]
  refine takeL (i := 13) (v := ?_) rfl (by kernel_rfl) (by kernel_rfl) (by kernel_rfl) (fun _ _ _ h => h) (Or.inl ⟨by rfl, ?_⟩) SF.out ?_
  rotate_left
  · intro w hw
    try dsimp only at hw
    go_simp
    try with_reducible rfl
  try simp only [Act.put, List.setIfInBounds_toArray, List.set_cons_zero, List.set_cons_succ]
  refine takeL (i := 14) (v := ?_) rfl (by kernel_rfl) (by kernel_rfl) (by kernel_rfl) (fun _ _ _ h => h) (Or.inl ⟨by rfl, ?_⟩) SF.out ?_
  rotate_left
  · intro w hw
    try dsimp only at hw
    have oc : w.cell? ⟨g7, 2, none⟩ = some (.int .u64 150) := (hw.cell (p := ⟨g7, 2, none⟩) R9.out.lt).trans (R9.out.cell 2)
    go_simp
    try with_reducible rfl
  try simp only [Act.put, List.setIfInBounds_toArray, List.set_cons_zero, List.set_cons_succ]
  refine takeL (i := 15) (v := ?_) rfl (by kernel_rfl) (by kernel_rfl) (by kernel_rfl) (fun _ _ _ h => h) (Or.inl ⟨by rfl, ?_⟩) SF.out ?_
  rotate_left
  · intro w hw
    try dsimp only at hw
    go_simp
    try with_reducible rfl
  try simp only [Act.put, List.setIfInBounds_toArray, List.set_cons_zero, List.set_cons_succ]
  refine takeL (i := 16) (v := ?_) rfl (by kernel_rfl) (by kernel_rfl) (by kernel_rfl) (fun _ _ _ h => h) (Or.inl ⟨by rfl, ?_⟩) SF.out ?_
  rotate_left
  · intro w hw
    try dsimp only at hw
    go_simp
    try with_reducible rfl
  try simp only [Act.put, List.setIfInBounds_toArray, List.set_cons_zero, List.set_cons_succ]
  refine takeL (i := 17) (v := ?_) rfl (by kernel_rfl) (by kernel_rfl) (by kernel_rfl) (fun _ _ _ h => h) (Or.inl ⟨by rfl, ?_⟩) SF.out ?_
  rotate_left
  · intro w hw
    try dsimp only at hw
    go_simp
    try with_reducible rfl
  try simp only [Act.put, List.setIfInBounds_toArray, List.set_cons_zero, List.set_cons_succ]
  refine takeL (i := 18) (v := ?_) rfl (by kernel_rfl) (by kernel_rfl) (by kernel_rfl) (fun _ _ _ h => h) (Or.inl ⟨by rfl, ?_⟩) SF.out ?_
  rotate_left
  · intro w hw
    try dsimp only at hw
    go_simp
    try with_reducible rfl
  try simp only [Act.put, List.setIfInBounds_toArray, List.set_cons_zero, List.set_cons_succ]
  refine takeL (i := 19) (v := ?_) rfl (by kernel_rfl) (by kernel_rfl) (by kernel_rfl) (fun _ _ _ h => h) (Or.inl ⟨by rfl, ?_⟩) SF.out ?_
  rotate_left
  · intro w hw
    try dsimp only at hw
    have oc : w.cell? ⟨g7, 3, none⟩ = some (.int .u64 5000) := (hw.cell (p := ⟨g7, 3, none⟩) R9.out.lt).trans (R9.out.cell 3)
    go_simp
    try with_reducible rfl
  try simp only [Act.put, List.setIfInBounds_toArray, List.set_cons_zero, List.set_cons_succ]
  refine takeL (i := 20) (v := ?_) rfl (by kernel_rfl) (by kernel_rfl) (by kernel_rfl) (fun _ _ _ h => h) (Or.inl ⟨by rfl, ?_⟩) SF.out ?_
  rotate_left
  · intro w hw
    try dsimp only at hw
    go_simp
    try with_reducible rfl
  try simp only [Act.put, List.setIfInBounds_toArray, List.set_cons_zero, List.set_cons_succ]
  refine takeL (i := 21) (v := ?_) rfl (by kernel_rfl) (by kernel_rfl) (by kernel_rfl) (fun _ _ _ h => h) (Or.inl ⟨by rfl, ?_⟩) SF.out ?_
  rotate_left
  · intro w hw
    try dsimp only at hw
    go_simp
    try with_reducible rfl
  try simp only [Act.put, List.setIfInBounds_toArray, List.set_cons_zero, List.set_cons_succ]
  refine takeL (i := 22) (v := ?_) rfl (by kernel_rfl) (by kernel_rfl) (by kernel_rfl) (fun _ _ _ h => h) (Or.inl ⟨by rfl, ?_⟩) SF.out ?_
  rotate_left
  · intro w hw
    try dsimp only at hw
    go_simp
    try with_reducible rfl
  try simp only [Act.put, List.setIfInBounds_toArray, List.set_cons_zero, List.set_cons_succ]
  refine takeL (i := 23) (v := ?_) rfl (by kernel_rfl) (by kernel_rfl) (by kernel_rfl) (fun _ _ _ h => h) (Or.inl ⟨by rfl, ?_⟩) SF.out ?_
  rotate_left
  · intro w hw
    try dsimp only at hw
    go_simp
    try with_reducible rfl
  try simp only [Act.put, List.setIfInBounds_toArray, List.set_cons_zero, List.set_cons_succ]
  refine takeL (i := 24) (v := ?_) rfl (by kernel_rfl) (by kernel_rfl) (by kernel_rfl) (fun _ _ _ h => h) (Or.inl ⟨by rfl, ?_⟩) SF.out ?_
  rotate_left
  · intro w hw
    try dsimp only at hw
    have oc : w.cell? ⟨g7, 4, none⟩ = some (.int .u64 0) := (hw.cell (p := ⟨g7, 4, none⟩) R9.out.lt).trans (R9.out.cell 4)
    go_simp
    try with_reducible rfl
  try simp only [Act.put, List.setIfInBounds_toArray, List.set_cons_zero, List.set_cons_succ]
  refine takeL (i := 25) (v := ?_) rfl (by kernel_rfl) (by kernel_rfl) (by kernel_rfl) (fun _ _ _ h => h) (Or.inl ⟨by rfl, ?_⟩) SF.out ?_
  rotate_left
  · intro w hw
    try dsimp only at hw
    go_simp
    try with_reducible rfl
  try simp only [Act.put, List.setIfInBounds_toArray, List.set_cons_zero, List.set_cons_succ]
  refine takeL (i := 26) (v := ?_) rfl (by kernel_rfl) (by kernel_rfl) (by kernel_rfl) (fun _ _ _ h => h) (Or.inl ⟨by rfl, ?_⟩) SF.out ?_
  rotate_left
  · intro w hw
    try dsimp only at hw
    go_simp
    try with_reducible rfl
  try simp only [Act.put, List.setIfInBounds_toArray, List.set_cons_zero, List.set_cons_succ]
  refine takeL (i := 27) (v := ?_) rfl (by kernel_rfl) (by kernel_rfl) (by kernel_rfl) (fun _ _ _ h => h) (Or.inl ⟨by rfl, ?_⟩) SF.out ?_
  rotate_left
  · intro w hw
    try dsimp only at hw
    go_simp
    try with_reducible rfl
  try simp only [Act.put, List.setIfInBounds_toArray, List.set_cons_zero, List.set_cons_succ]
  refine takeL (i := 28) (v := ?_) rfl (by kernel_rfl) (by kernel_rfl) (by kernel_rfl) (fun _ _ _ h => h) (Or.inl ⟨by rfl, ?_⟩) SF.out ?_
  rotate_left
  · intro w hw
    try dsimp only at hw
    go_simp
    try with_reducible rfl
  try simp only [Act.put, List.setIfInBounds_toArray, List.set_cons_zero, List.set_cons_succ]
  refine takeL (i := 29) (v := ?_) rfl (by kernel_rfl) (by kernel_rfl) (by kernel_rfl) (fun _ _ _ h => h) (Or.inl ⟨by rfl, ?_⟩) SF.out ?_
  rotate_left
  · intro w hw
    try dsimp only at hw
    have oc : w.cell? ⟨g7, 5, none⟩ = some (.slice (some a8) 2 2) := (hw.cell (p := ⟨g7, 5, none⟩) R9.out.lt).trans (R9.out.cell 5)
    go_simp
    try with_reducible rfl
  try simp only [Act.put, List.setIfInBounds_toArray, List.set_cons_zero, List.set_cons_succ]
  refine takeL (i := 30) (v := ?_) rfl (by kernel_rfl) (by kernel_rfl) (by kernel_rfl) (fun _ _ _ h => h) (Or.inl ⟨by rfl, ?_⟩) SF.out ?_
  rotate_left
  · intro w hw
    try dsimp only at hw
    go_simp
    try with_reducible rfl
  try simp only [Act.put, List.setIfInBounds_toArray, List.set_cons_zero, List.set_cons_succ]
  refine takeL (i := 31) (v := ?_) rfl (by kernel_rfl) (by kernel_rfl) (by kernel_rfl) (fun _ _ _ h => h) (Or.inl ⟨by rfl, ?_⟩) SF.out ?_
  rotate_left
  · intro w hw
    try dsimp only at hw
    go_simp
    try with_reducible rfl
  try simp only [Act.put, List.setIfInBounds_toArray, List.set_cons_zero, List.set_cons_succ]
  refine takeL (i := 32) (v := ?_) rfl (by kernel_rfl) (by kernel_rfl) (by kernel_rfl) (fun _ _ _ h => h) (Or.inl ⟨by rfl, ?_⟩) SF.out ?_
  rotate_left
  · intro w hw
    try dsimp only at hw
    go_simp
    try with_reducible rfl
  try simp only [Act.put, List.setIfInBounds_toArray, List.set_cons_zero, List.set_cons_succ]
  refine takeL (i := 33) (v := ?_) rfl (by kernel_rfl) (by kernel_rfl) (by kernel_rfl) (fun _ _ _ h => h) (Or.inl ⟨by rfl, ?_⟩) SF.out ?_
  rotate_left
  · intro w hw
    try dsimp only at hw
    go_simp
    try with_reducible rfl
  try simp only [Act.put, List.setIfInBounds_toArray, List.set_cons_zero, List.set_cons_succ]
  refine takeL (i := 34) (v := ?_) rfl (by kernel_rfl) (by kernel_rfl) (by kernel_rfl) (fun _ _ _ h => h) (Or.inl ⟨by rfl, ?_⟩) SF.out ?_
  rotate_left
  · intro w hw
    try dsimp only at hw
    go_simp
    try with_reducible rfl
  try simp only [Act.put, List.setIfInBounds_toArray, List.set_cons_zero, List.set_cons_succ]
  refine takeL (i := 35) (v := ?_) rfl (by kernel_rfl) (by kernel_rfl) (by kernel_rfl) (fun _ _ _ h => h) (Or.inl ⟨by rfl, ?_⟩) SF.out ?_
  rotate_left
  · intro w hw
    try dsimp only at hw
    have oc : w.cell? ⟨g7, 5, none⟩ = some (.slice (some a8) 2 2) := (hw.cell (p := ⟨g7, 5, none⟩) R9.out.lt).trans (R9.out.cell 5)
    go_simp
    try with_reducible rfl
  try simp only [Act.put, List.setIfInBounds_toArray, List.set_cons_zero, List.set_cons_succ]
  refine takeL (i := 36) (v := ?_) rfl (by kernel_rfl) (by kernel_rfl) (by kernel_rfl) (fun _ _ _ h => h) (Or.inl ⟨by rfl, ?_⟩) SF.out ?_
  rotate_left
  · intro w hw
    try dsimp only at hw
    go_simp
    try with_reducible rfl
  try simp only [Act.put, List.setIfInBounds_toArray, List.set_cons_zero, List.set_cons_succ]
  refine takeL (i := 37) (v := .agg h15a.cells.toArray) rfl (by kernel_rfl) (by kernel_rfl) (by kernel_rfl) (fun _ _ _ h => h) (Or.inl ⟨by rfl, fun wz hwz => exec_load_at wz 64 (.tmp 88) rfl a8 h15a.cells _ Tryd.underlying64 rfl (by kernel_rfl) (fun j u hu => (hwz.cell (by rw [addr_block]; exact HAB.out)).trans (by have := HAC.out j u hu; rwa [addr_add, Nat.zero_mul, Nat.zero_add] at this)) (by go_simp)⟩) SF.out ?_
  try simp only [Act.put, List.setIfInBounds_toArray, List.set_cons_zero, List.set_cons_succ]
  refine takeL (i := 38) (v := .agg (bv (kx15 8)).toArray) rfl (by kernel_rfl) (by kernel_rfl) (by kernel_rfl) (fun _ _ _ h => h) (Or.inl ⟨by rfl, fun wz hwz => exec_load_at wz 57 (.tmp 1) rfl ⟨g1, 0, none⟩ (bv (kx15 8)) _ Tryd.underlying57 rfl (by kernel_rfl) (fun j u hu => by rw [addr_row, Nat.zero_add]; exact (hwz.cell (p := ⟨g1, j, none⟩) X9.out.r1.lt).trans ((X9.out.r1.cell j).trans hu)) (by go_simp)⟩) SF.out ?_
  try simp only [Act.put, List.setIfInBounds_toArray, List.set_cons_zero, List.set_cons_succ]
  refine takeL (i := 39) (v := .agg (ac15x 14800).cells.toArray) rfl (by kernel_rfl) (by kernel_rfl) (by kernel_rfl) (fun _ _ _ h => h) (Or.inl ⟨by rfl, fun wz hwz => exec_built wz _ _ _ rfl (by simp only [List.map_toArray, List.map_cons, List.map_nil]; exact HA.out 14800)⟩) SF.out ?_
  try simp only [Act.put, List.setIfInBounds_toArray, List.set_cons_zero, List.set_cons_succ]
  refine takeL (i := 40) (v := .agg h15a.cells.toArray) rfl (by kernel_rfl) (by kernel_rfl) (by kernel_rfl) (fun _ _ _ h => h) (Or.inl ⟨by rfl, fun wz hwz => exec_built wz _ _ _ rfl (by simp only [List.map_toArray, List.map_cons, List.map_nil]; exact built_h15a)⟩) SF.out ?_
  try simp only [Act.put, List.setIfInBounds_toArray, List.set_cons_zero, List.set_cons_succ]
  refine takeL (i := 41) (v := ?_) rfl (by kernel_rfl) (by kernel_rfl) (by kernel_rfl) (fun _ _ _ h => h) (Or.inl ⟨by rfl, ?_⟩) SF.out ?_
  rotate_left
  · intro w hw
    try dsimp only at hw
    have hea := HEA.out
    go_simp
    try with_reducible rfl
  try simp only [Act.put, List.setIfInBounds_toArray, List.set_cons_zero, List.set_cons_succ]
  refine takeL (i := 42) (v := ?_) rfl (by kernel_rfl) (by kernel_rfl) (by kernel_rfl) (fun _ _ _ h => h) (Or.inl ⟨by rfl, ?_⟩) SF.out ?_
  rotate_left
  · intro w hw
    try dsimp only at hw
    go_simp
    try with_reducible rfl
  try simp only [Act.put, List.setIfInBounds_toArray, List.set_cons_zero, List.set_cons_succ]
  refine takeL (i := 43) (v := ?_) rfl (by kernel_rfl) (by kernel_rfl) (by kernel_rfl) (fun _ _ _ h => h) (Or.inl ⟨by rfl, ?_⟩) SF.out ?_
  rotate_left
  · intro w hw
    try dsimp only at hw
    go_simp
    try with_reducible rfl
  try simp only [Act.put, List.setIfInBounds_toArray, List.set_cons_zero, List.set_cons_succ]
  refine takeL (i := 44) (v := ?_) rfl (by kernel_rfl) (by kernel_rfl) (by kernel_rfl) (fun _ _ _ h => h) (Or.inl ⟨by rfl, ?_⟩) SF.out ?_
  rotate_left
  · intro w hw
    try dsimp only at hw
    go_simp
    try with_reducible rfl
  try simp only [Act.put, List.setIfInBounds_toArray, List.set_cons_zero, List.set_cons_succ]
  refine takeL (i := 45) (v := ?_) rfl (by kernel_rfl) (by kernel_rfl) (by kernel_rfl) (fun _ _ _ h => h) (Or.inl ⟨by rfl, ?_⟩) SF.out ?_
  rotate_left
  · intro w hw
    try dsimp only at hw
    have oc : w.cell? ⟨g7, 5, none⟩ = some (.slice (some a8) 2 2) := (hw.cell (p := ⟨g7, 5, none⟩) R9.out.lt).trans (R9.out.cell 5)
    go_simp
    try with_reducible rfl
  try simp only [Act.put, List.setIfInBounds_toArray, List.set_cons_zero, List.set_cons_succ]
  refine takeL (i := 46) (v := ?_) rfl (by kernel_rfl) (by kernel_rfl) (by kernel_rfl) (fun _ _ _ h => h) (Or.inl ⟨by rfl, ?_⟩) SF.out ?_
  rotate_left
  · intro w hw
    try dsimp only at hw
    go_simp
    try with_reducible rfl
  try simp only [Act.put, List.setIfInBounds_toArray, List.set_cons_zero, List.set_cons_succ]
  refine takeL (i := 47) (v := .agg h15b.cells.toArray) rfl (by kernel_rfl) (by kernel_rfl) (by kernel_rfl) (fun _ _ _ h => h) (Or.inl ⟨by rfl, fun wz hwz => exec_load_at wz 64 (.tmp 98) rfl (a8.add 66) h15b.cells _ Tryd.underlying64 rfl (by kernel_rfl) (fun j u hu => (hwz.cell (by rw [addr_block, addr_block]; exact HAB.out)).trans (by have := HBC.out j u hu; simpa using this)) (by go_simp)⟩) SF.out ?_
  try simp only [Act.put, List.setIfInBounds_toArray, List.set_cons_zero, List.set_cons_succ]
  refine takeL (i := 48) (v := .agg (bv (kx15 9)).toArray) rfl (by kernel_rfl) (by kernel_rfl) (by kernel_rfl) (fun _ _ _ h => h) (Or.inl ⟨by rfl, fun wz hwz => exec_load_at wz 57 (.tmp 2) rfl ⟨g2, 0, none⟩ (bv (kx15 9)) _ Tryd.underlying57 rfl (by kernel_rfl) (fun j u hu => by rw [addr_row, Nat.zero_add]; exact (hwz.cell (p := ⟨g2, j, none⟩) X9.out.r2.lt).trans ((X9.out.r2.cell j).trans hu)) (by go_simp)⟩) SF.out ?_
  try simp only [Act.put, List.setIfInBounds_toArray, List.set_cons_zero, List.set_cons_succ]
  refine takeL (i := 49) (v := .agg (ac15x 200).cells.toArray) rfl (by kernel_rfl) (by kernel_rfl) (by kernel_rfl) (fun _ _ _ h => h) (Or.inl ⟨by rfl, fun wz hwz => exec_built wz _ _ _ rfl (by simp only [List.map_toArray, List.map_cons, List.map_nil]; exact HA.out 200)⟩) SF.out ?_
  try simp only [Act.put, List.setIfInBounds_toArray, List.set_cons_zero, List.set_cons_succ]
  refine takeL (i := 50) (v := .agg h15b.cells.toArray) rfl (by kernel_rfl) (by kernel_rfl) (by kernel_rfl) (fun _ _ _ h => h) (Or.inl ⟨by rfl, fun wz hwz => exec_built wz _ _ _ rfl (by simp only [List.map_toArray, List.map_cons, List.map_nil]; exact built_h15b)⟩) SF.out ?_
  try simp only [Act.put, List.setIfInBounds_toArray, List.set_cons_zero, List.set_cons_succ]
  refine takeL (i := 51) (v := ?_) rfl (by kernel_rfl) (by kernel_rfl) (by kernel_rfl) (fun _ _ _ h => h) (Or.inl ⟨by rfl, ?_⟩) SF.out ?_
  rotate_left
  · intro w hw
    try dsimp only at hw
    have heb := HEB.out
    go_simp
    try with_reducible rfl
  try simp only [Act.put, List.setIfInBounds_toArray, List.set_cons_zero, List.set_cons_succ]
  refine takeL (i := 52) (v := ?_) rfl (by kernel_rfl) (by kernel_rfl) (by kernel_rfl) (fun _ _ _ h => h) (Or.inl ⟨by rfl, ?_⟩) SF.out ?_
  rotate_left
  · intro w hw
    try dsimp only at hw
    go_simp
    try with_reducible rfl
  try simp only [Act.put, List.setIfInBounds_toArray, List.set_cons_zero, List.set_cons_succ]
  refine takeL (i := 53) (v := ?_) rfl (by kernel_rfl) (by kernel_rfl) (by kernel_rfl) (fun _ _ _ h => h) (Or.inl ⟨by rfl, ?_⟩) SF.out ?_
  rotate_left
  · intro w hw
    try dsimp only at hw
    go_simp
    try with_reducible rfl
  try simp only [Act.put, List.setIfInBounds_toArray, List.set_cons_zero]
  refine wpAnyH_done (by kernel_rfl) ?_ _
  go_wp2_with fail
  go_ret
  exact ⟨rfl, X9.out.b.trans (SF.out.mono X9.out.b.size)⟩
end Go.Proofs.YtaljfbbieefooaaDoor

/-
  Of part Great15: what is needed here.
-/
namespace Go.Proofs.YtaljfbbieefooaaDoor
open Go.RowKit
set_option linter.unusedVariables false
set_option maxRecDepth 100000
theorem cells15_38 {q : Raw} {m : LMsg} (h : m.recent.length = 32) : (q.cells m)[38]? = some (.slice q.LA q.ln q.lc) := by
  simp [Raw.cells, bv_length, h]
theorem inSize15_succ {l : List LIn} {k : Nat} {x : LIn} (h : l[k]? = some x) : inSize (l.take (k + 1)) = inSize (l.take k) + (x.acc.length + x.dat.length) := by
  unfold inSize
  rw [List.take_add_one, h]
  simp
theorem lookSize15_succ {l : List LLook} {k : Nat} {x : LLook} (h : l[k]? = some x) : lookSize (l.take (k + 1)) = lookSize (l.take k) + (x.wr.length + x.rd.length) := by
  unfold lookSize
  rw [List.take_add_one, h]
  simp
theorem below_dn15 {B : Nat} {w V : World} (h : Below B w V) (j : Nat) : Below B w (V.drewN j) := h.trans ⟨rfl, rfl, rfl, Nat.le_refl _, fun _ _ => rfl⟩
def tot15 (x : LReady) : Nat := x.bytes.length + x.roles.length + x.tx.sigs.length + x.tx.m.keys.length + x.tx.m.ins.length + x.tx.m.looks.length + inSize x.tx.m.ins + lookSize x.tx.m.looks
/-- not too great to be gone through -/
structure Fw15 (x : LReady) : Prop where
  t : tot15 x ≤ 10000
  n : x.tx.m.ins.length ≤ 200
  r : x.roles.length ≤ 300
theorem Fw15.acc {x : LReady} (h : Fw15 x) {a : LIn} (ha : a ∈ x.tx.m.ins) : a.acc.length ≤ 10000 ∧ a.dat.length ≤ 10000 := by
  have h1 := size_mem ha
  have h2 := h.t
  unfold tot15 at h2
  omega
/-- no list of it is longer than memory is wide -/
structure Wide15 (x : LReady) : Prop where
  m : Sized x.tx.m
  b : x.bytes.length ≤ 140737488355328
  r : x.roles.length ≤ 140737488355328
  s : x.tx.sigs.length ≤ 140737488355328
/-- what Great tells -/
def GrDone15 (x : LReady) (w : World) (e : Ending) (w' : World) : Prop := (∃ b, e = .returned (.bool b) ∧ (b = false → Fw15 x)) ∧ Below w.heap.size w w'
set_option maxHeartbeats 4000000 in
theorem great15 (q : YRaw) (x : LReady) (B : Nat) (w : World) (h : ReadyIn w B q x) (hB : B ≤ w.heap.size) (hs : Wide15 x) :
    Calls Tryd.prog 6 #[.agg (q.cells x).toArray] w (GrDone15 x w) := by
  obtain ⟨BA, bn, bc, ⟨SA, sn, sc, ⟨KA, kn, kc, IA, n, ic, LA, ln, lc⟩⟩, RA, rn, rc⟩ := q
  have hrow := Row.new w 41 (YRaw.cells ⟨BA, bn, bc, ⟨SA, sn, sc, ⟨KA, kn, kc, IA, n, ic, LA, ln, lc⟩⟩, RA, rn, rc⟩ x)
  have hb0 := (Below.refl w.heap.size w).alloc (Nat.le_refl _) (.cells (YRaw.cells ⟨BA, bn, bc, ⟨SA, sn, sc, ⟨KA, kn, kc, IA, n, ic, LA, ln, lc⟩⟩, RA, rn, rc⟩ x).toArray 41)
  have H32 := h.tx.m.recent
  have d0 : (w.alloc (.cells (YRaw.cells ⟨BA, bn, bc, ⟨SA, sn, sc, ⟨KA, kn, kc, IA, n, ic, LA, ln, lc⟩⟩, RA, rn, rc⟩ x).toArray 41)).cell? ⟨w.heap.size, 0, none⟩ = some (.slice BA bn bc) := hrow.cell 0
  have d1 : (w.alloc (.cells (YRaw.cells ⟨BA, bn, bc, ⟨SA, sn, sc, ⟨KA, kn, kc, IA, n, ic, LA, ln, lc⟩⟩, RA, rn, rc⟩ x).toArray 41)).cell? ⟨w.heap.size, 1, none⟩ = some (.slice SA sn sc) := hrow.cell 1
  have d6 : (w.alloc (.cells (YRaw.cells ⟨BA, bn, bc, ⟨SA, sn, sc, ⟨KA, kn, kc, IA, n, ic, LA, ln, lc⟩⟩, RA, rn, rc⟩ x).toArray 41)).cell? ⟨w.heap.size, 6, none⟩ = some (.slice KA kn kc) := hrow.cell 6
  have d39 : (w.alloc (.cells (YRaw.cells ⟨BA, bn, bc, ⟨SA, sn, sc, ⟨KA, kn, kc, IA, n, ic, LA, ln, lc⟩⟩, RA, rn, rc⟩ x).toArray 41)).cell? ⟨w.heap.size, 39, none⟩ = some (.slice IA n ic) := (hrow.cell 39).trans (ycells_39 H32)
  have d40 : (w.alloc (.cells (YRaw.cells ⟨BA, bn, bc, ⟨SA, sn, sc, ⟨KA, kn, kc, IA, n, ic, LA, ln, lc⟩⟩, RA, rn, rc⟩ x).toArray 41)).cell? ⟨w.heap.size, 40, none⟩ = some (.slice LA ln lc) := (hrow.cell 40).trans (ycells_t (j := 39) ((tcells_m 38).trans (cells15_38 H32)))
  have d41 : (w.alloc (.cells (YRaw.cells ⟨BA, bn, bc, ⟨SA, sn, sc, ⟨KA, kn, kc, IA, n, ic, LA, ln, lc⟩⟩, RA, rn, rc⟩ x).toArray 41)).cell? ⟨w.heap.size, 41, none⟩ = some (.slice RA rn rc) := (hrow.cell 41).trans (ycells_41 H32 0)
  have lb : x.bytes.length = bn := by have := h.bs.len; rwa [bv_length] at this
  have lr : x.roles.length = rn := h.rs.len
  have lsg : x.tx.sigs.length = sn := h.tx.sigs.len
  have lk : x.tx.m.keys.length = kn := h.tx.m.keys.len
  have li : x.tx.m.ins.length = n := h.tx.m.ins.len
  have ll : x.tx.m.looks.length = ln := h.tx.m.looks.len
  have k1 := hs.m.keys
  have k2 := hs.m.ins
  have k3 := hs.m.looks
  have k4 := hs.b
  have k5 := hs.r
  have k6 := hs.s
  rw [lk] at k1
  rw [li] at k2
  rw [ll] at k3
  rw [lb] at k4
  rw [lr] at k5
  rw [lsg] at k6
  have HM := Lib.hid ((h.below (hb0.mono hB)).tx.m)
  have HSZ := Lib.hid hs.m
  have HB0 := Lib.hid hb0
  have HT : Hid (tot15 x = bn + rn + sn + kn + n + ln + inSize x.tx.m.ins + lookSize x.tx.m.looks) := Lib.hid (by unfold tot15; rw [lb, lr, lsg, lk, li, ll])
  have HLI := Lib.hid li
  have HLR := Lib.hid lr
  have HLL := Lib.hid ll
  clear hrow h hs hb0 H32 lb lr lsg lk li ll
  generalize YRaw.cells ⟨BA, bn, bc, ⟨SA, sn, sc, ⟨KA, kn, kc, IA, n, ic, LA, ln, lc⟩⟩, RA, rn, rc⟩ x = cs at *
  go_enter Tryd.func6, Tryd.ntmps6
  go_upto_region 1 with fail
  generalize (w.alloc (Obj.cells cs.toArray 41)) = W0 at *
  obtain ⟨g1, hg1⟩ : ∃ g, g = w.heap.size := ⟨_, rfl⟩
  have HG1 := Lib.hid hg1
  rw [← hg1] at d0 d1 d6 d39 d40 d41 ⊢
  clear hg1
  go_wp2_with fail
  go_loopw [3, 4] (fun nn i wr => ∃ (k j s : Nat), k ≤ n ∧ i = .int .i64 k ∧ nn = .int .i64 s ∧ wr = W0.drewN j ∧ s = bn + rn + sn + kn + n + ln + inSize (x.tx.m.ins.take k) ∧ s ≤ 1900000000000000) (fun nn i _ => n - (intOf i).toNat)
  case atStart => exact ⟨0, 0, bn + rn + sn + kn + n + ln, Nat.zero_le _, rfl, by first | rfl | go_num, rfl, by simp [inSize], by omega⟩
  case round =>
    obtain ⟨k, j, s, hk, rfl, rfl, rfl, hsum, hs9⟩ := hrel
    have HS := Lib.hid hsum
    clear hsum
    by_cases hgo : k < n ∧ s < 20000
    · obtain ⟨hlt, hs3⟩ := hgo
      obtain ⟨a, y, va, vd, rfl, hab, hx, hat⟩ := HM.out.ins.get hlt
      obtain ⟨A1, c1, rfl, _, _, _⟩ := hat.acc.is
      obtain ⟨A2, c2, rfl, _, _, _⟩ := hat.dat.is
      have e1 : W0.cell? ⟨(a.add (k * 3)).block, (a.add (k * 3)).off + 1, none⟩ = some (.slice A1 y.acc.length c1) := hat.cells 1 _ rfl
      have e2 : W0.cell? ⟨(a.add (k * 3)).block, (a.add (k * 3)).off + 2, none⟩ = some (.slice A2 y.dat.length c2) := hat.cells 2 _ rfl
      have l1 := (HSZ.out.inl y (List.mem_of_getElem? hx)).1
      have l2 := (HSZ.out.inl y (List.mem_of_getElem? hx)).2
      have HX := Lib.hid (inSize15_succ hx)
      clear hat hx
      go_wp2_with fail
      go_quiet (fail)
      go_wp2_with fail
      go_roundw
      case rel => exact ⟨k + 1, j + nq, s + y.acc.length + y.dat.length, by omega, by go_num, by go_num, by simp, by have := HS.out; have := HX.out; omega, by omega⟩
      case measure => simp [intOf]; omega
    · have HGO : Hid (20000 ≤ s ∨ s = bn + rn + sn + kn + n + ln + inSize x.tx.m.ins) := by
        refine Lib.hid ?_
        by_cases h3 : s < 20000
        · right
          have hkn : k = n := by
            have : ¬ k < n := fun h => hgo ⟨h, h3⟩
            omega
          have := HS.out
          rwa [hkn, List.take_of_length_le (by rw [HLI.out]; exact Nat.le_refl _)] at this
        · left; omega
      have hdec : (k < n ∧ ¬ s < 20000) ∨ ¬ k < n := by
        by_cases h : k < n
        · exact .inl ⟨h, fun h3 => hgo ⟨h, h3⟩⟩
        · exact .inr h
      clear HS hgo
      rcases hdec with ⟨hd1, hd2⟩ | hd1
      all_goals
        (go_wp2_with fail
         go_loopw [3, 5] (fun nn i wr => ∃ (k j s : Nat), k ≤ ln ∧ i = .int .i64 k ∧ nn = .int .i64 s ∧ wr = W0.drewN j ∧ (20000 ≤ s ∨ s = bn + rn + sn + kn + n + ln + inSize x.tx.m.ins + lookSize (x.tx.m.looks.take k)) ∧ s ≤ 1900000000000000) (fun nn i _ => ln - (intOf i).toNat)
         case atStart => exact ⟨0, j, s, Nat.zero_le _, rfl, rfl, rfl, by simpa [lookSize] using HGO.out, hs9⟩
         case round =>
          clear HGO hd1
          try clear hd2
          clear hs9 hk
          obtain ⟨k, j, s, hk, rfl, rfl, rfl, hsum, hs9⟩ := hrel
          have HS := Lib.hid hsum
          clear hsum
          by_cases hgo : k < ln ∧ s < 20000
          · obtain ⟨hlt, hs3⟩ := hgo
            obtain ⟨a, y, va, vd, rfl, hab, hx, hat⟩ := HM.out.looks.get hlt
            have hc1 : W0.cell? ((a.add (k * 34)).add 32) = some va := hat.cells 32 va (by rw [List.getElem?_append_right (by rw [bv_length, hat.len]; exact Nat.le_refl _), bv_length, hat.len]; rfl)
            have hc2 : W0.cell? ((a.add (k * 34)).add 33) = some vd := hat.cells 33 vd (by rw [List.getElem?_append_right (by rw [bv_length, hat.len]; omega), bv_length, hat.len]; rfl)
            obtain ⟨A1, c1, rfl, _, _, _⟩ := hat.wr.is
            obtain ⟨A2, c2, rfl, _, _, _⟩ := hat.rd.is
            have e1 : W0.cell? ⟨(a.add (k * 34)).block, (a.add (k * 34)).off + 32, none⟩ = some (.slice A1 y.wr.length c1) := hc1
            have e2 : W0.cell? ⟨(a.add (k * 34)).block, (a.add (k * 34)).off + 33, none⟩ = some (.slice A2 y.rd.length c2) := hc2
            have l1 := (HSZ.out.lol y (List.mem_of_getElem? hx)).1
            have l2 := (HSZ.out.lol y (List.mem_of_getElem? hx)).2
            have HX := Lib.hid (lookSize15_succ hx)
            clear hat hx hc1 hc2
            go_wp2_with fail
            go_quiet (fail)
            go_wp2_with fail
            go_roundw
            case rel =>
              refine ⟨k + 1, j + nq, s + y.wr.length + y.rd.length, by omega, by go_num, by go_num, by simp, ?_, by omega⟩
              have h1 := HS.out
              have h2 := HX.out
              omega
            case measure => simp [intOf]; omega
          · have HT2 : Hid (s ≤ 10000 → tot15 x ≤ 10000) := by
              refine Lib.hid fun h3 => ?_
              have hkn : k = ln := by
                have : ¬ k < ln := fun h => hgo ⟨h, by omega⟩
                omega
              have h1 := HS.out
              rw [hkn, List.take_of_length_le (by rw [HLL.out]; exact Nat.le_refl _)] at h1
              have h2 := HT.out
              omega
            have hdec : (k < ln ∧ ¬ s < 20000) ∨ ¬ k < ln := by
              by_cases h : k < ln
              · exact .inl ⟨h, fun h3 => hgo ⟨h, h3⟩⟩
              · exact .inr h
            clear HS hgo
            rcases hdec with ⟨hd1, hd2⟩ | hd1
            · have h10 : 10000 < s := by omega
              have hI : (10000 : Int) < s := by omega
              go_wp2_with fail
              go_ret
              exact ⟨⟨true, rfl, fun hb => by cases hb⟩, below_dn15 HB0.out j⟩
            · by_cases h10 : 10000 < s
              · have hI : (10000 : Int) < s := by omega
                go_wp2_with fail
                go_ret
                exact ⟨⟨true, rfl, fun hb => by cases hb⟩, below_dn15 HB0.out j⟩
              have hJ10 : (s : Int) ≤ 10000 := by omega
              by_cases hn2 : 200 < n
              · have hI : (200 : Int) < n := by omega
                go_wp2_with fail
                go_ret
                exact ⟨⟨true, rfl, fun hb => by cases hb⟩, below_dn15 HB0.out j⟩
              have hJn : (n : Int) ≤ 200 := by omega
              by_cases hr3 : 300 < rn
              · have hI : (300 : Int) < rn := by omega
                go_wp2_with fail
                go_ret
                exact ⟨⟨true, rfl, fun hb => by cases hb⟩, below_dn15 HB0.out j⟩
              have hJr : (rn : Int) ≤ 300 := by omega
              have HFEW : Hid (Fw15 x) := Lib.hid ⟨HT2.out (by omega), by rw [HLI.out]; omega, by rw [HLR.out]; omega⟩
              go_wp2_with fail
              go_ret
              exact ⟨⟨_, rfl, fun _ => HFEW.out⟩, below_dn15 HB0.out j⟩)
end Go.Proofs.YtaljfbbieefooaaDoor

/-
  Of part FailMath15: what is needed here.
-/
namespace Go.Proofs.YtaljfbbieefooaaDoor
set_option linter.unusedVariables false
theorem step_zero15 {x : LReady} {k : Nat} {a : LIn} {S : S15} (h : (step15 x k a S).1 = 0) : (step15 x k a S).2.units = S.units + 150 := by
  revert h
  unfold step15
  split
  · intro h; cases h
  · split
    · intro h; cases h
    · split
      · split
        · intro _; rfl
        · intro _; rfl
      · split
        · intro _; rfl
        · intro h; cases h
theorem step_bound15 {x : LReady} {k : Nat} {a : LIn} {S : S15} (h : 0 ≤ S.units ∧ S.units ≤ x.u) : 0 ≤ (step15 x k a S).2.units ∧ (step15 x k a S).2.units ≤ x.u := by
  unfold step15
  split
  · exact ⟨by show 0 ≤ x.u; omega, Int.le_refl _⟩
  · rename_i hc
    have h2 : 0 ≤ S.units + 150 ∧ S.units + 150 ≤ x.u := by omega
    split
    · exact h2
    · split
      · split
        · exact h2
        · exact h2
      · split
        · exact h2
        · exact h2
theorem go_bound15 {x : LReady} : ∀ (L : List LIn) (k : Nat) (S : S15), (0 ≤ S.units ∧ S.units ≤ x.u) → 0 ≤ (go15 x L k S).2.2.units ∧ (go15 x L k S).2.2.units ≤ x.u
  | [], _, _, h => h
  | a :: r, k, S, h => by
    unfold go15
    split
    · exact go_bound15 r _ _ (step_bound15 h)
    · exact step_bound15 h
theorem go_zero15 {x : LReady} : ∀ (L : List LIn) (k : Nat) (S : S15), (go15 x L k S).1 = 0 → (go15 x L k S).2.1 = -1 ∧ (go15 x L k S).2.2.units = S.units + 150 * (L.length : Int)
  | [], _, S, _ => ⟨rfl, by show S.units = S.units + 150 * 0; omega⟩
  | a :: r, k, S, h => by
    unfold go15 at h ⊢
    split at h
    · rename_i hs
      rw [if_pos hs]
      obtain ⟨h1, h2⟩ := go_zero15 r _ _ h
      refine ⟨h1, ?_⟩
      rw [h2, step_zero15 hs, List.length_cons]
      push_cast
      omega
    · rename_i hs
      exact absurd h hs
theorem go_ill15 {x : LReady} : ∀ (L : List LIn) (k : Nat) (S : S15), (go15 x L k S).1 ≠ 0 → (k : Int) ≤ (go15 x L k S).2.1 ∧ (go15 x L k S).2.1 < (k : Int) + (L.length : Int)
  | [], _, S, h => absurd rfl h
  | a :: r, k, S, h => by
    unfold go15 at h ⊢
    split at h
    · rename_i hs
      rw [if_pos hs]
      obtain ⟨h1, h2⟩ := go_ill15 r _ _ h
      rw [List.length_cons]
      push_cast at h1 h2 ⊢
      omega
    · rename_i hs
      rw [if_neg hs, List.length_cons]
      push_cast
      constructor
      · exact Int.le_refl _
      · show (k : Int) < _
        omega
/-- what comes of a transaction -/
inductive RunIs15 (x : LReady) (l : List LAcc) : LOut × Int → Prop where
  | no : RunIs15 x l (out0, 1)
  | fine (o : LOut) (hl : l.length = x.roles.length) (hf : o.fail = 0) (ha : o.at_ = -1) (hu : o.units = 150 * (x.tx.m.ins.length : Int)) (hb : 0 ≤ o.units ∧ o.units ≤ x.u) (hfee : o.fee = x.fee) : RunIs15 x l (o, 0)
  | ill (o : LOut) (hl : l.length = x.roles.length) (hf : o.fail ≠ 0) (ha : 0 ≤ o.at_ ∧ o.at_ < (x.tx.m.ins.length : Int)) (hs : o.space = 0) (hc : o.ch = chg15 x.roles l) (hb : 0 ≤ o.units ∧ o.units ≤ x.u) (hfee : o.fee = x.fee) : RunIs15 x l (o, 0)
theorem run_is15 (x : LReady) (l : List LAcc) (hu : 0 ≤ x.u) : RunIs15 x l (run15 x l) := by
  have hb := go_bound15 (x := x) x.tx.m.ins 0 ⟨l, 0, 0⟩ ⟨Int.le_refl _, hu⟩
  unfold run15
  by_cases hl : l.length ≠ x.roles.length
  · rw [if_pos hl]; exact .no
  rw [if_neg hl]
  have hl' : l.length = x.roles.length := by omega
  by_cases hp : ∃ a ∈ x.tx.m.ins, (x.roles.length : Int) ≤ a.p
  · rw [if_pos hp]; exact .no
  rw [if_neg hp]
  by_cases hz : (go15 x x.tx.m.ins 0 ⟨l, 0, 0⟩).1 = 0
  · rw [if_pos hz]
    obtain ⟨h1, h2⟩ := go_zero15 (x := x) _ _ _ hz
    refine .fine _ hl' rfl rfl ?_ hb rfl
    show (go15 x x.tx.m.ins 0 ⟨l, 0, 0⟩).2.2.units = _
    rw [h2]
    show (0 : Int) + _ = _
    omega
  · rw [if_neg hz]
    obtain ⟨h1, h2⟩ := go_ill15 (x := x) _ _ _ hz
    refine .ill _ hl' hz ⟨by show 0 ≤ (go15 x x.tx.m.ins 0 ⟨l, 0, 0⟩).2.1; omega, by show (go15 x x.tx.m.ins 0 ⟨l, 0, 0⟩).2.1 < _; omega⟩ rfl rfl hb rfl
theorem chg_split15 : ∀ (k : Nat) (rs : List LRole) (l : List LAcc), l.length = rs.length → chg15 rs l = chg15 (rs.take k) (l.take k) ++ chg15 (rs.drop k) (l.drop k)
  | 0, rs, l, _ => by simp [chg15]
  | k + 1, [], [], _ => by simp [chg15]
  | k + 1, [], _ :: _, h => by cases h
  | k + 1, _ :: _, [], h => by cases h
  | k + 1, r :: rs, a :: l, h => by
    have ih := chg_split15 k rs l (by simpa using h)
    simp only [List.take_succ_cons, List.drop_succ_cons, chg15]
    split
    · rw [ih]; rfl
    · exact ih
theorem chg_get15 {rs : List LRole} {l : List LAcc} {k : Nat} {r : LRole} {a : LAcc} (hl : l.length = rs.length) (hr : rs[k]? = some r) (ha : l[k]? = some a) (hw : r.wr = true) : (chg15 rs l)[(chg15 (rs.take k) (l.take k)).length]? = some ⟨r.key, a⟩ := by
  rw [chg_split15 k rs l hl, List.getElem?_append_right (Nat.le_refl _), Nat.sub_self]
  obtain ⟨h1, rfl⟩ := List.getElem?_eq_some_iff.1 hr
  obtain ⟨h2, rfl⟩ := List.getElem?_eq_some_iff.1 ha
  rw [List.drop_eq_getElem_cons h1, List.drop_eq_getElem_cons h2]
  unfold chg15
  rw [if_pos hw]
  rfl
theorem chg_ok15 : ∀ (rs : List LRole) (l : List LAcc), (∀ r ∈ rs, r.key.length = 32) → (∀ a ∈ l, a.o.length = 32) → ∀ x ∈ chg15 rs l, x.k.length = 32 ∧ x.a.o.length = 32
  | [], _, _, _, x, hx => by cases hx
  | _ :: _, [], _, _, x, hx => by cases hx
  | r :: rs, a :: l, hr, ha, x, hx => by
    have ih := chg_ok15 rs l (fun y hy => hr y (List.mem_cons_of_mem _ hy)) (fun y hy => ha y (List.mem_cons_of_mem _ hy))
    unfold chg15 at hx
    split at hx
    · rcases List.mem_cons.1 hx with rfl | hx
      · exact ⟨hr r (List.mem_cons_self ..), ha a (List.mem_cons_self ..)⟩
      · exact ih x hx
    · exact ih x hx
end Go.Proofs.YtaljfbbieefooaaDoor

/-
  Of part FailWalk15: what is needed here.
-/
namespace Go.Proofs.YtaljfbbieefooaaDoor
open Go.RowKit
set_option linter.unusedVariables false
set_option maxRecDepth 100000
/-- what is there of a transaction and its accounts -/
structure FW15 (w V : World) (B g2 : Nat) (q : YRaw) (x : LReady) (LA : Option Addr) (ln : Nat) (l : List LAcc) : Prop where
  b : Below w.heap.size w V
  r2 : Row V g2 41 (q.cells x)
  rd : ReadyIn V B q x
  ac : AccsIn V B LA ln l
theorem FW15.below {w V V' : World} {B g2 ln : Nat} {q : YRaw} {x : LReady} {LA : Option Addr} {l : List LAcc} (h : FW15 w V B g2 q x LA ln l) (hB : B ≤ w.heap.size) (hb : Below V.heap.size V V') : FW15 w V' B g2 q x LA ln l :=
  ⟨h.b.trans (hb.mono h.b.size), h.r2.below hb h.r2.lt, h.rd.below (hb.mono (Nat.le_trans hB h.b.size)), h.ac.below (hb.mono (Nat.le_trans hB h.b.size))⟩
/-- a transaction's numbers fit -/
structure RdOk15 (x : LReady) : Prop where
  p : ∀ a ∈ x.tx.m.ins, IsByte a.p
  ab : ∀ a ∈ x.tx.m.ins, AllBytes a.acc ∧ AllBytes a.dat
  u : 0 ≤ x.u ∧ x.u < 18446744073709551616
  fee : 0 ≤ x.fee ∧ x.fee < 18446744073709551616
  kb : ∀ r ∈ x.roles, AllBytes r.key
theorem fw_run15 {w V : World} {B g2 ln lc : Nat} {q : YRaw} {x : LReady} {LA : Option Addr} {l : List LAcc} (f : FW15 w V B g2 q x LA ln l) (hB : B ≤ w.heap.size) (hlc : ln ≤ lc ∧ lc ≤ maxLen) (hln : ln ≤ 300) (hf : Fw15 x) (hok : RdOk15 x) (ht : TypAt w) :
    Calls Tryd.prog 11 #[.agg (q.cells x).toArray, .slice LA ln lc] V (RunDoneC V (run15 x l)) :=
  runC q x B LA ln lc l V f.rd f.ac hlc (Nat.le_trans hB f.b.size) (by omega) hok.p hok.ab hok.u ⟨by have h1 := f.rd.tx.m.ins.len; have h2 := hf.n; omega, fun a ha => by have := (hf.acc ha).1; omega⟩ (ht.below f.b ht.pos)
set_option maxHeartbeats 16000000 in
theorem fail_walk15 (q : YRaw) (x : LReady) (B : Nat) (LA : Option Addr) (ln lc : Nat) (l : List LAcc) (w : World) (h : ReadyIn w B q x) (hl : AccsIn w B LA ln l) (hlc : ln ≤ lc ∧ lc ≤ maxLen) (hB : B ≤ w.heap.size) (hwd : Wide15 x) (hlm : ln ≤ 140737488355328) (hok : RdOk15 x) (htw : TypAt w) :
    Calls Tryd.prog 4 #[.agg (q.cells x).toArray, .slice LA ln lc] w fun e w' => e = .returned (.bool true) ∧ Below w.heap.size w w' := by
  have hb0 := (Below.refl w.heap.size w).alloc (Nat.le_refl _) (.cells (q.cells x).toArray 41)
  have X0 : Hid (FW15 w (w.alloc (.cells (q.cells x).toArray 41)) B w.heap.size q x LA ln l) := Lib.hid ⟨hb0, Row.new w 41 (q.cells x), h.below (hb0.mono hB), hl.below (hb0.mono hB)⟩
  have HB := Lib.hid hB
  have HT := Lib.hid htw
  have HOK := Lib.hid hok
  have HLC := Lib.hid hlc
  have H32 := Lib.hid h.tx.m.recent
  have HNI := Lib.hid h.tx.m.ins.len
  have HRL := Lib.hid h.rs.len
  have HLL := Lib.hid hl.len
  have HWD := Lib.hid hwd
  obtain ⟨g2, hg2⟩ : ∃ g, g = w.heap.size := ⟨_, rfl⟩
  have HG2 : Hid (w.heap.size = g2) := Lib.hid hg2.symm
  rw [← hg2] at X0
  clear hb0 h hl hlc hB hwd hok htw hg2
  generalize hW : w.alloc (.cells (q.cells x).toArray 41) = W at *
  have HW := Lib.hid hW
  clear hW
  go_enter Tryd.func4, Tryd.ntmps4
  go_upto_region 1 with fail
  try rw [HG2.out]
  rw [HW.out]
  clear HG2 HW
  by_cases hlong : 300 < ln
  · have hl1 : (300 : Int) < ln := by omega
    go_wp2_with fail
    refine (lives15 _ (HT.out.below X0.out.b HT.out.pos)).mono ?_
    rintro e wl ⟨rfl, hbl⟩
    have BL := Lib.hid (X0.out.b.trans (hbl.mono X0.out.b.size))
    clear hbl
    go_wp2_with fail
    go_ret
    exact ⟨rfl, BL.out⟩
  have hl1 : ¬ (300 : Int) < ln := by omega
  have hl2 : (ln : Int) ≤ 300 := by omega
  have HGR := Lib.hid (great15 q x B W X0.out.rd (Nat.le_trans HB.out X0.out.b.size) HWD.out)
  go_wp2_with (first
    | ((with_reducible show wpList _ _ _ ({ dst := some 13, op := Op.load _ _, type := _, pos := _, after := _, guard := _ } :: _) _ _); go_must (refine wpList_load_atg (by kernel_rfl) 41 (.tmp 2) rfl ⟨g2, 0, none⟩ (q.cells x) _ Tryd.underlying41 rfl (size_rd15b H32.out) (fun j v hv => by rw [addr_row, X0.out.r2.cell, Nat.zero_add]; exact hv) ?_ ?_; go_simp))
    | fail)
  refine HGR.out.mono ?_
  rintro e w1 ⟨⟨bg, rfl, hfew⟩, hb1⟩
  have X1 := Lib.hid (X0.out.below HB.out hb1)
  clear hb1 X0 HGR HWD
  cases bg with
  | true =>
    clear hfew
    go_wp2_with fail
    refine (lives15 _ (HT.out.below X1.out.b HT.out.pos)).mono ?_
    rintro e wl ⟨rfl, hbl⟩
    have BL := Lib.hid (X1.out.b.trans (hbl.mono X1.out.b.size))
    clear hbl
    go_wp2_with fail
    go_ret
    exact ⟨rfl, BL.out⟩
  | false =>
    have HF := Lib.hid (hfew rfl)
    clear hfew hlm
    have HRN := Lib.hid (fw_run15 X1.out HB.out HLC.out (by omega) HF.out HOK.out HT.out)
    have HCS := Lib.hid (run_is15 x l HOK.out.u.1)
    go_wp2_with (first
      | ((with_reducible show wpList _ _ _ ({ dst := some 18, op := Op.load _ _, type := _, pos := _, after := _, guard := _ } :: _) _ _); go_must (refine wpList_load_whole rfl 41 (.tmp 2) rfl g2 _ (q.cells x) _ Tryd.underlying41 rfl (size_rd15b H32.out) X1.out.r2 ?_ ?_; go_simp))
      | fail)
    refine HRN.out.mono ?_
    clear HRN
    rintro e w2 ⟨A2, c2, rfl, ho2, hb2⟩
    have X2 := Lib.hid (X1.out.below HB.out hb2)
    have O2 := Lib.hid ho2
    clear ho2 hb2 X1
    generalize run15 x l = R at *
    cases HCS.out with
    | no =>
      go_upto_region 4 with (first
        | ((with_reducible show wpList _ _ _ ({ dst := some 5, op := Op.alloc _, type := _, pos := _, after := _, guard := _ } :: _) _ _); go_must (refine wpList_alloc_zero rfl 54 rfl (out0.cells (.slice none 0 0)) zero_out15 ?_))
        | ((with_reducible show wpList _ _ _ ({ dst := none, op := Op.store 54 _ _, type := _, pos := _, after := _, guard := _ } :: _) _ _); go_must (refine wpList_store_new rfl 54 (.tmp 5) (.tmp 21) rfl (out0.cells (.slice A2 out0.ch.length out0.ch.length)) (size_out15 _ _) (out_one15 _ rfl) rfl ?_ ?_ ?_; go_simp; go_simp; intro w5 hr5 hb5 hz5)))
      have R5 := Lib.hid hr5
      have X3 := Lib.hid (X2.out.below HB.out hb5)
      obtain ⟨g5, hg5⟩ : ∃ g, g = w2.heap.size := ⟨_, rfl⟩
      rw [← hg5] at R5 ⊢
      clear hr5 hb5 hz5 hg5 X2 HCS O2
      have o0 : w5.cell? ⟨g5, 0, none⟩ = some (.int .i64 0) := R5.out.cell 0
      have o5 : w5.cell? ⟨g5, 5, none⟩ = some (.slice A2 0 0) := R5.out.cell 5
      go_wp2_with fail
      refine (lives15 _ (HT.out.below X3.out.b HT.out.pos)).mono ?_
      rintro e wl ⟨rfl, hbl⟩
      have BL := Lib.hid (X3.out.b.trans (hbl.mono X3.out.b.size))
      clear hbl
      go_wp2_with fail
      go_ret
      exact ⟨rfl, BL.out⟩
    | fine o hlr hf ha hu hb hfee =>
      have hn0 : (x.tx.m.ins.length : Int) = q.t.q.n := by rw [HNI.out]
      rw [hn0] at hu
      have HN2 : Hid (q.t.q.n ≤ 200) := Lib.hid (by have h1 := HF.out.n; have h2 := HNI.out; omega)
      have HE : Hid (o.fail = 0 ∧ o.at_ = -1 ∧ o.units = 150 * (q.t.q.n : Int) ∧ o.units ≤ x.u) := Lib.hid ⟨hf, ha, hu, hb.2⟩
      clear hf ha hu hb hfee hlr hn0 HCS
      go_upto_region 4 with (first
        | ((with_reducible show wpList _ _ _ ({ dst := some 5, op := Op.alloc _, type := _, pos := _, after := _, guard := _ } :: _) _ _); go_must (refine wpList_alloc_zero rfl 54 rfl (out0.cells (.slice none 0 0)) zero_out15 ?_))
        | ((with_reducible show wpList _ _ _ ({ dst := none, op := Op.store 54 _ _, type := _, pos := _, after := _, guard := _ } :: _) _ _); go_must (refine wpList_store_new rfl 54 (.tmp 5) (.tmp 21) rfl (o.cells (.slice A2 o.ch.length o.ch.length)) (size_out15 _ _) (out_one15 _ rfl) rfl ?_ ?_ ?_; go_simp; go_simp; intro w5 hr5 hb5 hz5)))
      have R5 := Lib.hid hr5
      have X3 := Lib.hid (X2.out.below HB.out hb5)
      obtain ⟨g5, hg5⟩ : ∃ g, g = w2.heap.size := ⟨_, rfl⟩
      rw [← hg5] at R5 ⊢
      clear hr5 hb5 hz5 hg5 X2 O2
      have o0 : w5.cell? ⟨g5, 0, none⟩ = some (.int .i64 0) := by rw [← HE.out.1]; exact R5.out.cell 0
      have o1 : w5.cell? ⟨g5, 1, none⟩ = some (.int .i64 (-1)) := by rw [← HE.out.2.1]; exact R5.out.cell 1
      have o2 : w5.cell? ⟨g5, 2, none⟩ = some (.int .u64 (150 * (q.t.q.n : Int))) := by rw [← HE.out.2.2.1]; exact R5.out.cell 2
      have c39 : w5.cell? ⟨g2, 39, none⟩ = some (.slice q.t.q.IA q.t.q.n q.t.q.ic) := (X3.out.r2.cell 39).trans (ycells_39 H32.out)
      have c42 : w5.cell? ⟨g2, 42, none⟩ = some (.int .u64 x.u) := (X3.out.r2.cell 42).trans (ycells_41 H32.out 1)
      have hle : 150 * (q.t.q.n : Int) ≤ x.u := by have h1 := HE.out.2.2.1; have h2 := HE.out.2.2.2; omega
      have hw1 : IntKind.u64.wrap (q.t.q.n : Int) = (q.t.q.n : Int) := IntWalk.u64_in _ (by have := HN2.out; omega)
      have hw2 : IntKind.u64.wrap (150 * (q.t.q.n : Int)) = 150 * (q.t.q.n : Int) := IntWalk.u64_in _ (by have := HN2.out; omega)
      have hn2 : q.t.q.n ≤ 200 := HN2.out
      go_wp2_with fail
      refine (lives15 _ (HT.out.below X3.out.b HT.out.pos)).mono ?_
      rintro e wl ⟨rfl, hbl⟩
      have BL := Lib.hid (X3.out.b.trans (hbl.mono X3.out.b.size))
      clear hbl
      go_wp2_with fail
      go_ret
      exact ⟨rfl, BL.out⟩
    | ill o hlr hf ha hs hc hb hfee =>
      have HNI2 : Hid ((x.tx.m.ins.length : Int) = q.t.q.n) := Lib.hid (by rw [HNI.out])
      have ha0 := ha.1
      have ha1 : o.at_ < (q.t.q.n : Int) := by rw [← HNI2.out]; exact ha.2
      have hbu := hb.2
      have HN2 : Hid (q.t.q.n ≤ 200) := Lib.hid (by have h1 := HF.out.n; have h2 := HNI.out; omega)
      have HE : Hid (o.space = 0 ∧ o.fee = x.fee) := Lib.hid ⟨hs, hfee⟩
      have HCH := Lib.hid hc
      have HLR := Lib.hid hlr
      have HCO := Lib.hid (chg_ok15 x.roles l (fun r hr => (X2.out.rd.rs.ok r hr).1) (fun a ha => (X2.out.ac.ok a ha).o.1))
      have hff : ¬ o.fail = 0 := hf
      clear hf ha hb hs hfee hc hlr HCS
      go_upto_region 4 with (first
        | ((with_reducible show wpList _ _ _ ({ dst := some 5, op := Op.alloc _, type := _, pos := _, after := _, guard := _ } :: _) _ _); go_must (refine wpList_alloc_zero rfl 54 rfl (out0.cells (.slice none 0 0)) zero_out15 ?_))
        | ((with_reducible show wpList _ _ _ ({ dst := none, op := Op.store 54 _ _, type := _, pos := _, after := _, guard := _ } :: _) _ _); go_must (refine wpList_store_new rfl 54 (.tmp 5) (.tmp 21) rfl (o.cells (.slice A2 o.ch.length o.ch.length)) (size_out15 _ _) (out_one15 _ rfl) rfl ?_ ?_ ?_; go_simp; go_simp; intro w5 hr5 hb5 hz5)))
      have R5 := Lib.hid hr5
      have X3 := Lib.hid (X2.out.below HB.out hb5)
      have O3 := Lib.hid (own_below O2.out hb5)
      obtain ⟨g5, hg5⟩ : ∃ g, g = w2.heap.size := ⟨_, rfl⟩
      rw [← hg5] at R5 ⊢
      clear hr5 hb5 hz5 hg5 X2 O2
      have o0 : w5.cell? ⟨g5, 0, none⟩ = some (.int .i64 o.fail) := R5.out.cell 0
      have o1 : w5.cell? ⟨g5, 1, none⟩ = some (.int .i64 o.at_) := R5.out.cell 1
      have o2 : w5.cell? ⟨g5, 2, none⟩ = some (.int .u64 o.units) := R5.out.cell 2
      have o3 : w5.cell? ⟨g5, 3, none⟩ = some (.int .u64 x.fee) := by rw [← HE.out.2]; exact R5.out.cell 3
      have o4 : w5.cell? ⟨g5, 4, none⟩ = some (.int .u64 0) := by rw [← HE.out.1]; exact R5.out.cell 4
      have c39 : w5.cell? ⟨g2, 39, none⟩ = some (.slice q.t.q.IA q.t.q.n q.t.q.ic) := (X3.out.r2.cell 39).trans (ycells_39 H32.out)
      have c42 : w5.cell? ⟨g2, 42, none⟩ = some (.int .u64 x.u) := (X3.out.r2.cell 42).trans (ycells_41 H32.out 1)
      have c45 : w5.cell? ⟨g2, 45, none⟩ = some (.int .u64 x.fee) := (X3.out.r2.cell 45).trans (ycells_41 H32.out 4)
      have hn2 : q.t.q.n ≤ 200 := HN2.out
      go_upto_region 10 with fail
      clear o0 o1 o2 o3 o4 c39 c42 c45
      obtain ⟨cn, hcn⟩ : ∃ n, n = o.ch.length := ⟨_, rfl⟩
      have HCN := Lib.hid hcn
      have o5 : w5.cell? ⟨g5, 5, none⟩ = some (.slice A2 cn cn) := by rw [hcn]; exact R5.out.cell 5
      have hcle : cn ≤ ln := by rw [hcn, HCH.out, ← HLL.out]; exact chg_len15 _ _
      clear hcn
      obtain ⟨rn, hrn⟩ : ∃ n, n = q.rn := ⟨_, rfl⟩
      have HRN := Lib.hid hrn
      have c41 : w5.cell? ⟨g2, 41, none⟩ = some (.slice q.RA rn q.rc) := by rw [hrn]; exact (X3.out.r2.cell 41).trans (ycells_41 H32.out 0)
      have hrl : rn = ln := by rw [hrn, ← HRL.out, ← HLR.out, HLL.out]
      clear hrn
      go_wp2_with fail
      go_loopw [7, 8] (fun at_ i wr => ∃ k : Nat, k ≤ rn ∧ i = .int .i64 k ∧ at_ = .int .i64 ((chg15 (x.roles.take k) (l.take k)).length : Nat) ∧ Below w5.heap.size w5 wr) (fun _ i _ => rn - (intOf i).toNat)
      case atStart => exact ⟨0, Nat.zero_le _, rfl, by first | rfl | simp [chg15], Below.refl _ _⟩
      case round =>
        obtain ⟨k, hk, rfl, rfl, hbw⟩ := hrel
        have BW := Lib.hid hbw
        clear hbw
        rename World => wr
        have c41' : wr.cell? ⟨g2, 41, none⟩ = some (.slice q.RA rn q.rc) := (BW.out.cell (p := ⟨g2, 41, none⟩) X3.out.r2.lt).trans c41
        have o5' : wr.cell? ⟨g5, 5, none⟩ = some (.slice A2 cn cn) := (BW.out.cell (p := ⟨g5, 5, none⟩) R5.out.lt).trans o5
        by_cases hlt : k < rn
        · have hlt' : (k : Int) < rn := by omega
          have hltn : (k : Int) < ln := by omega
          obtain ⟨ra, y, hra, hrb, hy, hyo, hyc⟩ := X3.out.rd.rs.get (k := k) (by rw [← HRN.out]; exact hlt)
          obtain ⟨la, z, hla, hlb, hz, hzo, hzc⟩ := X3.out.ac.get (k := k) (by omega)
          have HXL : Hid (B ≤ w5.heap.size) := Lib.hid (Nat.le_trans HB.out X3.out.b.size)
          have HYC : Hid (∀ j u, y.cells[j]? = some u → wr.cell? ((ra.add (k * 34)).add j) = some u) := Lib.hid fun j u hu => (BW.out.cell (by rw [addr_block, addr_block]; have := HXL.out; omega)).trans (hyc j u hu)
          have HZC : Hid (∀ j u, z.cells[j]? = some u → wr.cell? ((la.add (k * 34)).add j) = some u) := Lib.hid fun j u hu => (BW.out.cell (by rw [addr_block, addr_block]; have := HXL.out; omega)).trans (hzc j u hu)
          have HSN := Lib.hid (chg_snoc15 hy hz)
          have HGT := Lib.hid (fun hw => chg_get15 (k := k) HLR.out hy hz hw)
          have HYO := Lib.hid hyo
          have HZO := Lib.hid hzo
          rw [hra] at c41'
          have cw : wr.cell? ⟨(ra.add (k * 34)).block, (ra.add (k * 34)).off + 33, none⟩ = some (.bool y.wr) := HYC.out 33 _ (role_wr hyo.1)
          subst hla
          clear hra hrb hy hyo hyc hlb hz hzo hzc
          obtain ⟨m, hm⟩ : ∃ m, m = (chg15 (x.roles.take k) (l.take k)).length := ⟨_, rfl⟩
          rw [← hm]
          have HMM := Lib.hid hm
          have hmle : m ≤ k := by rw [hm]; exact Nat.le_trans (chg_len15 _ _) (List.length_take_le k l)
          have hk300 : k ≤ 300 := by omega
          cases hw : y.wr with
          | false =>
            rw [hw] at cw HSN
            have HS2 : Hid ((chg15 (x.roles.take (k + 1)) (l.take (k + 1))).length = m) := Lib.hid (by rw [HSN.out, hm]; simp)
            clear HGT hm
            go_wp2_with fail
            go_roundw
            case rel => exact ⟨k + 1, by omega, by go_num, by rw [HS2.out], BW.out⟩
            case measure => simp [intOf]; omega
          | true =>
            rw [hw] at cw HSN
            have HGE : Hid (o.ch[m]? = some ⟨y.key, z⟩) := Lib.hid (by rw [HCH.out, hm]; exact HGT.out hw)
            have hmc : m < cn := by rw [HCN.out]; exact (List.getElem?_eq_some_iff.1 HGE.out).1
            have HS2 : Hid ((chg15 (x.roles.take (k + 1)) (l.take (k + 1))).length = m + 1) := Lib.hid (by rw [HSN.out, hm]; simp)
            obtain ⟨ca, hca, hcb, hcc⟩ := chg_at15 O3.out (fun u hu => by rw [HCH.out] at hu; obtain ⟨h1, h2⟩ := HCO.out u hu; exact hold_len h1 h2) HGE.out
            have HCC : Hid (∀ j u, (LHold.mk y.key z).cells[j]? = some u → wr.cell? ((ca.add (m * 66)).add j) = some u) := Lib.hid fun j u hu => (BW.out.cell (by rw [addr_block, addr_block]; exact hcb)).trans (hcc j u hu)
            have HCB : Hid (ca.block < wr.heap.size ∧ ra.block < wr.heap.size ∧ la.block < wr.heap.size) := Lib.hid ⟨Nat.lt_of_lt_of_le hcb BW.out.size, by have := block_lt_of_cell (HYC.out 33 _ (role_wr HYO.out.1)); rwa [addr_block, addr_block] at this, by have := block_lt_of_cell (HZC.out 0 _ rfl); rwa [addr_block, addr_block] at this⟩
            rw [hca] at o5'
            clear hca hcb hcc HGT hm
            have HKK : Hid ((LHold.mk y.key z).cells.length = 66) := Lib.hid (hold_len HYO.out.1 HZO.out.o.1)
            have HBU := Lib.hid (built_hold15 (l := bv y.key) (m := z.cells) (by rw [bv_length, HYO.out.1]) (acc_len HZO.out.o.1))
            have HNE : Hid (∀ w, (binOp .neq 64 (.agg (LHold.mk y.key z).cells.toArray) (.agg (LHold.mk y.key z).cells.toArray)).run Tryd.prog w = .ok (.bool false) w) := Lib.hid fun w => by rw [hold_neq HYO.out.1 HYO.out.1 HZO.out.o.1 HZO.out.o.1, decide_eq_true rfl]; rfl
            have HSK : Hid ((Tryd.prog.info? 57).map (·.size) = some (bv y.key).length) := Lib.hid (by rw [bv_length, HYO.out.1]; exact size_key)
            have HSH : Hid ((Tryd.prog.info? 64).map (·.size) = some (LHold.mk y.key z).cells.length) := Lib.hid (by rw [HKK.out]; kernel_rfl)
            have hmc' : (m : Int) < cn := by omega
            go_upto_region 15 with fail
            have HO5 := Lib.hid o5'
            have HC41 := Lib.hid c41'
            have HG5L : Hid (g5 < wr.heap.size ∧ g2 < wr.heap.size) := Lib.hid ⟨block_lt_of_cell o5', block_lt_of_cell c41'⟩
            clear o5' c41' cw
            have SF := Lib.hid (show Below wr.heap.size wr wr.drew from (Below.refl wr.heap.size wr).drew)
            refine wp_region_held_drew (S := fun V => Below wr.heap.size wr V) (by kernel_rfl) SF.out (fun _ => ?_)
            try dsimp only [List.append]
            generalize wr.drew = wd at *
            refine takeL (i := 0) (v := ?_) rfl (by kernel_rfl) (by kernel_rfl) (by kernel_rfl) (fun _ _ _ h => h) (Or.inl ⟨by rfl, ?_⟩) SF.out ?_
            rotate_left
            · intro w hw
              try dsimp only at hw
              go_simp
              try with_reducible rfl
            try simp only [Act.put, List.setIfInBounds_toArray, List.set_cons_zero, List.set_cons_succ]
            refine takeL (i := 1) (v := ?_) rfl (by kernel_rfl) (by kernel_rfl) (by kernel_rfl) (fun _ _ _ h => h) (Or.inl ⟨by rfl, ?_⟩) SF.out ?_
            rotate_left
            · intro w hw
              try dsimp only at hw
              go_simp
              try with_reducible rfl
            try simp only [Act.put, List.setIfInBounds_toArray, List.set_cons_zero, List.set_cons_succ]
            refine takeL (i := 2) (v := ?_) rfl (by kernel_rfl) (by kernel_rfl) (by kernel_rfl) (fun _ _ _ h => h) (Or.inl ⟨by rfl, ?_⟩) SF.out ?_
            rotate_left
            · intro w hw
              try dsimp only at hw
              have oc := (hw.cell (p := ⟨g5, 5, none⟩) HG5L.out.1).trans HO5.out
              go_simp
              try with_reducible rfl
            try simp only [Act.put, List.setIfInBounds_toArray, List.set_cons_zero, List.set_cons_succ]
            refine takeL (i := 3) (v := ?_) rfl (by kernel_rfl) (by kernel_rfl) (by kernel_rfl) (fun _ _ _ h => h) (Or.inl ⟨by rfl, ?_⟩) SF.out ?_
            rotate_left
            · intro w hw
              try dsimp only at hw
              go_simp
              try with_reducible rfl
            try simp only [Act.put, List.setIfInBounds_toArray, List.set_cons_zero, List.set_cons_succ]
            refine takeL (i := 4) (v := ?_) rfl (by kernel_rfl) (by kernel_rfl) (by kernel_rfl) (fun _ _ _ h => h) (Or.inl ⟨by rfl, ?_⟩) SF.out ?_
            rotate_left
            · intro w hw
              try dsimp only at hw
              have hg : ¬ (cn : Int) ≤ (m : Int) := by omega
              have hg2 : decide ((cn : Int) ≤ (m : Int)) = false := decide_eq_false hg
              go_simp
              try with_reducible rfl
            try simp only [Act.put, List.setIfInBounds_toArray, List.set_cons_zero, List.set_cons_succ]
            refine takeL (i := 5) (v := ?_) rfl (by kernel_rfl) (by kernel_rfl) (by kernel_rfl) (fun _ _ _ h => h) (Or.inl ⟨by rfl, ?_⟩) SF.out ?_
            rotate_left
            · intro w hw
              try dsimp only at hw
              go_simp
              try with_reducible rfl
            try simp only [Act.put, List.setIfInBounds_toArray, List.set_cons_zero, List.set_cons_succ]
            refine takeL (i := 6) (v := ?_) rfl (by kernel_rfl) (by kernel_rfl) (by kernel_rfl) (fun _ _ _ h => h) (Or.inl ⟨by rfl, ?_⟩) SF.out ?_
            rotate_left
            · intro w hw
              try dsimp only at hw
              go_simp
              try with_reducible rfl
            try simp only [Act.put, List.setIfInBounds_toArray, List.set_cons_zero, List.set_cons_succ]
            refine takeL (i := 7) (v := ?_) rfl (by kernel_rfl) (by kernel_rfl) (by kernel_rfl) (fun _ _ _ h => h) (Or.inl ⟨by rfl, ?_⟩) SF.out ?_
            rotate_left
            · intro w hw
              try dsimp only at hw
              go_simp
              try with_reducible rfl
            try simp only [Act.put, List.setIfInBounds_toArray, List.set_cons_zero, List.set_cons_succ]
            refine takeL (i := 8) (v := ?_) rfl (by kernel_rfl) (by kernel_rfl) (by kernel_rfl) (fun _ _ _ h => h) (Or.inl ⟨by rfl, ?_⟩) SF.out ?_
            rotate_left
            · intro w hw
              try dsimp only at hw
              go_simp
              try with_reducible rfl
            try simp only [Act.put, List.setIfInBounds_toArray, List.set_cons_zero, List.set_cons_succ]
            refine takeL (i := 9) (v := ?_) rfl (by kernel_rfl) (by kernel_rfl) (by kernel_rfl) (fun _ _ _ h => h) (Or.inl ⟨by rfl, ?_⟩) SF.out ?_
            rotate_left
            · intro w hw
              try dsimp only at hw
              have hg : ¬ (ln : Int) ≤ (k : Int) := by omega
              have hg2 : decide ((ln : Int) ≤ (k : Int)) = false := decide_eq_false hg
              go_simp
              try with_reducible rfl
            try simp only [Act.put, List.setIfInBounds_toArray, List.set_cons_zero, List.set_cons_succ]
            refine takeL (i := 10) (v := ?_) rfl (by kernel_rfl) (by kernel_rfl) (by kernel_rfl) (fun _ _ _ h => h) (Or.inl ⟨by rfl, ?_⟩) SF.out ?_
            rotate_left
            · intro w hw
              try dsimp only at hw
              go_simp
              try with_reducible rfl
            try simp only [Act.put, List.setIfInBounds_toArray, List.set_cons_zero, List.set_cons_succ]
            refine takeL (i := 11) (v := ?_) rfl (by kernel_rfl) (by kernel_rfl) (by kernel_rfl) (fun _ _ _ h => h) (Or.inl ⟨by rfl, ?_⟩) SF.out ?_
            rotate_left
            · intro w hw
              try dsimp only at hw
              go_simp
              try with_reducible rfl
            try simp only [Act.put, List.setIfInBounds_toArray, List.set_cons_zero, List.set_cons_succ]
            refine takeL (i := 12) (v := ?_) rfl (by kernel_rfl) (by kernel_rfl) (by kernel_rfl) (fun _ _ _ h => h) (Or.inl ⟨by rfl, ?_⟩) SF.out ?_
            rotate_left
            · intro w hw
              try dsimp only at hw
              go_simp
              try with_reducible rfl
            try simp only [Act.put, List.setIfInBounds_toArray, List.set_cons_zero, List.set_cons_succ]
            refine takeL (i := 13) (v := ?_) rfl (by kernel_rfl) (by kernel_rfl) (by kernel_rfl) (fun _ _ _ h => h) (Or.inl ⟨by rfl, ?_⟩) SF.out ?_
            rotate_left
            · intro w hw
              try dsimp only at hw
              have oc := (hw.cell (p := ⟨g5, 5, none⟩) HG5L.out.1).trans HO5.out
              go_simp
              try with_reducible rfl
            try simp only [Act.put, List.setIfInBounds_toArray, List.set_cons_zero, List.set_cons_succ]
            refine takeL (i := 14) (v := ?_) rfl (by kernel_rfl) (by kernel_rfl) (by kernel_rfl) (fun _ _ _ h => h) (Or.inl ⟨by rfl, ?_⟩) SF.out ?_
            rotate_left
            · intro w hw
              try dsimp only at hw
              go_simp
              try with_reducible rfl
            try simp only [Act.put, List.setIfInBounds_toArray, List.set_cons_zero, List.set_cons_succ]
            refine takeL (i := 15) (v := ?_) rfl (by kernel_rfl) (by kernel_rfl) (by kernel_rfl) (fun _ _ _ h => h) (Or.inl ⟨by rfl, ?_⟩) SF.out ?_
            rotate_left
            · intro w hw
              try dsimp only at hw
              go_simp
              try with_reducible rfl
            try simp only [Act.put, List.setIfInBounds_toArray, List.set_cons_zero, List.set_cons_succ]
            refine takeL (i := 16) (v := .agg (LHold.mk y.key z).cells.toArray) rfl (by kernel_rfl) (by kernel_rfl) (by kernel_rfl) (fun _ _ _ h => h) (Or.inl ⟨by rfl, fun wz hwz => exec_load_at wz 64 (.tmp 132) rfl (ca.add (m * 66)) (LHold.mk y.key z).cells _ Tryd.underlying64 rfl HSH.out (fun j u hu => (hwz.cell (by rw [addr_block, addr_block]; exact HCB.out.1)).trans (HCC.out j u hu)) (by go_simp)⟩) SF.out ?_
            try simp only [Act.put, List.setIfInBounds_toArray, List.set_cons_zero, List.set_cons_succ]
            refine takeL (i := 17) (v := ?_) rfl (by kernel_rfl) (by kernel_rfl) (by kernel_rfl) (fun _ _ _ h => h) (Or.inl ⟨by rfl, ?_⟩) SF.out ?_
            rotate_left
            · intro w hw
              try dsimp only at hw
              go_simp
              try with_reducible rfl
            try simp only [Act.put, List.setIfInBounds_toArray, List.set_cons_zero, List.set_cons_succ]
            refine takeL (i := 18) (v := ?_) rfl (by kernel_rfl) (by kernel_rfl) (by kernel_rfl) (fun _ _ _ h => h) (Or.inl ⟨by rfl, ?_⟩) SF.out ?_
            rotate_left
            · intro w hw
              try dsimp only at hw
              have oc := (hw.cell (p := ⟨g2, 41, none⟩) HG5L.out.2).trans HC41.out
              go_simp
              try with_reducible rfl
            try simp only [Act.put, List.setIfInBounds_toArray, List.set_cons_zero, List.set_cons_succ]
            refine takeL (i := 19) (v := ?_) rfl (by kernel_rfl) (by kernel_rfl) (by kernel_rfl) (fun _ _ _ h => h) (Or.inl ⟨by rfl, ?_⟩) SF.out ?_
            rotate_left
            · intro w hw
              try dsimp only at hw
              go_simp
              try with_reducible rfl
            try simp only [Act.put, List.setIfInBounds_toArray, List.set_cons_zero, List.set_cons_succ]
            refine takeL (i := 20) (v := ?_) rfl (by kernel_rfl) (by kernel_rfl) (by kernel_rfl) (fun _ _ _ h => h) (Or.inl ⟨by rfl, ?_⟩) SF.out ?_
            rotate_left
            · intro w hw
              try dsimp only at hw
              go_simp
              try with_reducible rfl
            try simp only [Act.put, List.setIfInBounds_toArray, List.set_cons_zero, List.set_cons_succ]
            refine takeL (i := 21) (v := ?_) rfl (by kernel_rfl) (by kernel_rfl) (by kernel_rfl) (fun _ _ _ h => h) (Or.inl ⟨by rfl, ?_⟩) SF.out ?_
            rotate_left
            · intro w hw
              try dsimp only at hw
              go_simp
              try with_reducible rfl
            try simp only [Act.put, List.setIfInBounds_toArray, List.set_cons_zero, List.set_cons_succ]
            refine takeL (i := 22) (v := .agg (bv y.key).toArray) rfl (by kernel_rfl) (by kernel_rfl) (by kernel_rfl) (fun _ _ _ h => h) (Or.inl ⟨by rfl, fun wz hwz => exec_load_at wz 57 (.tmp 138) rfl (ra.add (k * 34)) (bv y.key) _ Tryd.underlying57 rfl HSK.out (fun j u hu => (hwz.cell (by rw [addr_block, addr_block]; exact HCB.out.2.1)).trans (HYC.out j u (role_key hu))) (by go_simp)⟩) SF.out ?_
            try simp only [Act.put, List.setIfInBounds_toArray, List.set_cons_zero, List.set_cons_succ]
            refine takeL (i := 23) (v := ?_) rfl (by kernel_rfl) (by kernel_rfl) (by kernel_rfl) (fun _ _ _ h => h) (Or.inl ⟨by rfl, ?_⟩) SF.out ?_
            rotate_left
            · intro w hw
              try dsimp only at hw
              go_simp
              try with_reducible rfl
            try simp only [Act.put, List.setIfInBounds_toArray, List.set_cons_zero, List.set_cons_succ]
            refine takeL (i := 24) (v := ?_) rfl (by kernel_rfl) (by kernel_rfl) (by kernel_rfl) (fun _ _ _ h => h) (Or.inl ⟨by rfl, ?_⟩) SF.out ?_
            rotate_left
            · intro w hw
              try dsimp only at hw
              go_simp
              try with_reducible rfl
            try simp only [Act.put, List.setIfInBounds_toArray, List.set_cons_zero, List.set_cons_succ]
            refine takeL (i := 25) (v := ?_) rfl (by kernel_rfl) (by kernel_rfl) (by kernel_rfl) (fun _ _ _ h => h) (Or.inl ⟨by rfl, ?_⟩) SF.out ?_
            rotate_left
            · intro w hw
              try dsimp only at hw
              go_simp
              try with_reducible rfl
            try simp only [Act.put, List.setIfInBounds_toArray, List.set_cons_zero, List.set_cons_succ]
            refine takeL (i := 26) (v := .agg z.cells.toArray) rfl (by kernel_rfl) (by kernel_rfl) (by kernel_rfl) (fun _ _ _ h => h) (Or.inl ⟨by rfl, fun wz hwz => exec_load_at wz 59 (.tmp 142) rfl (la.add (k * 34)) z.cells _ Tryd.underlying59 rfl (size_acc HZO.out.o.1) (fun j u hu => (hwz.cell (by rw [addr_block, addr_block]; exact HCB.out.2.2)).trans (HZC.out j u hu)) (by go_simp)⟩) SF.out ?_
            try simp only [Act.put, List.setIfInBounds_toArray, List.set_cons_zero, List.set_cons_succ]
            refine takeL (i := 27) (v := .agg (LHold.mk y.key z).cells.toArray) rfl (by kernel_rfl) (by kernel_rfl) (by kernel_rfl) (fun _ _ _ h => h) (Or.inl ⟨by rfl, fun wz hwz => exec_built wz _ _ _ rfl (by simp only [List.map_toArray, List.map_cons, List.map_nil]; exact HBU.out)⟩) SF.out ?_
            try simp only [Act.put, List.setIfInBounds_toArray, List.set_cons_zero, List.set_cons_succ]
            refine takeL (i := 28) (v := ?_) rfl (by kernel_rfl) (by kernel_rfl) (by kernel_rfl) (fun _ _ _ h => h) (Or.inl ⟨by rfl, ?_⟩) SF.out ?_
            rotate_left
            · intro w hw
              try dsimp only at hw
              have hne := HNE.out
              go_simp
              try with_reducible rfl
            try simp only [Act.put, List.setIfInBounds_toArray, List.set_cons_zero, List.set_cons_succ]
            refine takeL (i := 29) (v := ?_) rfl (by kernel_rfl) (by kernel_rfl) (by kernel_rfl) (fun _ _ _ h => h) (Or.inl ⟨by rfl, ?_⟩) SF.out ?_
            rotate_left
            · intro w hw
              try dsimp only at hw
              go_simp
              try with_reducible rfl
            try simp only [Act.put, List.setIfInBounds_toArray, List.set_cons_zero, List.set_cons_succ]
            refine wpAnyH_done (by kernel_rfl) ?_ _
            go_wp2_with fail
            go_roundw
            case rel => exact ⟨k + 1, by omega, by go_num, by rw [HS2.out]; go_num, BW.out.trans (SF.out.mono BW.out.size)⟩
            case measure => simp [intOf]; omega
        · obtain rfl : k = rn := by omega
          have HEND : Hid ((chg15 (x.roles.take k) (l.take k)).length = cn) := Lib.hid (by
            rw [List.take_of_length_le (by rw [HRL.out, ← HRN.out]; exact Nat.le_refl _), List.take_of_length_le (by rw [HLL.out]; omega), ← HCH.out, HCN.out])
          rw [HEND.out]
          have XW := Lib.hid (X3.out.b.trans (BW.out.mono X3.out.b.size))
          go_wp2_with fail
          refine (lives15 _ (HT.out.below XW.out HT.out.pos)).mono ?_
          rintro e wl ⟨rfl, hbl⟩
          have BL := Lib.hid (XW.out.trans (hbl.mono XW.out.size))
          clear hbl
          go_wp2_with fail
          go_ret
          exact ⟨rfl, BL.out⟩
end Go.Proofs.YtaljfbbieefooaaDoor

/-
  Of part Use15: what is needed here.
-/
namespace Go.Proofs.YtaljfbbieefooaaDoor
open Go.RowKit
set_option linter.unusedVariables false
theorem rd_ok15 {w : World} {B : Nat} {q : YRaw} {x : LReady} (h : RdOk x) (hi : ReadyIn w B q x) : RdOk15 x :=
  ⟨fun a ha => (h.wf.m.ins a ha).1, fun a ha => (h.wf.m.ins a ha).2, h.u, h.fee, fun r hr => (hi.rs.ok r hr).2⟩
theorem rd_wide15 {x : LReady} (h : RdOk x) : Wide15 x := by
  obtain ⟨_, h1, h2, _, h3, h4, _⟩ := h
  exact ⟨h1, h3, h4, h2⟩
end Go.Proofs.YtaljfbbieefooaaDoor
