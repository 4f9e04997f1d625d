/-
  Parts joined: Written15 Strange15 Run15 Load15.
-/
import Derived.Below
import Derived.Laws.OwnMore
import Derived.Deep.AppendLies
import Derived.Deep.Draws
import Derived.Lib.Hide
import Derived.Laws.MakeOwn
import Derived.Laws.CopyOwn
import Derived.Laws.Rows
import Derived.Laws.BitsAllLaws
import Derived.WalkKit
import Derived.Test.YtfaefpniiiandaaDoorRows
import Derived.WalkSpells
import Derived.WalkLawsBesides
import Derived.IntWalk
import Derived.Deep.MidRow
import Derived.Deep.WholeRow
import Derived.Maps.AppendAt
import Derived.OwnWalk
import Derived.Great.BuildSlice
import Derived.Recover
import Derived.Deep.RegionHeld
import Derived.Deep.QuietTactic
import Derived.BigQuiet
import Derived.ChangeKeysEq
import Derived.Deep.RegionHeld2
import Derived.Deep.CutBlock
import Derived.Laws.Tables
import Derived.ProofKit
import Derived.OpenShut
import Derived.ShutString
import Derived.ChangeOld
import Derived.Lib.SmallJoins
import Derived.Deep.Slices
import Derived.Deep.Strs
import Derived.SizedLaws
import Derived.Laws.StructEq
import Derived.Laws.Slices
import Derived.Deep.DeepCutAuto
import Derived.Maps.OwnSet
import Derived.DeepKeys4
import Derived.WideKeyArr
import Derived.Laws.EntriesVeiled
import Derived.Deep.RegionHeld3
import Derived.WideKeyEntry
import Derived.WalkMore
import Derived.Shelf.SlMaps.Clone
import Derived.Laws.Append
import Derived.Laws.AppendOwn
import Derived.LaidMore
import Derived.Maps.OwnOps
import Derived.Maps.RangeWalk
import Derived.Laws.BytesArg
import Derived.Laws.Strings
import Derived.Lib.Strings
import Derived.Great.Walk
import Derived.Laws.Bits64b
import Derived.Laws.Externs
import Derived.LaidHandle
import Derived.LaidLaws
import Derived.LaidEql
import Derived.Stop.Asserts
import Derived.RowKitTokens
import Derived.Test.YtfaefpniiiandaaDoorB1
import Derived.Test.YtfaefpniiiandaaDoorB2
import Derived.Test.YtfaefpniiiandaaDoorB3
import Derived.Test.YtfaefpniiiandaaDoorB4
import Derived.Test.YtfaefpniiiandaaDoorB5
import Derived.Test.YtfaefpniiiandaaDoorB6
import Derived.Test.YtfaefpniiiandaaDoorB7
import Derived.Test.YtfaefpniiiandaaDoorB8
import Derived.Test.YtfaefpniiiandaaDoorB9
/-
  Of part Written15: what is needed here.
-/
namespace Go.Proofs.YtfaefpniiiandaaDoor
open Go.RowKit
set_option linter.unusedVariables false
set_option maxRecDepth 100000
set_option maxHeartbeats 400000 in
theorem clipHo15 (A : Option Addr) (n c : Nat) (w : World) (hnc : n ≤ c) (hc : c ≤ maxLen) :
    Calls Tryd.prog 56 #[.slice A n c] w fun e w' => e = .returned (.slice A n n) ∧ w = w' := by
  unfold maxLen at hc
  go_enter Tryd.func56, Tryd.ntmps56
  go_wp2
  go_ret
  exact ⟨rfl, rfl⟩
theorem own_new15 {w : World} {v : Value} {base n size : Nat} {e : TypeId} {xs : List Value} (hown : w.ownsRow base e size v n xs) {g : Nat} (hg : w.heap.size ≤ g) : some g ≠ v.ownBlock := fun e' => by
  have := (hown.lt g e'.symm).2
  omega
/-- what written answers: holdings of the call's own, clipped -/
def WrDone (w : World) (L : List LHold) (e : Ending) (w' : World) : Prop := ∃ A c, e = .returned (.slice A L.length L.length) ∧ w'.ownsRow w.heap.size 64 66 (.slice A L.length c) L.length (holC L) ∧ Below w.heap.size w w'
set_option maxHeartbeats 8000000 in
theorem written15 (RA : Option Addr) (rn rc' B : Nat) (rs : List LRole) (LA : Option Addr) (ln lc : Nat) (l : List LAcc) (w : World) (hr : RolesIn w B RA rn rs) (hl : AccsIn w B LA ln l) (hlc : ln ≤ lc) (hn : ln = rn) (hB : B ≤ w.heap.size) (hln : ln ≤ 100000) :
    Calls Tryd.prog 35 #[.slice RA rn rc', .slice LA ln lc] w (WrDone w (chg15 rs l)) := by
  have HB := Lib.hid hB
  have HRN := Lib.hid (fun (V : World) (hb : Below w.heap.size w V) => hr.below (hb.mono hB))
  have HLN := Lib.hid (fun (V : World) (hb : Below w.heap.size w V) => hl.below (hb.mono hB))
  have HLL := Lib.hid hl.len
  have HRL0 := Lib.hid hr.len
  subst hn
  clear hr hl hB
  obtain ⟨base, hbase⟩ : ∃ b, b = w.heap.size := ⟨_, rfl⟩
  go_enter Tryd.func35, Tryd.ntmps35
  go_wp2_with fail
  go_loopw [10, 5] (fun i o wr => ∃ k : Nat, k ≤ ln ∧ i = .int .i64 k ∧ wr.ownsRow base 64 66 o (chg15 (rs.take k) (l.take k)).length (holC (chg15 (rs.take k) (l.take k))) ∧ Below w.heap.size w wr) (fun i _ _ => ln - (intOf i).toNat)
  case atStart => exact ⟨0, Nat.zero_le _, rfl, by rw [List.take_zero]; exact own_nilN _ _ _ _, Below.refl _ _⟩
  case round =>
    obtain ⟨k, hk, rfl, hown, hbw⟩ := hrel
    have O := Lib.hid hown
    have BW := Lib.hid hbw
    clear hown hbw
    rename World => wr
    by_cases hlt : k < ln
    · have hlt' : (k : Int) < ln := by omega
      have hk100 : k < 100000 := by omega
      obtain ⟨ra, y, era, hrb, hy, hyo, hcr⟩ := (HRN.out wr BW.out).get (k := k) hlt
      obtain ⟨la, z, ela, hlb, hz, hzo, hzc⟩ := (HLN.out wr BW.out).get hlt
      have HSN := Lib.hid (chg_snoc15 hy hz)
      have HCR := Lib.hid hcr
      have HZC := Lib.hid hzc
      have HYO := Lib.hid hyo
      have HZO := Lib.hid hzo
      have HBL : Hid (la.block < base) := Lib.hid (by rw [hbase]; exact Nat.lt_of_lt_of_le hlb HB.out)
      have HWB : Hid (base ≤ wr.heap.size) := Lib.hid (by rw [hbase]; exact BW.out.size)
      have HSR := Lib.hid (size_role hyo.1)
      have HRL := Lib.hid (role_len hyo.1)
      have HR1 := Lib.hid (role_one y)
      have HWR := Lib.hid (role_wr hyo.1)
      have HRK : Hid (∀ j u, (bv y.key)[j]? = some u → y.cells[j]? = some u) := Lib.hid fun j u hu => role_key hu
      subst ela era
      clear hrb hy hyo hcr hlb hz hzo hzc
      cases hw : y.wr with
      | false =>
        rw [hw] at HWR HSN
        generalize y.cells = rc at *
        go_wp2_with (first
          | ((with_reducible show wpList _ _ _ ({ dst := some 14, op := Op.load _ _, type := _, pos := _, after := _, guard := _ } :: _) _ _); go_must (refine wpList_load_at rfl 62 (.tmp 13) rfl (ra.add (k * 34)) rc _ Tryd.underlying62 rfl HSR.out HCR.out ?_ ?_; go_simp))
          | ((with_reducible show wpList _ _ _ ({ dst := none, op := Op.store 62 _ _, type := _, pos := _, after := _, guard := _ } :: _) _ _); go_must (refine wpList_store_new rfl 62 (.tmp 7) (.tmp 14) rfl rc HSR.out HR1.out (by rw [HRL.out]; rfl) ?_ ?_ ?_; go_simp; go_simp; intro w2 hr1 hb1 hz1; have R1 := Lib.hid hr1; have B1 := Lib.hid hb1; clear hr1 hb1 hz1; have d33 := (R1.out.cell 33).trans HWR.out)))
        go_roundw
        case rel => exact ⟨k + 1, by omega, by go_num, by rw [HSN.out]; simpa using own_below O.out B1.out, BW.out.trans (B1.out.mono BW.out.size)⟩
        case measure => simp [intOf]; omega
      | true =>
        rw [hw] at HWR HSN
        rw [if_pos rfl] at HSN
        have HKK : Hid ((LHold.mk y.key z).cells.length = 66) := Lib.hid (hold_len HYO.out.1 HZO.out.o.1)
        have HBU := Lib.hid (built_hold15 (l := bv y.key) (m := z.cells) (by rw [bv_length, HYO.out.1]) (acc_len HZO.out.o.1))
        generalize y.cells = rc at *
        go_upto_region 6 with (first
          | ((with_reducible show wpList _ _ _ ({ dst := some 14, op := Op.load _ _, type := _, pos := _, after := _, guard := _ } :: _) _ _); go_must (refine wpList_load_at rfl 62 (.tmp 13) rfl (ra.add (k * 34)) rc _ Tryd.underlying62 rfl HSR.out HCR.out ?_ ?_; go_simp))
          | ((with_reducible show wpList _ _ _ ({ dst := none, op := Op.store 62 _ _, type := _, pos := _, after := _, guard := _ } :: _) _ _); go_must (refine wpList_store_new rfl 62 (.tmp 7) (.tmp 14) rfl rc HSR.out HR1.out (by rw [HRL.out]; rfl) ?_ ?_ ?_; go_simp; go_simp; intro w2 hr1 hb1 hz1; have R1 := Lib.hid hr1; have B1 := Lib.hid hb1; clear hr1 hb1 hz1; have d33 := (R1.out.cell 33).trans HWR.out)))
        clear d33
        have O1 := Lib.hid (own_below O.out B1.out)
        have HNE := Lib.hid (own_new15 O.out (Nat.le_refl wr.heap.size))
        obtain ⟨g, hg⟩ : ∃ g, g = wr.heap.size := ⟨_, rfl⟩
        rw [← hg] at R1 HNE ⊢
        have B2 := Lib.hid (BW.out.trans (B1.out.mono BW.out.size))
        have HZC2 : Hid (∀ j u, z.cells[j]? = some u → w2.cell? ((la.add (k * 34)).add j) = some u) := Lib.hid fun j u hu => (B1.out.cell (by rw [addr_block, addr_block]; exact Nat.lt_of_lt_of_le HBL.out HWB.out)).trans (HZC.out j u hu)
        have SZ2 : Hid (base ≤ w2.heap.size) := Lib.hid (by rw [hbase]; exact B2.out.size)
        clear O HZC
        refine wp_region_held_drew (S := fun V => Below base w2 V ∧ Row V g 62 rc) (by kernel_rfl) ⟨(Below.refl base w2).drew, R1.out.drew⟩ (fun _ => ?_)
        try dsimp only [List.append]
        have O := Lib.hid (show w2.drew.ownsRow base 64 66 u5 _ _ from O1.out)
        have BD := Lib.hid (show Below base w2 w2.drew ∧ Row w2.drew g 62 rc from ⟨(Below.refl base w2).drew, R1.out.drew⟩)
        have SZ : Hid (base ≤ w2.drew.heap.size) := Lib.hid SZ2.out
        clear O1
        generalize w2.drew = wd at *
        refine takeL (i := 0) (v := ?_) rfl (by kernel_rfl) (by kernel_rfl) (by kernel_rfl) (fun _ _ _ h => h) (Or.inl ⟨by rfl, ?_⟩) BD.out ?_
        rotate_left
        · intro w hw
          try dsimp only at hw
          go_simp
          try with_reducible rfl
        try simp only [Act.put, List.setIfInBounds_toArray, List.set_cons_zero, List.set_cons_succ]
        refine takeL (i := 1) (v := ?_) rfl (by kernel_rfl) (by kernel_rfl) (by kernel_rfl) (fun _ _ _ h => h) (Or.inl ⟨by rfl, ?_⟩) BD.out ?_
        rotate_left
        · intro w hw
          try dsimp only at hw
          go_simp
          try with_reducible rfl
        try simp only [Act.put, List.setIfInBounds_toArray, List.set_cons_zero, List.set_cons_succ]
        refine takeL (i := 2) (v := .agg (bv y.key).toArray) rfl (by kernel_rfl) (by kernel_rfl) (by kernel_rfl) (fun _ _ _ h => h) (Or.inl ⟨by rfl, fun wz hwz => exec_load_at wz 57 (.tmp 18) rfl ⟨g, 0, none⟩ (bv y.key) _ Tryd.underlying57 rfl (by rw [size_key, bv_length, HYO.out.1]) (fun j u hu => by rw [addr_row, Nat.zero_add]; exact (hwz.2.cell j).trans (HRK.out j u hu)) (by go_simp)⟩) BD.out ?_
        try simp only [Act.put, List.setIfInBounds_toArray, List.set_cons_zero, List.set_cons_succ]
        refine takeL (i := 3) (v := ?_) rfl (by kernel_rfl) (by kernel_rfl) (by kernel_rfl) (fun _ _ _ h => h) (Or.inl ⟨by rfl, ?_⟩) BD.out ?_
        rotate_left
        · intro w hw
          try dsimp only at hw
          go_simp
          try with_reducible rfl
        try simp only [Act.put, List.setIfInBounds_toArray, List.set_cons_zero, List.set_cons_succ]
        refine takeL (i := 4) (v := ?_) rfl (by kernel_rfl) (by kernel_rfl) (by kernel_rfl) (fun _ _ _ h => h) (Or.inl ⟨by rfl, ?_⟩) BD.out ?_
        rotate_left
        · intro w hw
          try dsimp only at hw
          go_simp
          try with_reducible rfl
        try simp only [Act.put, List.setIfInBounds_toArray, List.set_cons_zero, List.set_cons_succ]
        refine takeL (i := 5) (v := ?_) rfl (by kernel_rfl) (by kernel_rfl) (by kernel_rfl) (fun _ _ _ h => h) (Or.inl ⟨by rfl, ?_⟩) BD.out ?_
        rotate_left
        · intro w hw
          try dsimp only at hw
          go_simp
          try with_reducible rfl
        try simp only [Act.put, List.setIfInBounds_toArray, List.set_cons_zero, List.set_cons_succ]
        refine takeL (i := 6) (v := .agg z.cells.toArray) rfl (by kernel_rfl) (by kernel_rfl) (by kernel_rfl) (fun _ _ _ h => h) (Or.inl ⟨by rfl, fun wz hwz => exec_load_at wz 59 (.tmp 22) rfl (la.add (k * 34)) z.cells _ Tryd.underlying59 rfl (size_acc HZO.out.o.1) (fun j u hu => (hwz.1.cell (by rw [addr_block, addr_block]; exact HBL.out)).trans (HZC2.out j u hu)) (by go_simp)⟩) BD.out ?_
        try simp only [Act.put, List.setIfInBounds_toArray, List.set_cons_zero, List.set_cons_succ]
        refine takeL (i := 7) (v := .agg (LHold.mk y.key z).cells.toArray) rfl (by kernel_rfl) (by kernel_rfl) (by kernel_rfl) (fun _ _ _ h => h) (Or.inl ⟨by rfl, fun wz hwz => exec_built wz _ _ _ rfl (by simp only [List.map_toArray, List.map_cons, List.map_nil]; exact HBU.out)⟩) BD.out ?_
        try simp only [Act.put, List.setIfInBounds_toArray, List.set_cons_zero, List.set_cons_succ]
        refine readyL (i := 8) rfl (by kernel_rfl) (by kernel_rfl) fun K hK => ?_
        refine wp_buildOne 22 64 (.tmp 24) rfl (LHold.mk y.key z).cells _ 66 80 Tryd.underlying22 infoHo zszHo (by omega) (by omega) HKK.out (by go_simp) ?_
        have BE := Lib.hid (show Below base w2 _ ∧ Row _ g 62 rc from ⟨BD.out.1.alloc SZ.out (.cells (LHold.mk y.key z).cells.toArray 64), BD.out.2.alloc (.cells (LHold.mk y.key z).cells.toArray 64)⟩)
        refine hK.out _ _ BE.out ?_
        clear hK K
        try simp only [Act.put, List.setIfInBounds_toArray, List.set_cons_zero, List.set_cons_succ]
        refine readyL (i := 9) rfl (by kernel_rfl) (by kernel_rfl) fun K hK => ?_
        refine wp_addRow (.tmp 17) (.tmp 25) 22 rfl base 64 _ 66 80 Tryd.underlying22 infoHo zszHo (by omega) u5 _ _ (LHold.mk y.key z).cells 1 HKK.out (hold_one _) rfl (by go_simp) O.out (by go_simp) SZ.out (by have := chg_len15 (rs.take k) (l.take k); have := List.length_take_le k l; unfold maxLen; omega) (by have := chg_len15 (rs.take k) (l.take k); have := List.length_take_le k l; omega) (fun v9 w9 ho9 hg9 => ?_)
        have B9 := Lib.hid (show Below base w2 w9 ∧ Row w9 g 62 rc from ⟨BD.out.1.trans (hg9.below O.out SZ.out), hg9.row BD.out.2 HNE.out⟩)
        have O9 := Lib.hid ho9
        clear ho9 hg9 BE
        refine hK.out _ _ B9.out ?_
        clear hK K
        try simp only [Act.put, List.setIfInBounds_toArray, List.set_cons_zero, List.set_cons_succ]
        refine takeL (i := 10) (v := ?_) rfl (by kernel_rfl) (by kernel_rfl) (by kernel_rfl) (fun _ _ _ h => h) (Or.inl ⟨by rfl, ?_⟩) B9.out ?_
        rotate_left
        · intro w hw
          try dsimp only at hw
          go_simp
          try with_reducible rfl
        try simp only [Act.put, List.setIfInBounds_toArray, List.set_cons_zero, List.set_cons_succ]
        refine wpAnyH_done (by kernel_rfl) ?_ _
        go_wp2_with fail
        go_roundw
        case rel => exact ⟨k + 1, by omega, by go_num, by rw [HSN.out, holC_snoc, List.length_append]; exact O9.out, B2.out.trans (by rw [← hbase]; exact B9.out.1)⟩
        case measure => simp [intOf]; omega
    · obtain rfl : k = ln := by omega
      have e1 : rs.take k = rs := List.take_of_length_le (by rw [HRL0.out]; exact Nat.le_refl _)
      have e2 : l.take k = l := List.take_of_length_le (by rw [HLL.out]; exact Nat.le_refl _)
      have O2 := O.out
      rw [e1, e2] at O2
      clear e1 e2 O
      obtain ⟨A2, c2, he, _, hr1, hr2, _⟩ := own_form2 O2
      subst he
      have O3 := Lib.hid O2
      have HCL := Lib.hid (clipHo15 A2 (chg15 rs l).length c2 wr hr1 hr2)
      clear O2 hr1 hr2
      go_wp2_with fail
      refine HCL.out.mono ?_
      rintro e w9 ⟨rfl, rfl⟩
      go_wp2_with fail
      go_ret
      exact ⟨A2, c2, rfl, by rw [← hbase]; exact O3.out, BW.out⟩
end Go.Proofs.YtfaefpniiiandaaDoor

/-
  Of part Strange15: what is needed here.
-/
namespace Go.Proofs.YtfaefpniiiandaaDoor
open Go.RowKit
set_option linter.unusedVariables false
set_option maxRecDepth 100000
def stg15 (rn : Nat) (a : LIn) : Bool := decide ((rn : Int) ≤ a.p)
set_option maxHeartbeats 800000 in
theorem strange115 (p : Int) (AA : Option Addr) (an ac : Nat) (DD : Option Addr) (dn dc : Nat) (rn g : Nat) (RA : Option Addr) (rc : Nat) (w : World) (h0 : 0 ≤ p) (h1 : p < 256) (hr : rn ≤ 100000) (ct : w.cell? ⟨g, 41, none⟩ = some (.slice RA rn rc)) :
    Calls Tryd.prog 49 #[.agg (insC p AA an ac DD dn dc).toArray, .pointer (some ⟨g, 0, none⟩)] w fun e w' => e = .returned (.bool (decide ((rn : Int) ≤ p))) ∧ Below w.heap.size w w' := by
  have hb0 := (Below.refl w.heap.size w).alloc (Nat.le_refl _) (.cells (insC p AA an ac DD dn dc).toArray 70)
  have HB0 := Lib.hid hb0
  have ct2 := (hb0.cell (block_lt_of_cell ct)).trans ct
  have c0 : (w.alloc (.cells (insC p AA an ac DD dn dc).toArray 70)).cell? ⟨w.heap.size, 0, none⟩ = some (.int .u8 p) := (Row.new w 70 (insC p AA an ac DD dn dc)).cell 0
  clear hb0 ct
  have hw : IntKind.i64.wrap p = p := IntWalk.i64_in (by omega) (by omega)
  by_cases h : (rn : Int) ≤ p
  · have hp : Hid (decide ((rn : Int) ≤ p) = true) := Lib.hid (decide_eq_true h)
    go_enter Tryd.func49, Tryd.ntmps49
    go_wp2_with fail
    go_ret
    exact ⟨told_bool hp.out.symm, HB0.out⟩
  · have hp : Hid (decide ((rn : Int) ≤ p) = false) := Lib.hid (decide_eq_false h)
    go_enter Tryd.func49, Tryd.ntmps49
    go_wp2_with fail
    go_ret
    exact ⟨told_bool hp.out.symm, HB0.out⟩
def IdxDone15 (b : Bool) (e : Ending) : Prop := ∃ r : Int, e = .returned (.int .i64 r) ∧ (0 ≤ r ↔ b = true)
theorem any_take15 {l : List LIn} {k : Nat} {a : LIn} {f : LIn → Bool} (h : l[k]? = some a) : (l.take (k + 1)).any f = ((l.take k).any f || f a) := by
  rw [List.take_add_one, h]
  simp
set_option maxHeartbeats 4000000 in
theorem index15 (A : Option Addr) (n c B g rn : Nat) (RA : Option Addr) (rc : Nat) (l : List LIn) (w : World) (hs : InsIn w B A n l) (hB : B ≤ w.heap.size) (hb : ∀ a ∈ l, IsByte a.p) (hn : n ≤ 100000) (hr : rn ≤ 100000) (ct : w.cell? ⟨g, 41, none⟩ = some (.slice RA rn rc)) :
    Calls Tryd.prog 64 #[.slice A n c, .func (.func 49) #[] #[.pointer (some ⟨g, 0, none⟩)]] w fun e w' => IdxDone15 (l.any (stg15 rn)) e ∧ Below w.heap.size w w' := by
  have HL := Lib.hid hs.len
  have HB := Lib.hid hb
  have HS := Lib.hid (fun (V : World) (hv : Below w.heap.size w V) => hs.below (hv.mono hB))
  have HG := Lib.hid (fun (V : World) (hv : Below w.heap.size w V) => (hv.cell (block_lt_of_cell ct)).trans ct)
  clear hb hs hB ct
  go_enter Tryd.func64, Tryd.ntmps64
  go_wp2_with fail
  go_loopw [8] (fun i wr => ∃ k : Nat, k ≤ n ∧ i = .int .i64 k ∧ (l.take k).any (stg15 rn) = false ∧ Below w.heap.size w wr) (fun i _ => n - (intOf i).toNat)
  case atStart => exact ⟨0, Nat.zero_le _, rfl, by simp, Below.refl _ _⟩
  case round =>
    obtain ⟨k, hk, rfl, hany, hbw⟩ := hrel
    have HA := Lib.hid hany
    have BW := Lib.hid hbw
    clear hany hbw
    rename World => wr
    by_cases hlt : k < n
    · have hlt' : (k : Int) < n := by omega
      obtain ⟨ia, a, va, vd, hia, hib, ha, hat⟩ := (HS.out wr BW.out).get (k := k) hlt
      obtain ⟨AA, ac, rfl, ha1, ha2, ha3⟩ := hat.acc.is
      obtain ⟨DD, dc, rfl, hd1, hd2, hd3⟩ := hat.dat.is
      have HCE := Lib.hid hat.cells
      have hpb := HB.out a (List.mem_of_getElem? ha)
      have HX := Lib.hid (any_take15 (f := stg15 rn) ha)
      have HME := Lib.hid (List.mem_of_getElem? ha)
      have HC := Lib.hid (strange115 a.p AA a.acc.length ac DD a.dat.length dc rn g RA rc wr hpb.1 hpb.2 hr (HG.out wr BW.out))
      subst hia
      clear hib ha hat ha1 ha2 ha3 hd1 hd2 hd3 hpb
      by_cases hp : (rn : Int) ≤ a.p
      · have HP : Hid (l.any (stg15 rn) = true) := Lib.hid (List.any_eq_true.2 ⟨a, HME.out, decide_eq_true hp⟩)
        have hpd : decide ((rn : Int) ≤ a.p) = true := decide_eq_true hp
        have HC2 := Lib.hid HC.out
        rw [hpd] at HC2
        clear HC hpd hp
        go_wp2_with (first
          | ((with_reducible show wpList _ _ _ ({ dst := some 15, op := Op.load _ _, type := _, pos := _, after := _, guard := _ } :: _) _ _); go_must (refine wpList_load_at rfl 70 (.tmp 14) rfl (ia.add (k * 3)) (insC a.p AA a.acc.length ac DD a.dat.length dc) _ Tryd.underlying70 rfl (by kernel_rfl) HCE.out ?_ ?_; go_simp))
          | (go_at_call 49; refine HC2.out.mono ?_; rintro e w' ⟨rfl, hb9⟩; have B9 := Lib.hid hb9; clear hb9))
        go_ret
        exact ⟨⟨_, rfl, by constructor; (intro _; exact HP.out); (intro _; omega)⟩, BW.out.trans (B9.out.mono BW.out.size)⟩
      · have HP : Hid ((l.take (k + 1)).any (stg15 rn) = false) := Lib.hid (by rw [HX.out, HA.out]; exact decide_eq_false hp)
        have hpd : decide ((rn : Int) ≤ a.p) = false := decide_eq_false hp
        have HC2 := Lib.hid HC.out
        rw [hpd] at HC2
        clear HC hpd hp
        go_wp2_with (first
          | ((with_reducible show wpList _ _ _ ({ dst := some 15, op := Op.load _ _, type := _, pos := _, after := _, guard := _ } :: _) _ _); go_must (refine wpList_load_at rfl 70 (.tmp 14) rfl (ia.add (k * 3)) (insC a.p AA a.acc.length ac DD a.dat.length dc) _ Tryd.underlying70 rfl (by kernel_rfl) HCE.out ?_ ?_; go_simp))
          | (go_at_call 49; refine HC2.out.mono ?_; rintro e w' ⟨rfl, hb9⟩; have B9 := Lib.hid hb9; clear hb9))
        go_roundw
        case rel => exact ⟨k + 1, by omega, by go_num, HP.out, BW.out.trans (B9.out.mono BW.out.size)⟩
        case measure => simp [intOf]; omega
    · obtain rfl : k = n := by omega
      have HE : Hid (l.any (stg15 rn) = false) := Lib.hid (by
        have h1 := HA.out
        rwa [List.take_of_length_le (by rw [HL.out]; exact Nat.le_refl _)] at h1)
      go_wp2_with fail
      go_ret
      exact ⟨⟨_, rfl, by rw [HE.out]; simp⟩, BW.out⟩
theorem idx_told15 {b : Bool} {r : Int} (h : 0 ≤ r ↔ b = true) : decide (0 ≤ r) = b := by
  cases b with
  | true => exact decide_eq_true (h.2 rfl)
  | false => exact decide_eq_false (fun e => by cases h.1 e)
set_option maxHeartbeats 800000 in
theorem contains15 (A : Option Addr) (n c B g rn : Nat) (RA : Option Addr) (rc : Nat) (l : List LIn) (w : World) (hs : InsIn w B A n l) (hB : B ≤ w.heap.size) (hb : ∀ a ∈ l, IsByte a.p) (hn : n ≤ 100000) (hr : rn ≤ 100000) (ct : w.cell? ⟨g, 41, none⟩ = some (.slice RA rn rc)) :
    Calls Tryd.prog 48 #[.slice A n c, .func (.func 49) #[] #[.pointer (some ⟨g, 0, none⟩)]] w fun e w' => e = .returned (.bool (l.any (stg15 rn))) ∧ Below w.heap.size w w' := by
  have HI := Lib.hid (index15 A n c B g rn RA rc l w hs hB hb hn hr ct)
  clear hs hb hB ct
  go_enter Tryd.func48, Tryd.ntmps48
  go_wp2_with fail
  refine HI.out.mono ?_
  rintro e w' ⟨⟨r, rfl, hr⟩, hb9⟩
  have HR := Lib.hid hr
  have B9 := Lib.hid hb9
  clear hr hb9
  go_wp2_with fail
  go_ret
  exact ⟨told_bool (by first | exact (idx_told15 HR.out).symm | exact idx_told15 HR.out), B9.out⟩
set_option maxHeartbeats 800000 in
theorem strange15 (q : YRaw) (x : LReady) (B : Nat) (w : World) (h : ReadyIn w B q x) (hB : B ≤ w.heap.size) (hb : ∀ a ∈ x.tx.m.ins, IsByte a.p) (hn : q.t.q.n ≤ 65535) (hr : q.rn ≤ 100000) :
    Calls Tryd.prog 32 #[.agg (q.cells x).toArray] w fun e w' => e = .returned (.bool (x.tx.m.ins.any (stg15 q.rn))) ∧ Below w.heap.size w w' := by
  have hmf : ∀ (fn : Fn) (first cap : Array Value) (w : World), (Instr.makeFunc fn first cap).run Tryd.prog w = .ok (.func fn first cap) w := fun _ _ _ _ => rfl
  have hb0 := (Below.refl w.heap.size w).alloc (Nat.le_refl _) (.cells (q.cells x).toArray 41)
  have HB0 := Lib.hid hb0
  have R0 := Row.new w 41 (q.cells x)
  have c39 : (w.alloc (.cells (q.cells x).toArray 41)).cell? ⟨w.heap.size, 39, none⟩ = some (.slice q.t.q.IA q.t.q.n q.t.q.ic) := (R0.cell 39).trans (ycells_39 h.tx.m.recent)
  have c41 : (w.alloc (.cells (q.cells x).toArray 41)).cell? ⟨w.heap.size, 41, none⟩ = some (.slice q.RA q.rn q.rc) := (R0.cell 41).trans (ycells_41 h.tx.m.recent 0)
  have HC := Lib.hid (contains15 q.t.q.IA q.t.q.n q.t.q.ic B w.heap.size q.rn q.RA q.rc x.tx.m.ins _ (h.tx.m.ins.below (hb0.mono hB)) (Nat.le_trans hB hb0.size) hb (by omega) hr c41)
  clear h hb0 R0 hb c41
  go_enter Tryd.func32, Tryd.ntmps32
  go_wp2_with (go_at_call 48; refine HC.out.mono ?_; rintro e w' ⟨rfl, hb9⟩; have B9 := Lib.hid hb9; clear hb9)
  go_ret
  exact ⟨rfl, HB0.out.trans (B9.out.mono HB0.out.size)⟩
end Go.Proofs.YtfaefpniiiandaaDoor

/-
  Of part Run15: what is needed here.
-/
namespace Go.Proofs.YtfaefpniiiandaaDoor
open Go.RowKit
set_option linter.unusedVariables false
set_option maxRecDepth 100000
/-- what Run answers: holdings of the call's own, clipped -/
def RunDoneC (w : World) (R : LOut × Int) (e : Ending) (w' : World) : Prop := ∃ A c, e = .returned (.tuple #[.agg (R.1.cells (.slice A R.1.ch.length R.1.ch.length)).toArray, .int .i64 R.2]) ∧ w'.ownsRow w.heap.size 64 66 (.slice A R.1.ch.length c) R.1.ch.length (holC R.1.ch) ∧ Below w.heap.size w w'
theorem run_badC {w w' : World} {R : LOut × Int} (h : R = (out0, 1)) (hb : Below w.heap.size w w') : RunDoneC w R (.returned (.tuple #[.agg (out0.cells (.slice none 0 0)).toArray, .int .i64 1])) w' := by
  subst h
  exact ⟨none, 0, rfl, own_nilN _ _ _ _, hb⟩
theorem built_wk15 (RA LA : Option Addr) (rn rc ln lc : Nat) (u : Int) : Tryd.prog.built 96 [(0, .slice RA rn rc), (1, .slice LA ln lc), (2, .int .u64 u)] = some (wkC RA rn rc (.slice LA ln lc) u 0).toArray := by kernel_rfl
theorem zero_wk15 : (Tryd.prog.info? 96).map (·.zero) = some (some (.agg (wkC none 0 0 (.slice none 0 0) 0 0).toArray)) := by kernel_rfl
theorem wk_one15 {RA LA : Option Addr} {rn rc ln lc : Nat} {u s : Int} : ∀ y ∈ wkC RA rn rc (.slice LA ln lc) u s, y.oneCell' = true := by
  intro y hy
  simp only [wkC, List.mem_cons, List.not_mem_nil, or_false] at hy
  rcases hy with rfl | rfl | rfl | rfl <;> rfl
theorem built_o15 (u f s : Int) : Tryd.prog.built 54 [(1, .int .i64 (-1)), (2, .int .u64 u), (3, .int .u64 f), (4, .int .u64 s)] = some ((LOut.mk 0 (-1) u f s []).cells (.slice none 0 0)).toArray := by kernel_rfl
/-- what is used is within the budget -/
theorem step_units15 {x : LReady} {k : Nat} {a : LIn} {S : S15} (h : 0 ≤ S.units ∧ S.units ≤ x.u) : 0 ≤ (step15 x k a S).2.units ∧ (step15 x k a S).2.units ≤ x.u := by
  unfold step15
  split
  · exact ⟨by show 0 ≤ x.u; omega, Int.le_refl _⟩
  · rename_i hc
    have h2 : 0 ≤ S.units + 150 ∧ S.units + 150 ≤ x.u := by omega
    split
    · exact h2
    · split
      · split
        · exact h2
        · exact h2
      · split
        · exact h2
        · exact h2
theorem go_units15 {x : LReady} : ∀ (L : List LIn) (k : Nat) (S : S15), (0 ≤ S.units ∧ S.units ≤ x.u) → 0 ≤ (go15 x L k S).2.2.units ∧ (go15 x L k S).2.2.units ≤ x.u
  | [], _, _, h => h
  | a :: r, k, S, h => by
    unfold go15
    split
    · exact go_units15 r _ _ (step_units15 h)
    · exact step_units15 h
/-- good steps keep the accounts' number -/
theorem go_len15 {x : LReady} {ln : Nat} : ∀ (L : List LIn) (k : Nat) (S : S15), S.now.length = ln → (∀ y ∈ S.now, AccOk y) → (∀ a ∈ L, AllBytes a.acc ∧ AllBytes a.dat) → (go15 x L k S).1 = 0 → (go15 x L k S).2.2.now.length = ln
  | [], _, _, h, _, _, _ => h
  | a :: r, k, S, h, hok, hb, h0 => by
    have hba := hb a (List.mem_cons_self ..)
    unfold go15 at h0 ⊢
    split at h0
    · rename_i hs
      rw [if_pos hs]
      have hst : (step15 x k a S).2.now.length = ln ∧ ∀ y ∈ (step15 x k a S).2.now, AccOk y := by
        revert hs
        unfold step15
        split
        · intro hs; cases hs
        · split
          · intro hs; cases hs
          · split
            · split
              · rename_i he
                intro _
                obtain ⟨pa, pb, hwt⟩ := do_went hok hba.2 hba.1 he
                exact ⟨hwt.d.len.trans h, hwt.d.ok⟩
              · rename_i he
                intro hs
                exact absurd hs he
            · split
              · intro _; exact ⟨h, hok⟩
              · intro hs; cases hs
      exact go_len15 r _ _ hst.1 hst.2 (fun b hb2 => hb b (List.mem_cons_of_mem _ hb2)) h0
    · rename_i hs
      exact absurd h0 hs
theorem run_fine15 {x : LReady} {l : List LAcc} (hl : l.length = x.roles.length) (hp : ∀ a ∈ x.tx.m.ins, a.p < (x.roles.length : Int)) (h : (go15 x x.tx.m.ins 0 ⟨l, 0, 0⟩).1 = 0) : run15 x l = (⟨0, -1, (go15 x x.tx.m.ins 0 ⟨l, 0, 0⟩).2.2.units, x.fee, (go15 x x.tx.m.ins 0 ⟨l, 0, 0⟩).2.2.space, chg15 x.roles (go15 x x.tx.m.ins 0 ⟨l, 0, 0⟩).2.2.now⟩, 0) := by
  unfold run15
  rw [if_neg (by omega), if_neg (by rintro ⟨b, hb, hc⟩; have := hp b hb; omega), if_pos h]
theorem run_ill15 {x : LReady} {l : List LAcc} (hl : l.length = x.roles.length) (hp : ∀ a ∈ x.tx.m.ins, a.p < (x.roles.length : Int)) (h : (go15 x x.tx.m.ins 0 ⟨l, 0, 0⟩).1 ≠ 0) : run15 x l = (⟨(go15 x x.tx.m.ins 0 ⟨l, 0, 0⟩).1, (go15 x x.tx.m.ins 0 ⟨l, 0, 0⟩).2.1, (go15 x x.tx.m.ins 0 ⟨l, 0, 0⟩).2.2.units, x.fee, 0, chg15 x.roles l⟩, 0) := by
  unfold run15
  rw [if_neg (by omega), if_neg (by rintro ⟨b, hb, hc⟩; have := hp b hb; omega), if_neg h]
theorem any_stg15 {x : LReady} {rn : Nat} (hr : x.roles.length = rn) : (x.tx.m.ins.any (stg15 rn) = true ↔ ∃ a ∈ x.tx.m.ins, (x.roles.length : Int) ≤ a.p) := by
  rw [List.any_eq_true]
  subst hr
  constructor
  · rintro ⟨a, ha, h⟩
    exact ⟨a, ha, of_decide_eq_true h⟩
  · rintro ⟨a, ha, h⟩
    exact ⟨a, ha, decide_eq_true h⟩
theorem not_stg15 {x : LReady} {rn : Nat} (hr : x.roles.length = rn) (hb : ∀ a ∈ x.tx.m.ins, IsByte a.p) (h : ¬ x.tx.m.ins.any (stg15 rn) = true) : (∀ a ∈ x.tx.m.ins, 0 ≤ a.p ∧ a.p < (rn : Int)) ∧ ∀ a ∈ x.tx.m.ins, a.p < (x.roles.length : Int) := by
  have h2 : ∀ a ∈ x.tx.m.ins, a.p < (x.roles.length : Int) := fun a ha => by
    by_cases hc : a.p < (x.roles.length : Int)
    · exact hc
    · exact absurd ((any_stg15 hr).2 ⟨a, ha, by omega⟩) h
  exact ⟨fun a ha => ⟨(hb a ha).1, by rw [← hr]; exact h2 a ha⟩, h2⟩
theorem RX.but {w V V' : World} {B g2 g4 ln h : Nat} {q : YRaw} {x : LReady} {LA : Option Addr} {l : List LAcc} (a : RX w V B g2 g4 q x LA ln l) (hB : B ≤ w.heap.size) (hb : But h V V') (h1 : w.heap.size ≤ h) (h2 : g2 ≠ h) (h4 : g4 ≠ h) : RX w V' B g2 g4 q x LA ln l :=
  ⟨a.b.trans (hb.below h1 a.b.size), hb.row a.r2 h2, hb.row a.r4 h4, a.rd.below (hb.below (Nat.le_trans hB h1) (Nat.le_trans hB a.b.size)), a.ac.below (hb.below (Nat.le_trans hB h1) (Nat.le_trans hB a.b.size))⟩
set_option maxHeartbeats 4000000 in
theorem run_argC (q : YRaw) (x : LReady) (B : Nat) (LA : Option Addr) (ln lc : Nat) (l : List LAcc) (w : World) (h : ReadyIn w B q x) (hl : AccsIn w B LA ln l) (hlc : ln ≤ lc ∧ lc ≤ maxLen) (hB : B ≤ w.heap.size) (hln : ln ≤ 100000) (hpb : ∀ a ∈ x.tx.m.ins, IsByte a.p) (hab : ∀ a ∈ x.tx.m.ins, AllBytes a.acc ∧ AllBytes a.dat) (hu : 0 ≤ x.u ∧ x.u < 18446744073709551616) (hsm : q.t.q.n ≤ 65535 ∧ ∀ a ∈ x.tx.m.ins, a.acc.length ≤ 65535) (htw : TypAt w) (hne : ln ≠ q.rn) :
    Calls Tryd.prog 13 #[.agg (q.cells x).toArray, .slice LA ln lc] w (RunDoneC w (run15 x l)) := by
  have HD : Hid (run15 x l = (out0, 1)) := Lib.hid (arg15 (by rw [hl.len, h.rs.len]; exact hne))
  have hne' : ¬ (ln : Int) = (q.rn : Int) := fun e => hne (by exact_mod_cast e)
  clear hne
  have HB := Lib.hid hB
  have H32 := Lib.hid h.tx.m.recent
  have HRL := Lib.hid h.rs.len
  have HLL := Lib.hid hl.len
  have HPB := Lib.hid hpb
  have HAB := Lib.hid hab
  have HU := Lib.hid hu
  have HSM := Lib.hid hsm
  have HRM := Lib.hid h.rn
  have HT0 := Lib.hid htw
  have HLC := Lib.hid hlc
  have hbw := ((Below.refl w.heap.size w).alloc (Nat.le_refl _) (.cells (q.cells x).toArray 41)).alloc (by simp) (.cells (out0.cells (.slice none 0 0)).toArray 54)
  have R2 := Lib.hid ((Row.new w 41 (q.cells x)).alloc (.cells (out0.cells (.slice none 0 0)).toArray 54))
  have R4 := Lib.hid (Row.new' (w.alloc (.cells (q.cells x).toArray 41)) 54 (out0.cells (.slice none 0 0)) (g := w.heap.size + 1) (by simp))
  have X0 : Hid (RX w ((w.alloc (.cells (q.cells x).toArray 41)).alloc (.cells (out0.cells (.slice none 0 0)).toArray 54)) B w.heap.size (w.heap.size + 1) q x LA ln l) := Lib.hid ⟨hbw, R2.out, R4.out, h.below (hbw.mono hB), hl.below (hbw.mono hB)⟩
  clear hbw h hl R2 R4
  obtain ⟨g4, hg4⟩ : ∃ g, g = w.heap.size + 1 := ⟨_, rfl⟩
  have HG4 : Hid ((w.alloc (.cells (q.cells x).toArray 41)).heap.size = g4) := Lib.hid (by rw [hg4]; simp)
  have HG42 : Hid (w.heap.size + 1 = g4) := Lib.hid hg4.symm
  obtain ⟨g2, hg2⟩ : ∃ g, g = w.heap.size := ⟨_, rfl⟩
  have HG2 : Hid (w.heap.size = g2) := Lib.hid hg2.symm
  rw [← hg4, ← hg2] at X0
  have HGL : Hid (w.heap.size ≤ g2 ∧ w.heap.size ≤ g4) := Lib.hid (by omega)
  have HGN : Hid (g2 ≠ g4) := Lib.hid (by omega)
  clear hg2 hg4
  generalize hW0 : w.alloc (.cells (q.cells x).toArray 41) = W0 at *
  generalize hW : W0.alloc (.cells (out0.cells (.slice none 0 0)).toArray 54) = W at *
  have HW0 := Lib.hid hW0
  have HW := Lib.hid hW
  clear hW hW0 hpb hab hu hsm htw hlc hB
  go_enter Tryd.func13, Tryd.ntmps13
  go_upto_region 1 with ((with_reducible show wpList _ _ _ ({ dst := some 4, op := Op.alloc _, type := _, pos := _, after := _, guard := _ } :: _) _ _); go_must (refine wpList_alloc_zero rfl 54 rfl (out0.cells (.slice none 0 0)) zero_out15 ?_))
  rw [HW0.out]
  rw [HW.out]
  try rw [HG4.out]
  try rw [HG42.out]
  try rw [HG2.out]
  clear HG2 HG4 HG42 HW0 HW
  have c41 : W.cell? ⟨g2, 41, none⟩ = some (.slice q.RA q.rn q.rc) := (X0.out.r2.cell 41).trans (ycells_41 H32.out 0)
  go_wp2_with (first
      | ((with_reducible show wpList _ _ _ ({ dst := some 20, op := Op.build _ _, type := _, pos := _, after := _, guard := _ } :: _) _ _); go_must (refine wpList_plain rfl fun K hK => wp_built _ _ _ rfl (by simp only [List.map_toArray, List.map_nil]; exact built_out0) (hK _ _ ?_)))
      | ((with_reducible show wpList _ _ _ ({ dst := none, op := Op.store 54 _ _, type := _, pos := _, after := _, guard := _ } :: _) _ _); go_must (refine wpList_store_whole rfl 54 (.tmp 4) (.tmp 20) rfl g4 (out0.cells (.slice none 0 0)) (out0.cells (.slice none 0 0)) X0.out.r4 (size_out15 _ _) rfl (out_one15 _ rfl) ?_ ?_ ?_; go_simp; go_simp; intro w5 hr5 ht5)))
  have R5 := Lib.hid hr5
  have B5 := Lib.hid (X0.out.b.trans (ht5.below HGL.out.2))
  clear hr5 ht5
  refine bodyPost_ret (results_cell1 (h := rfl) _ w5 ⟨g4, 0, none⟩ _ _ (by rfl) (by rfl) (run_loadVar_row w5 g4 54 54 (out0.cells (.slice none 0 0)).toArray (0, 0) _ R5.out.is Tryd.underlying54 rfl (by rw [List.size_toArray]; exact size_out15 _ _))) rfl ?_
  exact run_badC HD.out B5.out
set_option maxHeartbeats 4000000 in
theorem run_strC (q : YRaw) (x : LReady) (B : Nat) (LA : Option Addr) (ln lc : Nat) (l : List LAcc) (w : World) (h : ReadyIn w B q x) (hl : AccsIn w B LA ln l) (hlc : ln ≤ lc ∧ lc ≤ maxLen) (hB : B ≤ w.heap.size) (hln : ln ≤ 100000) (hpb : ∀ a ∈ x.tx.m.ins, IsByte a.p) (hab : ∀ a ∈ x.tx.m.ins, AllBytes a.acc ∧ AllBytes a.dat) (hu : 0 ≤ x.u ∧ x.u < 18446744073709551616) (hsm : q.t.q.n ≤ 65535 ∧ ∀ a ∈ x.tx.m.ins, a.acc.length ≤ 65535) (htw : TypAt w) (heq : ln = q.rn) (hs : x.tx.m.ins.any (stg15 q.rn) = true) :
    Calls Tryd.prog 13 #[.agg (q.cells x).toArray, .slice LA ln lc] w (RunDoneC w (run15 x l)) := by
  have HD : Hid (run15 x l = (out0, 1)) := Lib.hid (prog_bad15 ((any_stg15 h.rs.len).1 hs))
  have HRN : Hid (q.rn ≤ 100000) := Lib.hid (by omega)
  have heq' : (ln : Int) = (q.rn : Int) := by exact_mod_cast heq
  have hlc0 := hlc.1
  have hlc1 := hlc.2
  clear heq
  have HB := Lib.hid hB
  have H32 := Lib.hid h.tx.m.recent
  have HRL := Lib.hid h.rs.len
  have HLL := Lib.hid hl.len
  have HPB := Lib.hid hpb
  have HAB := Lib.hid hab
  have HU := Lib.hid hu
  have HSM := Lib.hid hsm
  have HRM := Lib.hid h.rn
  have HT0 := Lib.hid htw
  have HLC := Lib.hid hlc
  have hbw := ((Below.refl w.heap.size w).alloc (Nat.le_refl _) (.cells (q.cells x).toArray 41)).alloc (by simp) (.cells (out0.cells (.slice none 0 0)).toArray 54)
  have R2 := Lib.hid ((Row.new w 41 (q.cells x)).alloc (.cells (out0.cells (.slice none 0 0)).toArray 54))
  have R4 := Lib.hid (Row.new' (w.alloc (.cells (q.cells x).toArray 41)) 54 (out0.cells (.slice none 0 0)) (g := w.heap.size + 1) (by simp))
  have X0 : Hid (RX w ((w.alloc (.cells (q.cells x).toArray 41)).alloc (.cells (out0.cells (.slice none 0 0)).toArray 54)) B w.heap.size (w.heap.size + 1) q x LA ln l) := Lib.hid ⟨hbw, R2.out, R4.out, h.below (hbw.mono hB), hl.below (hbw.mono hB)⟩
  clear hbw h hl R2 R4
  obtain ⟨g4, hg4⟩ : ∃ g, g = w.heap.size + 1 := ⟨_, rfl⟩
  have HG4 : Hid ((w.alloc (.cells (q.cells x).toArray 41)).heap.size = g4) := Lib.hid (by rw [hg4]; simp)
  have HG42 : Hid (w.heap.size + 1 = g4) := Lib.hid hg4.symm
  obtain ⟨g2, hg2⟩ : ∃ g, g = w.heap.size := ⟨_, rfl⟩
  have HG2 : Hid (w.heap.size = g2) := Lib.hid hg2.symm
  rw [← hg4, ← hg2] at X0
  have HGL : Hid (w.heap.size ≤ g2 ∧ w.heap.size ≤ g4) := Lib.hid (by omega)
  have HGN : Hid (g2 ≠ g4) := Lib.hid (by omega)
  clear hg2 hg4
  generalize hW0 : w.alloc (.cells (q.cells x).toArray 41) = W0 at *
  generalize hW : W0.alloc (.cells (out0.cells (.slice none 0 0)).toArray 54) = W at *
  have HW0 := Lib.hid hW0
  have HW := Lib.hid hW
  clear hW hW0 hpb hab hu hsm htw hlc hB
  go_enter Tryd.func13, Tryd.ntmps13
  go_upto_region 1 with ((with_reducible show wpList _ _ _ ({ dst := some 4, op := Op.alloc _, type := _, pos := _, after := _, guard := _ } :: _) _ _); go_must (refine wpList_alloc_zero rfl 54 rfl (out0.cells (.slice none 0 0)) zero_out15 ?_))
  rw [HW0.out]
  rw [HW.out]
  try rw [HG4.out]
  try rw [HG42.out]
  try rw [HG2.out]
  clear HG2 HG4 HG42 HW0 HW
  have c41 : W.cell? ⟨g2, 41, none⟩ = some (.slice q.RA q.rn q.rc) := (X0.out.r2.cell 41).trans (ycells_41 H32.out 0)
  have HST := Lib.hid (strange15 q x B W X0.out.rd (Nat.le_trans HB.out X0.out.b.size) HPB.out HSM.out.1 HRN.out)
  rw [hs] at HST
  go_wp2_with (first
      | ((with_reducible show wpList _ _ _ ({ dst := some 17, op := Op.load _ _, type := _, pos := _, after := _, guard := _ } :: _) _ _); go_must (refine wpList_load_atg (by kernel_rfl) 41 (.tmp 2) rfl ⟨g2, 0, none⟩ (q.cells x) _ Tryd.underlying41 rfl (size_rd15b H32.out) (fun j v hv => by rw [addr_row, X0.out.r2.cell, Nat.zero_add]; exact hv) ?_ ?_; go_simp))
      | fail)
  refine HST.out.mono ?_
  rintro e ws ⟨rfl, hbs⟩
  have X1 := Lib.hid (X0.out.below HB.out hbs)
  clear hbs HST X0
  go_wp2_with (first
      | ((with_reducible show wpList _ _ _ ({ dst := some 20, op := Op.build _ _, type := _, pos := _, after := _, guard := _ } :: _) _ _); go_must (refine wpList_plain rfl fun K hK => wp_built _ _ _ rfl (by simp only [List.map_toArray, List.map_nil]; exact built_out0) (hK _ _ ?_)))
      | ((with_reducible show wpList _ _ _ ({ dst := none, op := Op.store 54 _ _, type := _, pos := _, after := _, guard := _ } :: _) _ _); go_must (refine wpList_store_whole rfl 54 (.tmp 4) (.tmp 20) rfl g4 (out0.cells (.slice none 0 0)) (out0.cells (.slice none 0 0)) X1.out.r4 (size_out15 _ _) rfl (out_one15 _ rfl) ?_ ?_ ?_; go_simp; go_simp; intro w5 hr5 ht5)))
  have R5 := Lib.hid hr5
  have B5 := Lib.hid (X1.out.b.trans (ht5.below HGL.out.2))
  clear hr5 ht5
  refine bodyPost_ret (results_cell1 (h := rfl) _ w5 ⟨g4, 0, none⟩ _ _ (by rfl) (by rfl) (run_loadVar_row w5 g4 54 54 (out0.cells (.slice none 0 0)).toArray (0, 0) _ R5.out.is Tryd.underlying54 rfl (by rw [List.size_toArray]; exact size_out15 _ _))) rfl ?_
  exact run_badC HD.out B5.out
set_option maxHeartbeats 16000000 in
theorem run_goC (q : YRaw) (x : LReady) (B : Nat) (LA : Option Addr) (ln lc : Nat) (l : List LAcc) (w : World) (h : ReadyIn w B q x) (hl : AccsIn w B LA ln l) (hlc : ln ≤ lc ∧ lc ≤ maxLen) (hB : B ≤ w.heap.size) (hln : ln ≤ 100000) (hpb : ∀ a ∈ x.tx.m.ins, IsByte a.p) (hab : ∀ a ∈ x.tx.m.ins, AllBytes a.acc ∧ AllBytes a.dat) (hu : 0 ≤ x.u ∧ x.u < 18446744073709551616) (hsm : q.t.q.n ≤ 65535 ∧ ∀ a ∈ x.tx.m.ins, a.acc.length ≤ 65535) (htw : TypAt w) (heq : ln = q.rn) (hs : ¬ x.tx.m.ins.any (stg15 q.rn) = true) :
    Calls Tryd.prog 13 #[.agg (q.cells x).toArray, .slice LA ln lc] w (RunDoneC w (run15 x l)) := by
  have HNS := Lib.hid (not_stg15 h.rs.len hpb hs)
  have HS0 : Hid (x.tx.m.ins.any (stg15 q.rn) = false) := Lib.hid (by simpa using hs)
  have HLR : Hid (l.length = x.roles.length) := Lib.hid (by rw [hl.len, h.rs.len, heq])
  have heq' : (ln : Int) = (q.rn : Int) := by exact_mod_cast heq
  have HEQ := Lib.hid heq
  have HRN : Hid (q.rn ≤ 100000) := Lib.hid (by omega)
  have hlc0 := hlc.1
  have hlc1 := hlc.2
  clear hs heq
  have HB := Lib.hid hB
  have H32 := Lib.hid h.tx.m.recent
  have HRL := Lib.hid h.rs.len
  have HLL := Lib.hid hl.len
  have HPB := Lib.hid hpb
  have HAB := Lib.hid hab
  have HU := Lib.hid hu
  have HSM := Lib.hid hsm
  have HRM := Lib.hid h.rn
  have HT0 := Lib.hid htw
  have HLC := Lib.hid hlc
  have hbw := ((Below.refl w.heap.size w).alloc (Nat.le_refl _) (.cells (q.cells x).toArray 41)).alloc (by simp) (.cells (out0.cells (.slice none 0 0)).toArray 54)
  have R2 := Lib.hid ((Row.new w 41 (q.cells x)).alloc (.cells (out0.cells (.slice none 0 0)).toArray 54))
  have R4 := Lib.hid (Row.new' (w.alloc (.cells (q.cells x).toArray 41)) 54 (out0.cells (.slice none 0 0)) (g := w.heap.size + 1) (by simp))
  have X0 : Hid (RX w ((w.alloc (.cells (q.cells x).toArray 41)).alloc (.cells (out0.cells (.slice none 0 0)).toArray 54)) B w.heap.size (w.heap.size + 1) q x LA ln l) := Lib.hid ⟨hbw, R2.out, R4.out, h.below (hbw.mono hB), hl.below (hbw.mono hB)⟩
  clear hbw h hl R2 R4
  obtain ⟨g4, hg4⟩ : ∃ g, g = w.heap.size + 1 := ⟨_, rfl⟩
  have HG4 : Hid ((w.alloc (.cells (q.cells x).toArray 41)).heap.size = g4) := Lib.hid (by rw [hg4]; simp)
  have HG42 : Hid (w.heap.size + 1 = g4) := Lib.hid hg4.symm
  obtain ⟨g2, hg2⟩ : ∃ g, g = w.heap.size := ⟨_, rfl⟩
  have HG2 : Hid (w.heap.size = g2) := Lib.hid hg2.symm
  rw [← hg4, ← hg2] at X0
  have HGL : Hid (w.heap.size ≤ g2 ∧ w.heap.size ≤ g4) := Lib.hid (by omega)
  have HGN : Hid (g2 ≠ g4) := Lib.hid (by omega)
  clear hg2 hg4
  generalize hW0 : w.alloc (.cells (q.cells x).toArray 41) = W0 at *
  generalize hW : W0.alloc (.cells (out0.cells (.slice none 0 0)).toArray 54) = W at *
  have HW0 := Lib.hid hW0
  have HW := Lib.hid hW
  clear hW hW0 hpb hab hu hsm htw hlc hB
  go_enter Tryd.func13, Tryd.ntmps13
  go_upto_region 1 with ((with_reducible show wpList _ _ _ ({ dst := some 4, op := Op.alloc _, type := _, pos := _, after := _, guard := _ } :: _) _ _); go_must (refine wpList_alloc_zero rfl 54 rfl (out0.cells (.slice none 0 0)) zero_out15 ?_))
  rw [HW0.out]
  rw [HW.out]
  try rw [HG4.out]
  try rw [HG42.out]
  try rw [HG2.out]
  clear HG2 HG4 HG42 HW0 HW
  have c41 : W.cell? ⟨g2, 41, none⟩ = some (.slice q.RA q.rn q.rc) := (X0.out.r2.cell 41).trans (ycells_41 H32.out 0)
  have HST := Lib.hid (strange15 q x B W X0.out.rd (Nat.le_trans HB.out X0.out.b.size) HPB.out HSM.out.1 HRN.out)
  rw [HS0.out] at HST
  clear HS0
  go_wp2_with (first
      | ((with_reducible show wpList _ _ _ ({ dst := some 17, op := Op.load _ _, type := _, pos := _, after := _, guard := _ } :: _) _ _); go_must (refine wpList_load_atg (by kernel_rfl) 41 (.tmp 2) rfl ⟨g2, 0, none⟩ (q.cells x) _ Tryd.underlying41 rfl (size_rd15b H32.out) (fun j v hv => by rw [addr_row, X0.out.r2.cell, Nat.zero_add]; exact hv) ?_ ?_; go_simp))
      | fail)
  refine HST.out.mono ?_
  rintro e ws ⟨rfl, hbs⟩
  have X1 := Lib.hid (X0.out.below HB.out hbs)
  clear hbs HST X0 c41
  have c41 : ws.cell? ⟨g2, 41, none⟩ = some (.slice q.RA q.rn q.rc) := (X1.out.r2.cell 41).trans (ycells_41 H32.out 0)
  have c42 : ws.cell? ⟨g2, 42, none⟩ = some (.int .u64 x.u) := (X1.out.r2.cell 42).trans (ycells_41 H32.out 1)
  go_upto_region 4 with (first
      | ((with_reducible show wpList _ _ _ ({ dst := some 27, op := Op.build _ _, type := _, pos := _, after := _, guard := _ } :: _) _ _); go_must (refine wpList_plain rfl fun K hK => wp_built _ _ _ rfl (by simp only [List.map_toArray, List.map_cons, List.map_nil]; exact built_wk15 _ _ _ _ _ _ _) (hK _ _ ?_)))
      | ((with_reducible show wpList _ _ _ ({ dst := some 6, op := Op.alloc _, type := _, pos := _, after := _, guard := _ } :: _) _ _); go_must (refine wpList_alloc_zero rfl 96 rfl (wkC none 0 0 (.slice none 0 0) 0 0) zero_wk15 ?_))
      | ((with_reducible show wpList _ _ _ ({ dst := none, op := Op.store 96 _ _, type := _, pos := _, after := _, guard := _ } :: _) _ _); go_must (refine wpList_store_new rfl 96 (.tmp 6) (.tmp 27) rfl (wkC q.RA q.rn q.rc (.slice LA ln lc) x.u 0) (wk_size15 _ _ _ _ _ _) wk_one15 rfl ?_ ?_ ?_; go_simp; go_simp; intro w3 hr3 hb3 hz3)))
  have RH := Lib.hid hr3
  have X3 := Lib.hid (X1.out.below HB.out hb3)
  obtain ⟨hw, hhw⟩ : ∃ g, g = ws.heap.size := ⟨_, rfl⟩
  rw [← hhw] at RH ⊢
  have HHG : Hid (w.heap.size ≤ hw ∧ g2 ≠ hw ∧ g4 ≠ hw) := Lib.hid (by have h1 := X1.out.b.size; have h2 := X1.out.r2.lt; have h4 := X1.out.r4.lt; omega)
  clear hr3 hb3 hz3 X1 c41 c42 hhw
  have HAV : Hid (AV15 w3 hw (.slice LA ln lc) l) := Lib.hid (.inl ⟨LA, lc, by rw [HLL.out], by rw [HLL.out]; exact X3.out.ac.more (Nat.le_trans HB.out HHG.out.1), by rw [HLL.out]; exact HLC.out.1, HLC.out.2⟩)
  have HALL := Lib.hid (all15 hw q x B l (.slice LA ln lc) w3 RH.out HAV.out X3.out.rd (Nat.le_trans HB.out HHG.out.1) (by rw [HLL.out]; exact hln) HRN.out HNS.out.1 HAB.out HU.out HSM.out)
  clear HAV
  go_wp2_with (first
      | ((with_reducible show wpList _ _ _ ({ dst := some 28, op := Op.load _ _, type := _, pos := _, after := _, guard := _ } :: _) _ _); go_must (refine wpList_load_whole rfl 41 (.tmp 2) rfl g2 _ (q.cells x) _ Tryd.underlying41 rfl (size_rd15b H32.out) X3.out.r2 ?_ ?_; go_simp))
      | fail)
  refine HALL.out.mono ?_
  clear HALL
  have HGU := Lib.hid (go_units15 (x := x) x.tx.m.ins 0 ⟨l, 0, 0⟩ ⟨Int.le_refl _, HU.out.1⟩)
  have HFI := Lib.hid (run_fine15 (x := x) (l := l) HLR.out HNS.out.2)
  have HIL := Lib.hid (run_ill15 (x := x) (l := l) HLR.out HNS.out.2)
  have HLG9 := Lib.hid (go_len15 (x := x) x.tx.m.ins 0 ⟨l, 0, 0⟩ (ln := ln) HLL.out X3.out.ac.ok HAB.out)
  have HX34 : Hid (g2 < w3.heap.size ∧ g4 < w3.heap.size ∧ hw < w3.heap.size) := Lib.hid ⟨X3.out.r2.lt, X3.out.r4.lt, RH.out.lt⟩
  rintro e w4 ⟨hb4, hcases⟩
  generalize go15 x x.tx.m.ins 0 ⟨l, 0, 0⟩ = G at *
  have X4 := Lib.hid (X3.out.but HB.out hb4 HHG.out.1 HHG.out.2.1 HHG.out.2.2)
  have HB34 : Hid (w3.heap.size ≤ w4.heap.size) := Lib.hid hb4.size
  clear X3 hb4
  have c42 : w4.cell? ⟨g2, 42, none⟩ = some (.int .u64 x.u) := (X4.out.r2.cell 42).trans (ycells_41 H32.out 1)
  have c45 : w4.cell? ⟨g2, 45, none⟩ = some (.int .u64 x.fee) := (X4.out.r2.cell 45).trans (ycells_41 H32.out 4)
  have hgu0 := HGU.out.1
  have hgu1 := HGU.out.2
  have hu1 := HU.out.2
  have hwr : IntKind.u64.wrap (x.u - (x.u - G.2.2.units)) = G.2.2.units := by rw [IntKind.wrap_u64]; omega
  rcases hcases with ⟨hne, fb, rfl, hfb, hfbs, va9, sp9, hrw⟩ | ⟨hee, rfl, v9, hav, hrw⟩
  · have HRW := Lib.hid hrw
    have HFB := Lib.hid hfb
    have HFX : Hid (g2 < fb ∧ g4 < fb ∧ hw < fb) := Lib.hid (by have h1 := HX34.out; omega)
    have HRUN := Lib.hid (HIL.out hne)
    clear hrw hfb hne HFI HIL
    have HWB := Lib.hid HRW.out.lt
    have h2 : w4.cell? ⟨hw, 2, none⟩ = some (.int .u64 (x.u - G.2.2.units)) := HRW.out.cell 2
    have h3 : w4.cell? ⟨hw, 3, none⟩ = some (.int .u64 sp9) := HRW.out.cell 3
    have HFS : Hid (fb ≠ g2 ∧ fb ≠ g4 ∧ fb ≠ hw) := Lib.hid (by have h1 := HFX.out; omega)
    go_upto_region 6 with (first
        | ((with_reducible show wpList _ _ _ ({ dst := some 40, op := Op.build _ _, type := _, pos := _, after := _, guard := _ } :: _) _ _); go_must (refine wpList_plain rfl fun K hK => wp_built _ _ _ rfl (by simp only [List.map_toArray, List.map_cons, List.map_nil]; exact built_o15 _ _ _) (hK _ _ ?_)))
        | ((with_reducible show wpList _ _ _ ({ dst := some 8, op := Op.alloc _, type := _, pos := _, after := _, guard := _ } :: _) _ _); go_must (refine wpList_alloc_zero rfl 54 rfl (out0.cells (.slice none 0 0)) zero_out15 ?_))
        | ((with_reducible show wpList _ _ _ ({ dst := none, op := Op.store 54 _ _, type := _, pos := _, after := _, guard := _ } :: _) _ _); go_must (refine wpList_store_new rfl 54 (.tmp 8) (.tmp 40) rfl ((LOut.mk 0 (-1) G.2.2.units x.fee sp9 []).cells (.slice none 0 0)) (size_out15 _ _) (out_one15 _ rfl) rfl ?_ ?_ ?_; go_simp; go_simp; intro w5 hr5 hb5 hz5)))
    have X5 := Lib.hid (X4.out.below HB.out hb5)
    have RH5 := Lib.hid (HRW.out.below hb5 HWB.out)
    have F5 := Lib.hid (HFB.out.below hb5 HFB.out.lt)
    have O5 := Lib.hid hr5
    obtain ⟨g8, hg8⟩ : ∃ g, g = w4.heap.size := ⟨_, rfl⟩
    rw [← hg8] at O5 ⊢
    have HG8 : Hid (g8 ≠ g2 ∧ g8 ≠ g4 ∧ g8 ≠ hw ∧ w.heap.size ≤ g8 ∧ fb ≠ g8) := Lib.hid (by have h1 := X4.out.r2.lt; have h2 := X4.out.r4.lt; have h3 := HWB.out; have h4 := X4.out.b.size; have h5 := HFB.out.lt; omega)
    clear X4 HRW HFB HB34 hr5 hb5 hz5 hg8 c42 c45 h2 h3 hwr hgu0 hgu1
    go_upto_region 7 with fail
    have hb6 := (Below.refl w5.heap.size w5).alloc (Nat.le_refl _) (.cells #[.pointer none] 100)
    have X6 := Lib.hid (X5.out.below HB.out hb6)
    have RH6 := Lib.hid (RH5.out.below hb6 RH5.out.lt)
    have F6 := Lib.hid (F5.out.below hb6 F5.out.lt)
    have O6 := Lib.hid (O5.out.below hb6 O5.out.lt)
    have N6 := Lib.hid (Row.new w5 100 [.pointer none])
    obtain ⟨g9, hg9⟩ : ∃ g, g = w5.heap.size := ⟨_, rfl⟩
    rw [← hg9] at N6 ⊢
    have HG9 : Hid (g9 ≠ g2 ∧ g9 ≠ g4 ∧ g9 ≠ hw ∧ w.heap.size ≤ g9 ∧ fb ≠ g9 ∧ g8 ≠ g9) := Lib.hid (by have h1 := X5.out.r2.lt; have h2 := X5.out.r4.lt; have h3 := RH5.out.lt; have h4 := X5.out.b.size; have h5 := F5.out.lt; have h6 := O5.out.lt; omega)
    clear X5 RH5 O5 F5 hb6 hg9
    have N6' : Hid (Row (w5.alloc (.cells #[.pointer none] 100)) g9 100 [.pointer none]) := Lib.hid N6.out
    clear N6
    generalize w5.alloc (.cells #[.pointer none] 100) = w6 at *
    have HP0 := HT0.out.pos
    have C1 := Lib.hid (as_f15 ⟨fb, 0, none⟩ ⟨g9, 0, none⟩ (.pointer none) w6 (HT0.out.below X6.out.b HP0) (N6'.out.cell 0) (N6'.out.frozen 0))
    go_wp2_with fail
    refine C1.out.mono ?_
    rintro e w7 ⟨rfl, V7, hb7, hw7⟩
    have T7 := turned_setCell V7 ⟨g9, 0, none⟩ (.pointer (some ⟨fb, 0, none⟩))
    rw [← hw7] at T7
    have X7 := Lib.hid ((X6.out.below HB.out hb7).but HB.out (.of_turned T7) HG9.out.2.2.2.1 (Ne.symm HG9.out.1) (Ne.symm HG9.out.2.1))
    have RH7 := Lib.hid (T7.row (RH6.out.below hb7 RH6.out.lt) (Ne.symm HG9.out.2.2.1))
    have F7 := Lib.hid (T7.row (F6.out.below hb7 F6.out.lt) HG9.out.2.2.2.2.1)
    have O7 := Lib.hid (T7.row (O6.out.below hb7 O6.out.lt) HG9.out.2.2.2.2.2)
    have N7 : Hid (Row w7 g9 100 [.pointer (some ⟨fb, 0, none⟩)]) := Lib.hid (by rw [hw7]; exact (N6'.out.below hb7 N6'.out.lt).set_ 0 _)
    clear T7 hw7 hb7 C1 X6 RH6 F6 O6 N6'
    have C2 := Lib.hid (as_n15 ⟨fb, 0, none⟩ ⟨g8, 0, none⟩ G.1 (.int .i64 0) w7 (HT0.out.below X7.out.b HP0) (O7.out.cell 0) (O7.out.frozen 0) (F7.out.cell 1) rfl)
    go_wp2_with fail
    refine C2.out.mono ?_
    rintro e w8 ⟨rfl, V8, hb8, hw8⟩
    have T8 := turned_setCell V8 ⟨g8, 0, none⟩ (.int .i64 G.1)
    rw [← hw8] at T8
    have X8 := Lib.hid ((X7.out.below HB.out hb8).but HB.out (.of_turned T8) HG8.out.2.2.2.1 (Ne.symm HG8.out.1) (Ne.symm HG8.out.2.1))
    have RH8 := Lib.hid (T8.row (RH7.out.below hb8 RH7.out.lt) (Ne.symm HG8.out.2.2.1))
    have F8 := Lib.hid (T8.row (F7.out.below hb8 F7.out.lt) HG8.out.2.2.2.2)
    have N8 := Lib.hid (T8.row (N7.out.below hb8 N7.out.lt) (Ne.symm HG9.out.2.2.2.2.2))
    have O8 : Hid (Row w8 g8 54 ((LOut.mk G.1 (-1) G.2.2.units x.fee sp9 []).cells (.slice none 0 0))) := Lib.hid (by rw [hw8]; exact (O7.out.below hb8 O7.out.lt).set_ 0 _)
    clear T8 hw8 hb8 C2 X7 RH7 F7 O7 N7 HP0
    have n0 : w8.cell? ⟨g9, 0, none⟩ = some (.pointer (some ⟨fb, 0, none⟩)) := N8.out.cell 0
    have k0' : w8.cell? ⟨fb, 0, none⟩ = some (.int .i64 G.2.1) := F8.out.cell 0
    have o1 : w8.cell? ⟨g8, 1, none⟩ = some (.int .i64 (-1)) := O8.out.cell 1
    have o4 : w8.cell? ⟨g8, 4, none⟩ = some (.int .u64 sp9) := O8.out.cell 4
    have r1 : w8.cell? ⟨hw, 1, none⟩ = some va9 := RH8.out.cell 1
    have fo1 := O8.out.frozen 1
    have fo4 := O8.out.frozen 4
    have fr1 := RH8.out.frozen 1
    have hgh1 : ¬ g8 = hw := HG8.out.2.2.1
    have hgh2 : ¬ hw = g8 := Ne.symm HG8.out.2.2.1
    go_upto_region 9 with fail
    have T9 := ((But.of_turned (turned_setCell w8 ⟨g8, 1, none⟩ (.int .i64 G.2.1))).trans (.of_turned (turned_setCell _ ⟨g8, 4, none⟩ (.int .u64 0))))
    have Y9 := Lib.hid (X8.out.but HB.out T9 HG8.out.2.2.2.1 (Ne.symm HG8.out.1) (Ne.symm HG8.out.2.1))
    have X9 := Lib.hid (Y9.out.but HB.out (.of_turned (turned_setCell _ ⟨hw, 1, none⟩ (.slice LA ln lc))) HHG.out.1 HHG.out.2.1 HHG.out.2.2)
    have O9 : Hid (Row _ g8 54 ((LOut.mk G.1 G.2.1 G.2.2.units x.fee 0 []).cells (.slice none 0 0))) := Lib.hid (((O8.out.set_ 1 (.int .i64 G.2.1)).set_ 4 (.int .u64 0)).far (p := ⟨hw, 1, none⟩) HG8.out.2.2.1 (.slice LA ln lc))
    have RH9 := Lib.hid ((T9.row RH8.out (Ne.symm HG8.out.2.2.1)).set_ 1 (.slice LA ln lc))
    clear hgh1 hgh2 n0 k0' o1 o4 r1 fo1 fo4 fr1 T9 Y9 X8 RH8 F8 O8 N8
    generalize ((w8.setCell ⟨g8, 1, none⟩ (.int .i64 G.2.1)).setCell ⟨g8, 4, none⟩ (.int .u64 0)).setCell ⟨hw, 1, none⟩ (.slice LA ln lc) = w9 at *
    have c41 : w9.cell? ⟨g2, 41, none⟩ = some (.slice q.RA q.rn q.rc) := (X9.out.r2.cell 41).trans (ycells_41 H32.out 0)
    have h1 : w9.cell? ⟨hw, 1, none⟩ = some (.slice LA ln lc) := RH9.out.cell 1
    go_wp2_with fail
    refine (written15 q.RA q.rn q.rc B x.roles LA ln lc l w9 X9.out.rd.rs X9.out.ac HLC.out.1 HEQ.out (Nat.le_trans HB.out X9.out.b.size) hln).mono ?_
    rintro e wa ⟨A9, c9, rfl, ho9, hb9⟩
    have XA := Lib.hid (X9.out.below HB.out hb9)
    have OA := Lib.hid (O9.out.below hb9 O9.out.lt)
    have OW := Lib.hid (own_baseR ho9 X9.out.b.size)
    have OLT := Lib.hid (fun g hg => (ho9.lt g hg).1)
    have HL6 : Hid (g8 < w9.heap.size ∧ g4 < w9.heap.size) := Lib.hid ⟨O9.out.lt, X9.out.r4.lt⟩
    clear ho9 hb9 X9 O9 RH9 c41 h1
    obtain ⟨CH, hCH⟩ : ∃ C, C = chg15 x.roles l := ⟨_, rfl⟩
    have HCH := Lib.hid hCH
    rw [← hCH] at OW OLT ⊢
    clear hCH
    have c5 : wa.cell? ⟨g8, 5, none⟩ = some (.slice none 0 0) := OA.out.cell 5
    have f5 := OA.out.frozen 5
    go_upto_region 10 with fail
    have XB : Hid (Row (wa.setCell ⟨g8, 5, none⟩ (.slice A9 CH.length CH.length)) g4 54 (out0.cells (.slice none 0 0))) := Lib.hid (XA.out.r4.far (Ne.symm HG8.out.2.1) _)
    have OB : Hid (Row (wa.setCell ⟨g8, 5, none⟩ (.slice A9 CH.length CH.length)) g8 54 ((LOut.mk G.1 G.2.1 G.2.2.units x.fee 0 CH).cells (.slice A9 CH.length CH.length))) := Lib.hid (OA.out.set_ 5 _)
    have T9 := Lib.hid (turned_setCell wa ⟨g8, 5, none⟩ (.slice A9 CH.length CH.length))
    clear c5 f5 OA
    generalize wa.setCell ⟨g8, 5, none⟩ (.slice A9 CH.length CH.length) = wb at *
    go_wp2_with (first
        | ((with_reducible show wpList _ _ _ ({ dst := some 64, op := Op.load _ _, type := _, pos := _, after := _, guard := _ } :: _) _ _); go_must (refine wpList_load_whole rfl 54 (.tmp 8) rfl g8 _ ((LOut.mk G.1 G.2.1 G.2.2.units x.fee 0 CH).cells (.slice A9 CH.length CH.length)) _ Tryd.underlying54 rfl (size_out15 _ _) OB.out ?_ ?_; go_simp))
        | ((with_reducible show wpList _ _ _ ({ dst := none, op := Op.store 54 _ _, type := _, pos := _, after := _, guard := _ } :: _) _ _); go_must (refine wpList_store_whole rfl 54 (.tmp 4) (.tmp 64) rfl g4 (out0.cells (.slice none 0 0)) ((LOut.mk G.1 G.2.1 G.2.2.units x.fee 0 CH).cells (.slice A9 CH.length CH.length)) XB.out (size_out15 _ _) rfl (out_one15 _ rfl) ?_ ?_ ?_; go_simp; go_simp; intro wz hrz htz)))
    have RZ := Lib.hid hrz
    have TZ := Lib.hid htz
    clear hrz htz
    refine bodyPost_ret (results_cell1 (h := rfl) _ wz ⟨g4, 0, none⟩ _ _ (by rfl) (by rfl) (run_loadVar_row wz g4 54 54 ((LOut.mk G.1 G.2.1 G.2.2.units x.fee 0 CH).cells (.slice A9 CH.length CH.length)).toArray (0, 0) _ RZ.out.is Tryd.underlying54 rfl (by rw [List.size_toArray]; exact size_out15 _ _))) rfl ?_
    rw [HRUN.out]
    try rw [← HCH.out]
    refine ⟨A9, c9, rfl, ?_, (XA.out.b.trans (T9.out.below HG8.out.2.2.2.1)).trans (TZ.out.below HGL.out.2)⟩
    exact own_keep OW.out fun g hg => (TZ.out.block g (by have := OLT.out g hg; have := HL6.out; omega)).trans (T9.out.block g (by have := OLT.out g hg; have := HL6.out; show g ≠ g8; omega))

  · have HRW := Lib.hid hrw
    have HAV := Lib.hid hav
    have HEE9 := Lib.hid hee
    have HRUN := Lib.hid (HFI.out hee)
    clear hrw hav hee HFI HIL
    have hwb : hw < w4.heap.size := HRW.out.lt
    obtain ⟨LB, lb, rfl, hacb, hlb0, hlb1⟩ := HAV.out.form hwb
    have HLB : Hid (G.2.2.now.length = q.rn) := Lib.hid (by rw [HLG9.out HEE9.out, HEQ.out])
    have HWB := Lib.hid hwb
    have h2 : w4.cell? ⟨hw, 2, none⟩ = some (.int .u64 (x.u - G.2.2.units)) := HRW.out.cell 2
    have h3 : w4.cell? ⟨hw, 3, none⟩ = some (.int .u64 G.2.2.space) := HRW.out.cell 3
    have HAC := Lib.hid hacb
    clear hacb hwb
    go_upto_region 6 with (first
        | ((with_reducible show wpList _ _ _ ({ dst := some 40, op := Op.build _ _, type := _, pos := _, after := _, guard := _ } :: _) _ _); go_must (refine wpList_plain rfl fun K hK => wp_built _ _ _ rfl (by simp only [List.map_toArray, List.map_cons, List.map_nil]; exact built_o15 _ _ _) (hK _ _ ?_)))
        | ((with_reducible show wpList _ _ _ ({ dst := some 8, op := Op.alloc _, type := _, pos := _, after := _, guard := _ } :: _) _ _); go_must (refine wpList_alloc_zero rfl 54 rfl (out0.cells (.slice none 0 0)) zero_out15 ?_))
        | ((with_reducible show wpList _ _ _ ({ dst := none, op := Op.store 54 _ _, type := _, pos := _, after := _, guard := _ } :: _) _ _); go_must (refine wpList_store_new rfl 54 (.tmp 8) (.tmp 40) rfl ((LOut.mk 0 (-1) G.2.2.units x.fee G.2.2.space []).cells (.slice none 0 0)) (size_out15 _ _) (out_one15 _ rfl) rfl ?_ ?_ ?_; go_simp; go_simp; intro w5 hr5 hb5 hz5)))
    have X5 := Lib.hid (X4.out.below HB.out hb5)
    have RH5 := Lib.hid (HRW.out.below hb5 HWB.out)
    have O5 := Lib.hid hr5
    have AC5 := Lib.hid ((HAC.out.below hb5).more (Nat.le_of_lt (show w4.heap.size < w5.heap.size by rw [hz5]; exact Nat.lt_succ_self _)))
    obtain ⟨g8, hg8⟩ : ∃ g, g = w4.heap.size := ⟨_, rfl⟩
    rw [← hg8] at O5 ⊢
    have HG8 : Hid (g8 ≠ g2 ∧ g8 ≠ g4 ∧ g8 ≠ hw ∧ w.heap.size ≤ g8) := Lib.hid (by have h1 := X4.out.r2.lt; have h2 := X4.out.r4.lt; have h3 := HWB.out; have h4 := X4.out.b.size; omega)
    clear X4 HRW HAV HAC HB34 hr5 hb5 hz5 hg8 c42 c45 h2 h3 hwr hgu0 hgu1
    go_upto_region 7 with fail
    have hb6 := (Below.refl w5.heap.size w5).alloc (Nat.le_refl _) (.cells #[.pointer none] 100)
    have X6 := Lib.hid (X5.out.below HB.out hb6)
    have RH6 := Lib.hid (RH5.out.below hb6 RH5.out.lt)
    have O6 := Lib.hid (O5.out.below hb6 O5.out.lt)
    have AC6 := Lib.hid ((AC5.out.below hb6).more (hb6.size))
    clear X5 RH5 O5 AC5 hb6
    generalize w5.alloc (.cells #[.pointer none] 100) = w6 at *
    go_wp2_with fail
    refine (as_nil15 _ w6).mono ?_
    rintro e w7 ⟨rfl, rfl⟩
    have c41 : w7.cell? ⟨g2, 41, none⟩ = some (.slice q.RA q.rn q.rc) := (X6.out.r2.cell 41).trans (ycells_41 H32.out 0)
    have h1 : w7.cell? ⟨hw, 1, none⟩ = some (.slice LB G.2.2.now.length lb) := RH6.out.cell 1
    go_wp2_with fail
    refine (written15 q.RA q.rn q.rc w7.heap.size x.roles LB G.2.2.now.length lb G.2.2.now w7 (X6.out.rd.rs.more (Nat.le_trans HB.out X6.out.b.size)) AC6.out hlb0 HLB.out (Nat.le_refl _) (by rw [HLB.out]; exact HRN.out)).mono ?_
    rintro e w8 ⟨A9, c9, rfl, ho9, hb9⟩
    have X8 := Lib.hid (X6.out.below HB.out hb9)
    have O8 := Lib.hid (O6.out.below hb9 O6.out.lt)
    have OW := Lib.hid (own_baseR ho9 X6.out.b.size)
    have OLT := Lib.hid (fun g hg => (ho9.lt g hg).1)
    have HL6 : Hid (g8 < w7.heap.size ∧ g4 < w7.heap.size) := Lib.hid ⟨O6.out.lt, X6.out.r4.lt⟩
    clear ho9 hb9 X6 O6 AC6 RH6 c41 h1
    obtain ⟨CH, hCH⟩ : ∃ C, C = chg15 x.roles G.2.2.now := ⟨_, rfl⟩
    have HCH := Lib.hid hCH
    rw [← hCH] at OW OLT ⊢
    clear hCH
    have c5 : w8.cell? ⟨g8, 5, none⟩ = some (.slice none 0 0) := O8.out.cell 5
    have f5 := O8.out.frozen 5
    go_upto_region 10 with fail
    have X9 : Hid (Row (w8.setCell ⟨g8, 5, none⟩ (.slice A9 CH.length CH.length)) g4 54 (out0.cells (.slice none 0 0))) := Lib.hid (X8.out.r4.far (Ne.symm HG8.out.2.1) _)
    have O9 : Hid (Row (w8.setCell ⟨g8, 5, none⟩ (.slice A9 CH.length CH.length)) g8 54 ((LOut.mk 0 (-1) G.2.2.units x.fee G.2.2.space CH).cells (.slice A9 CH.length CH.length))) := Lib.hid (O8.out.set_ 5 _)
    have T9 := Lib.hid (turned_setCell w8 ⟨g8, 5, none⟩ (.slice A9 CH.length CH.length))
    clear c5 f5 O8
    generalize w8.setCell ⟨g8, 5, none⟩ (.slice A9 CH.length CH.length) = w9 at *
    go_wp2_with (first
        | ((with_reducible show wpList _ _ _ ({ dst := some 64, op := Op.load _ _, type := _, pos := _, after := _, guard := _ } :: _) _ _); go_must (refine wpList_load_whole rfl 54 (.tmp 8) rfl g8 _ ((LOut.mk 0 (-1) G.2.2.units x.fee G.2.2.space CH).cells (.slice A9 CH.length CH.length)) _ Tryd.underlying54 rfl (size_out15 _ _) O9.out ?_ ?_; go_simp))
        | ((with_reducible show wpList _ _ _ ({ dst := none, op := Op.store 54 _ _, type := _, pos := _, after := _, guard := _ } :: _) _ _); go_must (refine wpList_store_whole rfl 54 (.tmp 4) (.tmp 64) rfl g4 (out0.cells (.slice none 0 0)) ((LOut.mk 0 (-1) G.2.2.units x.fee G.2.2.space CH).cells (.slice A9 CH.length CH.length)) X9.out (size_out15 _ _) rfl (out_one15 _ rfl) ?_ ?_ ?_; go_simp; go_simp; intro wz hrz htz)))
    have RZ := Lib.hid hrz
    have TZ := Lib.hid htz
    clear hrz htz
    refine bodyPost_ret (results_cell1 (h := rfl) _ wz ⟨g4, 0, none⟩ _ _ (by rfl) (by rfl) (run_loadVar_row wz g4 54 54 ((LOut.mk 0 (-1) G.2.2.units x.fee G.2.2.space CH).cells (.slice A9 CH.length CH.length)).toArray (0, 0) _ RZ.out.is Tryd.underlying54 rfl (by rw [List.size_toArray]; exact size_out15 _ _))) rfl ?_
    rw [HRUN.out]
    try rw [← HCH.out]
    refine ⟨A9, c9, rfl, ?_, (X8.out.b.trans (T9.out.below HG8.out.2.2.2)).trans (TZ.out.below HGL.out.2)⟩
    exact own_keep OW.out fun g hg => (TZ.out.block g (by have := OLT.out g hg; have := HL6.out; omega)).trans (T9.out.block g (by have := OLT.out g hg; have := HL6.out; show g ≠ g8; omega))
theorem runC (q : YRaw) (x : LReady) (B : Nat) (LA : Option Addr) (ln lc : Nat) (l : List LAcc) (w : World) (h : ReadyIn w B q x) (hl : AccsIn w B LA ln l) (hlc : ln ≤ lc ∧ lc ≤ maxLen) (hB : B ≤ w.heap.size) (hln : ln ≤ 100000) (hpb : ∀ a ∈ x.tx.m.ins, IsByte a.p) (hab : ∀ a ∈ x.tx.m.ins, AllBytes a.acc ∧ AllBytes a.dat) (hu : 0 ≤ x.u ∧ x.u < 18446744073709551616) (hsm : q.t.q.n ≤ 65535 ∧ ∀ a ∈ x.tx.m.ins, a.acc.length ≤ 65535) (htw : TypAt w) :
    Calls Tryd.prog 13 #[.agg (q.cells x).toArray, .slice LA ln lc] w (RunDoneC w (run15 x l)) := by
  by_cases heq : ln = q.rn
  rotate_left
  · exact run_argC q x B LA ln lc l w h hl hlc hB hln hpb hab hu hsm htw heq
  by_cases hs : x.tx.m.ins.any (stg15 q.rn) = true
  · exact run_strC q x B LA ln lc l w h hl hlc hB hln hpb hab hu hsm htw heq hs
  · exact run_goC q x B LA ln lc l w h hl hlc hB hln hpb hab hu hsm htw heq hs
end Go.Proofs.YtfaefpniiiandaaDoor

/-
  Of part Load15: what is needed here.
-/
namespace Go.Proofs.YtfaefpniiiandaaDoor
open Go.RowKit
set_option linter.unusedVariables false
set_option maxRecDepth 100000
/-! ### pure: who pays, what is loaded -/
def pay15 (L : List LHold) (x : LReady) : Bool := match x.roles with
  | [] => false
  | r :: _ => r.wr && (decide ((getH L r.key).o = k0) && decide (x.fee ≤ (getH L r.key).c))
def ld15 (L : List LHold) (rs : List LRole) : List LAcc := rs.map fun r => getH L r.key
def load15 (L : List LHold) (x : LReady) : List LAcc := (ld15 L x.roles).set 0 ⟨(getA (ld15 L x.roles) 0).c - x.fee, (getA (ld15 L x.roles) 0).o, (getA (ld15 L x.roles) 0).s⟩
/-- the list while it is filled -/
def fill15 (L : List LHold) (rs : List LRole) (k : Nat) : List LAcc := ld15 L (rs.take k) ++ List.replicate (rs.length - k) blank13
theorem fill_zero15 (L : List LHold) (rs : List LRole) : fill15 L rs 0 = List.replicate rs.length blank13 := by
  unfold fill15 ld15
  simp
theorem fill_all15 (L : List LHold) (rs : List LRole) : fill15 L rs rs.length = ld15 L rs := by
  unfold fill15 ld15
  simp
theorem fill_next15 (L : List LHold) {rs : List LRole} {k : Nat} {y : LRole} (h : rs[k]? = some y) : (fill15 L rs k).set k (getH L y.key) = fill15 L rs (k + 1) := by
  obtain ⟨hk, _⟩ := List.getElem?_eq_some_iff.1 h
  have hl : (ld15 L (rs.take k)).length = k := by unfold ld15; rw [List.length_map, List.length_take, Nat.min_eq_left (Nat.le_of_lt hk)]
  have hr : List.replicate (rs.length - k) blank13 = blank13 :: List.replicate (rs.length - (k + 1)) blank13 := by
    rw [show rs.length - k = (rs.length - (k + 1)) + 1 by omega, List.replicate_succ]
  unfold fill15
  rw [List.set_append_right _ _ (by omega), hl, Nat.sub_self, hr, List.set_cons_zero, List.take_add_one, h]
  unfold ld15
  rw [List.map_append, List.append_assoc]
  rfl
theorem made_acc15 (n : Nat) : (madeCells (Value.agg blank13.cells.toArray).cells (n * 34)).toList = accsC (List.replicate n blank13) := by
  have hz : (Value.agg blank13.cells.toArray).cells.size = 34 := by kernel_rfl
  have hc : (Value.agg blank13.cells.toArray).cells.toList = blank13.cells := rfl
  generalize (Value.agg blank13.cells.toArray).cells = zc at hz hc
  have hcl : blank13.cells.length = 34 := rfl
  have hlen : (accsC (List.replicate n blank13)).length = n * 34 := by
    rw [accsC_len (fun x hx => by rw [List.eq_of_mem_replicate hx]; exact blank_ok), List.length_replicate]
  have key : ∀ (m i : Nat), i < m * 34 → (accsC (List.replicate m blank13))[i]? = blank13.cells[i % 34]? := by
    intro m
    induction m with
    | zero => intro i hi; omega
    | succ m ih =>
      intro i hi
      have e : accsC (List.replicate (m + 1) blank13) = blank13.cells ++ accsC (List.replicate m blank13) := by
        rw [List.replicate_succ]; unfold accsC; rw [List.map_cons, List.flatten_cons]
      rw [e]
      by_cases h : i < 34
      · rw [List.getElem?_append_left (by rw [hcl]; exact h), Nat.mod_eq_of_lt h]
      · rw [List.getElem?_append_right (by rw [hcl]; omega), hcl, ih (i - 34) (by omega)]
        congr 1
        omega
  apply List.ext_getElem?
  intro i
  by_cases h : i < n * 34
  · rw [key n i h]
    have h34 : i % 34 < 34 := Nat.mod_lt _ (by decide)
    have e1 : (madeCells zc (n * 34)).toList[i]? = some (zc[i % zc.size]!) := by
      simp only [madeCells, Array.toList_map, Array.toList_range]
      rw [List.getElem?_map, List.getElem?_range h]
      rfl
    rw [e1, hz, ← hc, getElem!_pos zc (i % 34) (by rw [hz]; exact h34)]
    simp [hz, h34]
  · rw [List.getElem?_eq_none (show (madeCells zc (n * 34)).toList.length ≤ i by simp [madeCells]; omega), List.getElem?_eq_none (by rw [hlen]; omega)]
theorem noth15 (w : World) : Calls Tryd.prog 36 #[.pointer none] w fun e w' => e = .returned (.bool false) ∧ w = w' := by
  go_enter Tryd.func36, Tryd.ntmps36
  go_wp2_with fail
  go_ret
  exact ⟨rfl, rfl⟩
set_option maxHeartbeats 1000000 in
theorem same_yn15 (sb mb : Nat) (L : List LHold) (V : World) (hs : StIn V sb mb L) : Calls Tryd.prog 24 #[.pointer (some ⟨sb, 0, none⟩), .pointer none] V fun e w' => e = .returned (.bool false) ∧ V = w' := by
  have HT0 := Lib.hid (there13 sb mb L V hs)
  have HT1 := Lib.hid (noth15 V)
  clear hs
  go_enter Tryd.func24, Tryd.ntmps24
  go_wp2_with fail
  refine HT0.out.mono ?_
  rintro e w' ⟨rfl, rfl⟩
  go_wp2_with fail
  refine HT1.out.mono ?_
  rintro e w' ⟨rfl, rfl⟩
  go_wp2_with fail
  refine HT0.out.mono ?_
  rintro e w' ⟨rfl, rfl⟩
  go_wp2_with fail
  refine HT1.out.mono ?_
  rintro e w' ⟨rfl, rfl⟩
  go_wp2_with fail
  go_ret
  exact ⟨rfl, rfl⟩
/-! ### payable -/
set_option maxHeartbeats 4000000 in
theorem payable15 (sb mb : Nat) (L : List LHold) (q : YRaw) (x : LReady) (B : Nat) (w : World) (hs : StIn w sb mb L) (h : ReadyIn w B q x) (hB : B ≤ w.heap.size) (hrn : q.rn ≤ 100000) (hkb : ∀ r ∈ x.roles, AllBytes r.key) :
    Calls Tryd.prog 31 #[.pointer (some ⟨sb, 0, none⟩), .agg (q.cells x).toArray] w fun e w' => e = .returned (.bool (pay15 L x)) ∧ Below w.heap.size w w' := by
  have hb0 := (Below.refl w.heap.size w).alloc (Nat.le_refl _) (.cells (q.cells x).toArray 41)
  have HB0 := Lib.hid hb0
  have H32 := Lib.hid h.tx.m.recent
  have R3 := Lib.hid (Row.new w 41 (q.cells x))
  have S0 := Lib.hid (hs.below hb0)
  have RR := Lib.hid ((h.rs.below (hb0.mono hB)))
  have HLB := Lib.hid (Nat.le_trans hB hb0.size)
  have HKB := Lib.hid hkb
  obtain ⟨g3, hg3⟩ : ∃ g, g = w.heap.size := ⟨_, rfl⟩
  have HG3 : Hid (w.heap.size = g3) := Lib.hid hg3.symm
  rw [← hg3] at R3
  clear hg3 hb0 hs h hB hkb
  generalize hW : w.alloc (.cells (q.cells x).toArray 41) = W at *
  have HW := Lib.hid hW
  clear hW
  have c41 : W.cell? ⟨g3, 41, none⟩ = some (.slice q.RA q.rn q.rc) := (R3.out.cell 41).trans (ycells_41 H32.out 0)
  cases hx : x.roles with
  | nil =>
    have hn0 : q.rn = 0 := by rw [← RR.out.len, hx]; rfl
    rw [hn0] at c41
    have HP : Hid (pay15 L x = false) := Lib.hid (by unfold pay15; rw [hx])
    go_enter Tryd.func31, Tryd.ntmps31
    go_upto_region 1 with fail
    try rw [HG3.out]
    rw [HW.out]
    clear HG3 HW
    go_wp2_with fail
    go_ret
    exact ⟨told_bool HP.out.symm, HB0.out⟩
  | cons y0 rest =>
    have hpos : 0 < q.rn := by rw [← RR.out.len, hx]; exact Nat.succ_pos _
    obtain ⟨ra, y, hra, hrb, hy, hyo, hyc⟩ := RR.out.get (k := 0) hpos
    obtain rfl : y0 = y := by rw [hx] at hy; simpa using hy
    rw [hra] at c41
    have HYO := Lib.hid hyo
    have HYK : Hid (y0.key.length = 32 ∧ AllBytes y0.key) := Lib.hid ⟨hyo.1, HKB.out y0 (by rw [hx]; exact List.mem_cons_self ..)⟩
    have HYC : Hid (∀ j u, y0.cells[j]? = some u → W.cell? (ra.add j) = some u) := Lib.hid fun j u hu => by
      have := hyc j u hu
      rwa [addr_add, Nat.zero_mul, Nat.zero_add] at this
    have cw : W.cell? ⟨ra.block, ra.off + 33, none⟩ = some (.bool y0.wr) := HYC.out 33 _ (role_wr hyo.1)
    clear hrb hy hyo hyc hra
    have hpos' : 0 < (q.rn : Int) := by omega
    have hposn : ¬ (q.rn : Int) = 0 := by omega
    cases hw : y0.wr with
    | false =>
      have HP : Hid (pay15 L x = false) := Lib.hid (by unfold pay15; rw [hx]; simp [hw])
      rw [hw] at cw
      go_enter Tryd.func31, Tryd.ntmps31
      go_upto_region 1 with fail
      try rw [HG3.out]
      rw [HW.out]
      clear HG3 HW
      go_wp2_with fail
      go_ret
      exact ⟨told_bool HP.out.symm, HB0.out⟩
    | true =>
      rw [hw] at cw
      have HGO := Lib.hid (S0.out.sto.get_ok y0.key)
      have HSK : Hid ((Tryd.prog.info? 57).map (·.size) = some (bv y0.key).length) := Lib.hid (by rw [bv_length, HYK.out.1]; exact size_key)
      have HSA := Lib.hid (size_acc HGO.out.o.1)
      have HLA : Hid (blank13.cells.length = (getH L y0.key).cells.length) := Lib.hid (by rw [acc_len HGO.out.o.1]; rfl)
      have HPAY : Hid (pay15 L x = (decide ((getH L y0.key).o = k0) && decide (x.fee ≤ (getH L y0.key).c))) := Lib.hid (by unfold pay15; rw [hx]; simp only [hw, Bool.true_and])
      have HGC := Lib.hid (get13 sb mb L y0.key W S0.out HYK.out)
      have HGK : Hid (∀ j u, (bv (getH L y0.key).o)[j]? = some u → (getH L y0.key).cells[1 + j]? = some u) := Lib.hid fun j u hu => by
        show (Value.int .u64 _ :: (bv (getH L y0.key).o ++ _))[1 + j]? = some u
        rw [Nat.add_comm, List.getElem?_cons_succ, List.getElem?_append_left (List.getElem?_eq_some_iff.1 hu).1]
        exact hu
      have HGK0 : Hid ((getH L y0.key).cells[0]? = some (.int .u64 (getH L y0.key).c)) := Lib.hid rfl
      rw [HPAY.out]
      clear HPAY S0 RR
      generalize getH L y0.key = a at *
      have HSO : Hid ((Tryd.prog.info? 57).map (·.size) = some (bv a.o).length) := Lib.hid (by rw [bv_length, HGO.out.o.1]; exact size_key)
      go_enter Tryd.func31, Tryd.ntmps31
      go_upto_region 1 with fail
      try rw [HG3.out]
      rw [HW.out]
      clear HG3 HW
      go_wp2_with (first
        | ((with_reducible show wpList _ _ _ ({ dst := some 23, op := Op.load _ _, type := _, pos := _, after := _, guard := _ } :: _) _ _); go_must (refine wpList_load_at rfl 57 (.tmp 22) rfl ra (bv y0.key) _ Tryd.underlying57 rfl HSK.out (fun j u hu => HYC.out j u (role_key hu)) ?_ ?_; go_simp))
        | fail)
      refine HGC.out.mono ?_
      rintro e w4 ⟨rfl, hb4⟩
      have B4 := Lib.hid (HB0.out.trans (hb4.mono HB0.out.size))
      have R34 := Lib.hid (R3.out.below hb4 R3.out.lt)
      clear hb4 HGC c41 cw
      go_upto_region 4 with (first
        | ((with_reducible show wpList _ _ _ ({ dst := some 5, op := Op.alloc _, type := _, pos := _, after := _, guard := _ } :: _) _ _); go_must (refine wpList_alloc_zero rfl 59 rfl blank13.cells zero_acc ?_))
        | ((with_reducible show wpList _ _ _ ({ dst := none, op := Op.store 59 _ _, type := _, pos := _, after := _, guard := _ } :: _) _ _); go_must (refine wpList_store_new rfl 59 (.tmp 5) (.tmp 24) rfl a.cells HSA.out (acc_one _) (by rw [List.size_toArray]; exact HLA.out) ?_ ?_ ?_; go_simp; go_simp; intro w5 hr5 hb5 hz5)))
      have R5 := Lib.hid hr5
      have R35 := Lib.hid (R34.out.below hb5 R34.out.lt)
      have B5 := Lib.hid (B4.out.trans (hb5.mono B4.out.size))
      obtain ⟨g5, hg5⟩ : ∃ g, g = w4.heap.size := ⟨_, rfl⟩
      rw [← hg5] at R5 ⊢
      clear hr5 hb5 hz5 hg5 R34 B4
      by_cases he : a.o = k0
      · have hd : decide (a.o = k0) = true := decide_eq_true he
        have HDD := Lib.hid hd
        have NE := Lib.hid (fun w => key_eql (x := a.o) (y := k0) HGO.out.o.1 rfl w)
        rw [hd] at NE
        clear he hd
        have SS0 := Lib.hid (show Below w5.heap.size w5 w5.drew from (Below.refl w5.heap.size w5).drew)
        refine wp_region_held_drew (S := fun V => Below w5.heap.size w5 V) (by kernel_rfl) SS0.out (fun _ => ?_)
        try dsimp only [List.append]
        generalize w5.drew = wd at *
        refine takeL (i := 0) (v := ?_) rfl (by kernel_rfl) (by kernel_rfl) (by kernel_rfl) (fun _ _ _ h => h) (Or.inl ⟨by rfl, ?_⟩) SS0.out ?_
        rotate_left
        · intro w hw
          try dsimp only at hw
          go_simp
          try with_reducible rfl
        try simp only [Act.put, List.setIfInBounds_toArray, List.set_cons_zero, List.set_cons_succ]
        refine takeL (i := 1) (v := .agg (bv a.o).toArray) rfl (by kernel_rfl) (by kernel_rfl) (by kernel_rfl) (fun _ _ _ h => h) (Or.inl ⟨by rfl, fun wz hwz => exec_load_at wz 57 (.tmp 25) rfl ⟨g5, 1, none⟩ (bv a.o) _ Tryd.underlying57 rfl HSO.out (fun j u hu => by rw [addr_row]; exact (hwz.cell (p := ⟨g5, 1 + j, none⟩) R5.out.lt).trans ((R5.out.cell (1 + j)).trans (HGK.out j u hu))) (by go_simp)⟩) SS0.out ?_
        try simp only [Act.put, List.setIfInBounds_toArray, List.set_cons_zero, List.set_cons_succ]
        refine readyL (i := 2) rfl (by kernel_rfl) (by kernel_rfl) fun K hK => ?_
        go_simp
        refine (system_ _).mono ?_
        rintro e w6 ⟨rfl, hb6⟩
        have SS6 := Lib.hid (SS0.out.trans (hb6.mono SS0.out.size))
        have ne1 := NE.out
        clear hb6
        refine hK.out _ _ SS6.out ?_
        clear hK K
        try simp only [Act.put, List.setIfInBounds_toArray, List.set_cons_zero, List.set_cons_succ]
        refine takeL (i := 3) (v := ?_) rfl (by kernel_rfl) (by kernel_rfl) (by kernel_rfl) (fun _ _ _ h => h) (Or.inl ⟨by rfl, ?_⟩) SS6.out ?_
        rotate_left
        · intro w hw
          try dsimp only at hw
          go_simp
          try with_reducible rfl
        try simp only [Act.put, List.setIfInBounds_toArray, List.set_cons_zero, List.set_cons_succ]
        refine takeL (i := 4) (v := ?_) rfl (by kernel_rfl) (by kernel_rfl) (by kernel_rfl) (fun _ _ _ h => h) (Or.inl ⟨by rfl, ?_⟩) SS6.out ?_
        rotate_left
        · intro w hw
          try dsimp only at hw
          go_simp
          try with_reducible rfl
        try simp only [Act.put, List.setIfInBounds_toArray, List.set_cons_zero, List.set_cons_succ]
        refine takeL (i := 5) (v := ?_) rfl (by kernel_rfl) (by kernel_rfl) (by kernel_rfl) (fun _ _ _ h => h) (Or.inl ⟨by rfl, ?_⟩) SS6.out ?_
        rotate_left
        · intro w hw
          try dsimp only at hw
          go_simp
          try with_reducible rfl
        try simp only [Act.put, List.setIfInBounds_toArray, List.set_cons_zero, List.set_cons_succ]
        refine takeL (i := 6) (v := ?_) rfl (by kernel_rfl) (by kernel_rfl) (by kernel_rfl) (fun _ _ _ h => h) (Or.inl ⟨by rfl, ?_⟩) SS6.out ?_
        rotate_left
        · intro w hw
          try dsimp only at hw
          have c0 : w.cell? ⟨g5, 0, none⟩ = some (.int .u64 a.c) := (hw.cell (p := ⟨g5, 0, none⟩) R5.out.lt).trans ((R5.out.cell 0).trans HGK0.out)
          go_simp
          try with_reducible rfl
        try simp only [Act.put, List.setIfInBounds_toArray, List.set_cons_zero, List.set_cons_succ]
        refine takeL (i := 7) (v := ?_) rfl (by kernel_rfl) (by kernel_rfl) (by kernel_rfl) (fun _ _ _ h => h) (Or.inl ⟨by rfl, ?_⟩) SS6.out ?_
        rotate_left
        · intro w hw
          try dsimp only at hw
          go_simp
          try with_reducible rfl
        try simp only [Act.put, List.setIfInBounds_toArray, List.set_cons_zero, List.set_cons_succ]
        refine takeL (i := 8) (v := ?_) rfl (by kernel_rfl) (by kernel_rfl) (by kernel_rfl) (fun _ _ _ h => h) (Or.inl ⟨by rfl, ?_⟩) SS6.out ?_
        rotate_left
        · intro w hw
          try dsimp only at hw
          have c45 : w.cell? ⟨g3, 45, none⟩ = some (.int .u64 x.fee) := (hw.cell (p := ⟨g3, 45, none⟩) R35.out.lt).trans ((R35.out.cell 45).trans (ycells_41 H32.out 4))
          go_simp
          try with_reducible rfl
        try simp only [Act.put, List.setIfInBounds_toArray, List.set_cons_zero, List.set_cons_succ]
        refine takeL (i := 9) (v := ?_) rfl (by kernel_rfl) (by kernel_rfl) (by kernel_rfl) (fun _ _ _ h => h) (Or.inl ⟨by rfl, ?_⟩) SS6.out ?_
        rotate_left
        · intro w hw
          try dsimp only at hw
          go_simp
          try with_reducible rfl
        try simp only [Act.put, List.setIfInBounds_toArray, List.set_cons_zero, List.set_cons_succ]
        refine takeL (i := 10) (v := ?_) rfl (by kernel_rfl) (by kernel_rfl) (by kernel_rfl) (fun _ _ _ h => h) (Or.inl ⟨by rfl, ?_⟩) SS6.out ?_
        rotate_left
        · intro w hw
          try dsimp only at hw
          go_simp
          try with_reducible rfl
        try simp only [Act.put, List.setIfInBounds_toArray, List.set_cons_zero, List.set_cons_succ]
        refine takeL (i := 11) (v := ?_) rfl (by kernel_rfl) (by kernel_rfl) (by kernel_rfl) (fun _ _ _ h => h) (Or.inl ⟨by rfl, ?_⟩) SS6.out ?_
        rotate_left
        · intro w hw
          try dsimp only at hw
          go_simp
          try with_reducible rfl
        try simp only [Act.put, List.setIfInBounds_toArray, List.set_cons_zero, List.set_cons_succ]
        refine wpAnyH_done (by kernel_rfl) ?_ _
        go_wp2_with fail
        go_ret
        refine ⟨?_, B5.out.trans (SS6.out.mono B5.out.size)⟩
        rw [HDD.out, Bool.true_and]
        rfl

      · have hd : decide (a.o = k0) = false := decide_eq_false he
        have HDD := Lib.hid hd
        have NE := Lib.hid (fun w => key_eql (x := a.o) (y := k0) HGO.out.o.1 rfl w)
        rw [hd] at NE
        clear he hd
        have SS0 := Lib.hid (show Below w5.heap.size w5 w5.drew from (Below.refl w5.heap.size w5).drew)
        refine wp_region_held_drew (S := fun V => Below w5.heap.size w5 V) (by kernel_rfl) SS0.out (fun _ => ?_)
        try dsimp only [List.append]
        generalize w5.drew = wd at *
        refine takeL (i := 0) (v := ?_) rfl (by kernel_rfl) (by kernel_rfl) (by kernel_rfl) (fun _ _ _ h => h) (Or.inl ⟨by rfl, ?_⟩) SS0.out ?_
        rotate_left
        · intro w hw
          try dsimp only at hw
          go_simp
          try with_reducible rfl
        try simp only [Act.put, List.setIfInBounds_toArray, List.set_cons_zero, List.set_cons_succ]
        refine takeL (i := 1) (v := .agg (bv a.o).toArray) rfl (by kernel_rfl) (by kernel_rfl) (by kernel_rfl) (fun _ _ _ h => h) (Or.inl ⟨by rfl, fun wz hwz => exec_load_at wz 57 (.tmp 25) rfl ⟨g5, 1, none⟩ (bv a.o) _ Tryd.underlying57 rfl HSO.out (fun j u hu => by rw [addr_row]; exact (hwz.cell (p := ⟨g5, 1 + j, none⟩) R5.out.lt).trans ((R5.out.cell (1 + j)).trans (HGK.out j u hu))) (by go_simp)⟩) SS0.out ?_
        try simp only [Act.put, List.setIfInBounds_toArray, List.set_cons_zero, List.set_cons_succ]
        refine readyL (i := 2) rfl (by kernel_rfl) (by kernel_rfl) fun K hK => ?_
        go_simp
        refine (system_ _).mono ?_
        rintro e w6 ⟨rfl, hb6⟩
        have SS6 := Lib.hid (SS0.out.trans (hb6.mono SS0.out.size))
        have ne1 := NE.out
        clear hb6
        refine hK.out _ _ SS6.out ?_
        clear hK K
        try simp only [Act.put, List.setIfInBounds_toArray, List.set_cons_zero, List.set_cons_succ]
        refine takeL (i := 3) (v := ?_) rfl (by kernel_rfl) (by kernel_rfl) (by kernel_rfl) (fun _ _ _ h => h) (Or.inl ⟨by rfl, ?_⟩) SS6.out ?_
        rotate_left
        · intro w hw
          try dsimp only at hw
          go_simp
          try with_reducible rfl
        try simp only [Act.put, List.setIfInBounds_toArray, List.set_cons_zero, List.set_cons_succ]
        refine takeL (i := 4) (v := ?_) rfl (by kernel_rfl) (by kernel_rfl) (by kernel_rfl) (fun _ _ _ h => h) (Or.inl ⟨by rfl, ?_⟩) SS6.out ?_
        rotate_left
        · intro w hw
          try dsimp only at hw
          go_simp
          try with_reducible rfl
        try simp only [Act.put, List.setIfInBounds_toArray, List.set_cons_zero, List.set_cons_succ]
        refine takeL (i := 5) (v := undef) rfl (by kernel_rfl) (by kernel_rfl) (by kernel_rfl) (fun _ _ _ h => h) (Or.inr ⟨by rfl, rfl⟩) SS6.out ?_
        try simp only [Act.put, List.setIfInBounds_toArray, List.set_cons_zero, List.set_cons_succ]
        refine takeL (i := 6) (v := undef) rfl (by kernel_rfl) (by kernel_rfl) (by kernel_rfl) (fun _ _ _ h => h) (Or.inr ⟨by rfl, rfl⟩) SS6.out ?_
        try simp only [Act.put, List.setIfInBounds_toArray, List.set_cons_zero, List.set_cons_succ]
        refine takeL (i := 7) (v := undef) rfl (by kernel_rfl) (by kernel_rfl) (by kernel_rfl) (fun _ _ _ h => h) (Or.inr ⟨by rfl, rfl⟩) SS6.out ?_
        try simp only [Act.put, List.setIfInBounds_toArray, List.set_cons_zero, List.set_cons_succ]
        refine takeL (i := 8) (v := undef) rfl (by kernel_rfl) (by kernel_rfl) (by kernel_rfl) (fun _ _ _ h => h) (Or.inr ⟨by rfl, rfl⟩) SS6.out ?_
        try simp only [Act.put, List.setIfInBounds_toArray, List.set_cons_zero, List.set_cons_succ]
        refine takeL (i := 9) (v := undef) rfl (by kernel_rfl) (by kernel_rfl) (by kernel_rfl) (fun _ _ _ h => h) (Or.inr ⟨by rfl, rfl⟩) SS6.out ?_
        try simp only [Act.put, List.setIfInBounds_toArray, List.set_cons_zero, List.set_cons_succ]
        refine takeL (i := 10) (v := ?_) rfl (by kernel_rfl) (by kernel_rfl) (by kernel_rfl) (fun _ _ _ h => h) (Or.inl ⟨by rfl, ?_⟩) SS6.out ?_
        rotate_left
        · intro w hw
          try dsimp only at hw
          go_simp
          try with_reducible rfl
        try simp only [Act.put, List.setIfInBounds_toArray, List.set_cons_zero, List.set_cons_succ]
        refine takeL (i := 11) (v := ?_) rfl (by kernel_rfl) (by kernel_rfl) (by kernel_rfl) (fun _ _ _ h => h) (Or.inl ⟨by rfl, ?_⟩) SS6.out ?_
        rotate_left
        · intro w hw
          try dsimp only at hw
          go_simp
          try with_reducible rfl
        try simp only [Act.put, List.setIfInBounds_toArray, List.set_cons_zero, List.set_cons_succ]
        refine wpAnyH_done (by kernel_rfl) ?_ _
        go_wp2_with fail
        go_ret
        refine ⟨?_, B5.out.trans (SS6.out.mono B5.out.size)⟩
        rw [HDD.out, Bool.false_and]
        rfl
/-! ### Load -/
def LoadDone15 (w : World) (L : List LHold) (x : LReady) (e : Ending) (w' : World) : Prop := Below w.heap.size w w' ∧
  ((pay15 L x = false ∧ e = .returned (.tuple #[.slice none 0 0, .int .i64 22])) ∨ (pay15 L x = true ∧ ∃ g cap rest, e = .returned (.tuple #[.slice (some ⟨g, 0, none⟩) x.roles.length x.roles.length, .int .i64 0]) ∧ OutAt w' w.heap.size g cap x.roles.length rest (load15 L x)))
set_option maxHeartbeats 8000000 in
theorem loadC (sb mb : Nat) (L : List LHold) (q : YRaw) (x : LReady) (B : Nat) (w : World) (hs : StIn w sb mb L) (h : ReadyIn w B q x) (hB : B ≤ w.heap.size) (hrn : q.rn ≤ 100000) (hkb : ∀ r ∈ x.roles, AllBytes r.key) (hfee : 0 ≤ x.fee ∧ x.fee < 18446744073709551616) :
    Calls Tryd.prog 12 #[.pointer (some ⟨sb, 0, none⟩), .agg (q.cells x).toArray] w (LoadDone15 w L x) := by
  have hb0 := (Below.refl w.heap.size w).alloc (Nat.le_refl _) (.cells (q.cells x).toArray 41)
  have HB0 := Lib.hid hb0
  have HB := Lib.hid hB
  have H32 := Lib.hid h.tx.m.recent
  have HRN := Lib.hid hrn
  have R3 := Lib.hid (Row.new w 41 (q.cells x))
  have HST := Lib.hid (fun (V : World) (hb : Below w.heap.size w V) => hs.below hb)
  have HRD := Lib.hid (fun (V : World) (hb : Below w.heap.size w V) => h.below (hb.mono hB))
  have HKB := Lib.hid hkb
  have HRL := Lib.hid h.rs.len
  have HFE := Lib.hid hfee
  have HSO := Lib.hid hs.sto
  obtain ⟨g3, hg3⟩ : ∃ g, g = w.heap.size := ⟨_, rfl⟩
  have HG3 : Hid (w.heap.size = g3) := Lib.hid hg3.symm
  rw [← hg3] at R3
  have HG3L : Hid (w.heap.size ≤ g3) := Lib.hid (by omega)
  clear hg3 hb0 hs h hB hkb hfee
  generalize hW : w.alloc (.cells (q.cells x).toArray 41) = W at *
  have HW := Lib.hid hW
  clear hW
  go_enter Tryd.func12, Tryd.ntmps12
  go_upto_region 1 with fail
  try rw [HG3.out]
  rw [HW.out]
  clear HG3 HW
  go_wp2_with fail
  refine (same_yn15 sb mb L W (HST.out W HB0.out)).mono ?_
  rintro e w1 ⟨rfl, rfl⟩
  go_wp2_with (first
    | ((with_reducible show wpList _ _ _ ({ dst := some 12, op := Op.load _ _, type := _, pos := _, after := _, guard := _ } :: _) _ _); go_must (refine wpList_load_whole rfl 41 (.tmp 3) rfl g3 _ (q.cells x) _ Tryd.underlying41 rfl (by rw [ycells_len H32.out]; kernel_rfl) R3.out ?_ ?_; go_simp))
    | fail)
  refine (payable15 sb mb L q x B W (HST.out W HB0.out) (HRD.out W HB0.out) (Nat.le_trans HB.out HB0.out.size) hrn HKB.out).mono ?_
  rintro e w2 ⟨rfl, hb2⟩
  have B2 := Lib.hid (HB0.out.trans (hb2.mono HB0.out.size))
  have R32 := Lib.hid (R3.out.below hb2 R3.out.lt)
  clear hb2 R3 HB0
  cases hp : pay15 L x with
  | false =>
    have HP := Lib.hid hp
    clear hp
    go_wp2_with fail
    go_ret2
    exact ⟨B2.out, .inl ⟨HP.out, rfl⟩⟩
  | true =>
    have HP := Lib.hid hp
    have HPOS : Hid (0 < x.roles.length) := Lib.hid (by
      cases hx : x.roles with
      | nil => unfold pay15 at hp; rw [hx] at hp; cases hp
      | cons _ _ => exact Nat.succ_pos _)
    have HCF : Hid (x.fee ≤ (getA (ld15 L x.roles) 0).c) := Lib.hid (by
      cases hx : x.roles with
      | nil => unfold pay15 at hp; rw [hx] at hp; cases hp
      | cons r rest =>
        unfold pay15 at hp
        rw [hx] at hp
        simp only [Bool.and_eq_true, decide_eq_true_eq] at hp
        exact hp.2.2)
    clear hp
    have c41 : w2.cell? ⟨g3, 41, none⟩ = some (.slice q.RA q.rn q.rc) := (R32.out.cell 41).trans (ycells_41 H32.out 0)
    obtain ⟨n, hn⟩ : ∃ n, n = x.roles.length := ⟨_, rfl⟩
    have HN := Lib.hid hn
    have HQN : Hid (q.rn = n) := Lib.hid (by rw [hn]; exact HRL.out.symm)
    rw [HQN.out] at c41 hrn
    have hpos : 0 < n := by rw [hn]; exact HPOS.out
    clear hn
    go_upto_region 6 with (at_make; (obtain ⟨i0, hi, hz0, hz1, hz2⟩ := info_parts infoAc14); go_must (refine wpList_make_full _ rfl (.tmp 17) (.tmp 17) 49 rfl w2.heap.size 59 i0 _ 34 Tryd.underlying49 hi hz0 hz1 .i64 .i64 _ _ n rfl rfl rfl rfl (by rw [hz2]; omega) (by unfold maxLen; omega) (Nat.le_refl _) ?_; intro w3 hown hgrow))
    rw [made_acc15] at hown
    obtain ⟨g, cap, rest, hgv, hO⟩ := own_out14 hown (List.length_replicate ..) hpos (fun a ha => by rw [List.eq_of_mem_replicate ha]; exact blank_ok)
    injection hgv with hgv _ hcap
    injection hgv with hgv
    injection hgv with hgb _ _
    subst hcap
    have O0 : Hid (OutAt w3 w2.heap.size g n n rest (fill15 L x.roles 0)) := Lib.hid (by rw [fill_zero15, ← HN.out]; exact hO)
    have hb3 := (Below.refl w2.heap.size w2).grown hgrow (Nat.le_refl _) (fun k hk => by cases hk)
    have R33 := Lib.hid (R32.out.below hb3 R32.out.lt)
    have B3 := Lib.hid (B2.out.trans (hb3.mono B2.out.size))
    have HGL : Hid (w.heap.size ≤ g ∧ g3 ≠ g) := Lib.hid (by have h1 := B2.out.size; have h2 := R32.out.lt; have h3 := hO.lo; omega)
    have HGE : Hid (w2.heap.size = g) := Lib.hid hgb
    rw [HGE.out]
    clear hown hO hgrow hb3 hgb R32 B2 c41
    have c41 : w3.cell? ⟨g3, 41, none⟩ = some (.slice q.RA n q.rc) := by rw [← HQN.out]; exact (R33.out.cell 41).trans (ycells_41 H32.out 0)
    go_wp2_with fail
    clear c41
    go_loopw [22] (fun i wr => ∃ k : Nat, k ≤ n ∧ i = .int .i64 k ∧ OutAt wr w.heap.size g n n rest (fill15 L x.roles k) ∧ Below w.heap.size w wr ∧ Row wr g3 41 (q.cells x)) (fun i _ => n - (intOf i).toNat)
    case atStart => exact ⟨0, Nat.zero_le _, rfl, O0.out.low (by rw [HGE.out]; exact HGL.out.1), B3.out, R33.out⟩
    case round =>
      obtain ⟨k, hk, rfl, ho, hb, hr3⟩ := hrel
      have O := Lib.hid ho
      have BW := Lib.hid hb
      have RW := Lib.hid hr3
      clear ho hb hr3 O0 B3 R33
      rename World => wr
      by_cases hlt : k < n
      · have hlt' : (k : Int) < n := by omega
        obtain ⟨ra, y, hra, hrb, hy, hyo, hcr⟩ := (HRD.out wr BW.out).rs.get (k := k) (by rw [HQN.out]; exact hlt)
        have HFN := Lib.hid (fill_next15 L hy)
        have HYM := Lib.hid (List.mem_of_getElem? hy)
        have HCR := Lib.hid hcr
        have HYO := Lib.hid hyo
        have HYK : Hid (y.key.length = 32 ∧ AllBytes y.key) := Lib.hid ⟨hyo.1, HKB.out y (List.mem_of_getElem? hy)⟩
        have HSR := Lib.hid (size_role hyo.1)
        have HRL2 := Lib.hid (role_len hyo.1)
        have HR1 := Lib.hid (role_one y)
        have HRK : Hid (∀ j u, (bv y.key)[j]? = some u → y.cells[j]? = some u) := Lib.hid fun j u hu => role_key hu
        have HSK : Hid ((Tryd.prog.info? 57).map (·.size) = some (bv y.key).length) := Lib.hid (by rw [bv_length, hyo.1]; exact size_key)
        have HGO := Lib.hid (HSO.out.get_ok y.key)
        rw [hra]
        clear hra hrb hy hyo hcr
        generalize y.cells = rc at *
        go_upto_region 9 with (first
          | ((with_reducible show wpList _ _ _ ({ dst := some 26, op := Op.load _ _, type := _, pos := _, after := _, guard := _ } :: _) _ _); go_must (refine wpList_load_at rfl 62 (.tmp 25) rfl (ra.add (k * 34)) rc _ Tryd.underlying62 rfl HSR.out HCR.out ?_ ?_; go_simp))
          | ((with_reducible show wpList _ _ _ ({ dst := none, op := Op.store 62 _ _, type := _, pos := _, after := _, guard := _ } :: _) _ _); go_must (refine wpList_store_new rfl 62 (.tmp 8) (.tmp 26) rfl rc HSR.out HR1.out (by rw [HRL2.out]; rfl) ?_ ?_ ?_; go_simp; go_simp; intro w8 hr8 hb8 hz8)))
        have R8 := Lib.hid hr8
        have B8 := Lib.hid (BW.out.trans (hb8.mono BW.out.size))
        have O8 := Lib.hid (O.out.below hb8)
        have RW8 := Lib.hid (RW.out.below hb8 RW.out.lt)
        obtain ⟨g8, hg8⟩ : ∃ v, v = wr.heap.size := ⟨_, rfl⟩
        rw [← hg8] at R8 ⊢
        have HG8 : Hid (w.heap.size ≤ g8) := Lib.hid (by rw [hg8]; exact BW.out.size)
        clear hr8 hb8 hz8 hg8 O RW BW
        go_wp2_with (first
          | ((with_reducible show wpList _ _ _ ({ dst := some 31, op := Op.load _ _, type := _, pos := _, after := _, guard := _ } :: _) _ _); go_must (refine wpList_load_at rfl 57 (.tmp 30) rfl ⟨g8, 0, none⟩ (bv y.key) _ Tryd.underlying57 rfl HSK.out (fun j u hu => by rw [addr_row, Nat.zero_add]; exact (R8.out.cell j).trans (HRK.out j u hu)) ?_ ?_; go_simp))
          | fail)
        refine (get13 sb mb L y.key w8 (HST.out w8 B8.out) HYK.out).mono ?_
        rintro e w9 ⟨rfl, hb9⟩
        have B9 := Lib.hid (B8.out.trans (hb9.mono B8.out.size))
        have O9 := Lib.hid (O8.out.below hb9)
        have RW9 := Lib.hid (RW8.out.below hb9 RW8.out.lt)
        have HKL : Hid (k < n) := Lib.hid hlt
        have HSA := Lib.hid (size_acc HGO.out.o.1)
        have HAL := Lib.hid (acc_len HGO.out.o.1)
        clear hb9 B8 O8 RW8 R8
        generalize hga : getH L y.key = a at *
        have HFN2 : Hid ((fill15 L x.roles k).set k a = fill15 L x.roles (k + 1)) := Lib.hid HFN.out
        clear hga HFN
        go_wp2_with ((with_reducible show wpList _ _ _ ({ dst := none, op := Op.store 59 _ _, type := _, pos := _, after := _, guard := _ } :: _) _ _); go_must (refine wpList_store_part rfl 59 (.tmp 33) (.tmp 32) rfl g 59 (k * 34 + 0) (accsC (fill15 L x.roles k) ++ rest) a.cells O9.out.row HSA.out (by rw [HAL.out, O9.out.all]; have := HKL.out; omega) (acc_one _) ?_ ?_ ?_; go_simp; go_simp; intro w10 hr10 ht10))
        have OZ : Hid (OutAt w10 w.heap.size g n n rest (fill15 L x.roles (k + 1))) := Lib.hid (by
          rw [← HFN2.out]
          exact O9.out.part HKL.out (o := 0) (cs := a.cells) HGO.out (accs_whole14 (getA_ok O9.out.ok k).o.1 HGO.out.o.1) (by rw [HAL.out]; decide) hr10)
        have BZ := Lib.hid (B9.out.trans (ht10.below HGL.out.1))
        have RZ := Lib.hid (ht10.row RW9.out HGL.out.2)
        clear hr10 ht10
        go_roundw
        case rel => exact ⟨k + 1, by omega, by go_num, OZ.out, BZ.out, RZ.out⟩
        case measure => simp [intOf]; omega
      · obtain rfl : k = n := by omega
        have OA : Hid (OutAt wr w.heap.size g k k rest (ld15 L x.roles)) := Lib.hid (by have := O.out; rwa [HN.out, fill_all15, ← HN.out] at this)
        clear O
        have HA0 := Lib.hid (getA_ok OA.out.ok 0)
        have HK0 : Hid (0 < k) := Lib.hid hpos
        have hpos' : 0 < (k : Int) := by omega
        have hwr : IntKind.u64.wrap ((getA (ld15 L x.roles) 0).c - x.fee) = (getA (ld15 L x.roles) 0).c - x.fee := IntWalk.u64_in _ (by have h1 := HCF.out; have h2 := HA0.out.c; have h3 := HFE.out; omega)
        have HRES : Hid ((ld15 L x.roles).set 0 ⟨(getA (ld15 L x.roles) 0).c - x.fee, (getA (ld15 L x.roles) 0).o, (getA (ld15 L x.roles) 0).s⟩ = load15 L x) := Lib.hid rfl
        have HNA : Hid (AccOk ⟨(getA (ld15 L x.roles) 0).c - x.fee, (getA (ld15 L x.roles) 0).o, (getA (ld15 L x.roles) 0).s⟩) := Lib.hid ⟨by have h1 := HCF.out; have h2 := HA0.out.c; have h3 := HFE.out; constructor <;> simp only <;> omega, HA0.out.o, HA0.out.s⟩
        go_upto_region 11 with fail
        have BD : Hid (Below w.heap.size w wr.drew) := Lib.hid BW.out.drew
        have OD : Hid (OutAt wr.drew w.heap.size g k k rest (ld15 L x.roles)) := Lib.hid ⟨OA.out.row.drew, OA.out.lo, OA.out.len, OA.out.room, OA.out.all, OA.out.ok⟩
        have RD : Hid (Row wr.drew g3 41 (q.cells x)) := Lib.hid RW.out.drew
        refine wp_region_held_drew (S := fun V => V.cell? ⟨g3, 45, none⟩ = some (.int .u64 x.fee)) (by kernel_rfl) ((RW.out.drew.cell 45).trans (ycells_41 H32.out 4)) (fun _ => ?_)
        try dsimp only [List.append]
        clear OA RW BW
        generalize wr.drew = wd at *
        have SD : Hid (wd.cell? ⟨g3, 45, none⟩ = some (.int .u64 x.fee)) := Lib.hid ((RD.out.cell 45).trans (ycells_41 H32.out 4))
        refine takeL (i := 0) (v := ?_) rfl (by kernel_rfl) (by kernel_rfl) (by kernel_rfl) (fun _ _ _ h => h) (Or.inl ⟨by rfl, ?_⟩) SD.out ?_
        rotate_left
        · intro w hw
          try dsimp only at hw
          go_simp
          try with_reducible rfl
        try simp only [Act.put, List.setIfInBounds_toArray, List.set_cons_zero, List.set_cons_succ]
        refine takeL (i := 1) (v := ?_) rfl (by kernel_rfl) (by kernel_rfl) (by kernel_rfl) (fun _ _ _ h => h) (Or.inl ⟨by rfl, ?_⟩) SD.out ?_
        rotate_left
        · intro w hw
          try dsimp only at hw
          go_simp
          try with_reducible rfl
        try simp only [Act.put, List.setIfInBounds_toArray, List.set_cons_zero, List.set_cons_succ]
        refine takeL (i := 2) (v := ?_) rfl (by kernel_rfl) (by kernel_rfl) (by kernel_rfl) (fun _ _ _ h => h) (Or.inl ⟨by rfl, ?_⟩) SD.out ?_
        rotate_left
        · intro w hw
          try dsimp only at hw
          go_simp
          try with_reducible rfl
        try simp only [Act.put, List.setIfInBounds_toArray, List.set_cons_zero, List.set_cons_succ]
        refine takeL (i := 4) (v := ?_) rfl (by kernel_rfl) (by kernel_rfl) (by kernel_rfl) (fun _ _ _ h => h) (Or.inl ⟨by rfl, ?_⟩) SD.out ?_
        rotate_left
        · intro w hw
          try dsimp only at hw
          go_simp
          try with_reducible rfl
        try simp only [Act.put, List.setIfInBounds_toArray, List.set_cons_zero, List.set_cons_succ]
        refine takeL (i := 5) (v := ?_) rfl (by kernel_rfl) (by kernel_rfl) (by kernel_rfl) (fun _ _ _ h => h) (Or.inl ⟨by rfl, ?_⟩) SD.out ?_
        rotate_left
        · intro w hw
          try dsimp only at hw
          go_simp
          try with_reducible rfl
        try simp only [Act.put, List.setIfInBounds_toArray, List.set_cons_zero, List.set_cons_succ]
        refine readyL (i := 3) rfl (by kernel_rfl) (by kernel_rfl) fun K hK => ?_
        have cg0 : wd.cell? ⟨g, 0, none⟩ = some (.int .u64 (getA (ld15 L x.roles) 0).c) := by have := OD.out.cell HK0.out (j := 0) (u := .int .u64 (getA (ld15 L x.roles) 0).c) rfl; simpa using this
        go_simp
        refine hK.out _ _ SD.out ?_
        clear hK K
        try simp only [Act.put, List.setIfInBounds_toArray, List.set_cons_zero, List.set_cons_succ]
        refine takeL (i := 6) (v := ?_) rfl (by kernel_rfl) (by kernel_rfl) (by kernel_rfl) (fun _ _ _ h => h) (Or.inl ⟨by rfl, ?_⟩) SD.out ?_
        rotate_left
        · intro w hw
          try dsimp only at hw
          go_simp
          try with_reducible rfl
        try simp only [Act.put, List.setIfInBounds_toArray, List.set_cons_zero, List.set_cons_succ]
        refine takeL (i := 7) (v := ?_) rfl (by kernel_rfl) (by kernel_rfl) (by kernel_rfl) (fun _ _ _ h => h) (Or.inl ⟨by rfl, ?_⟩) SD.out ?_
        rotate_left
        · intro w hw
          try dsimp only at hw
          go_simp
          try with_reducible rfl
        try simp only [Act.put, List.setIfInBounds_toArray, List.set_cons_zero, List.set_cons_succ]
        refine takeL (i := 8) (v := ?_) rfl (by kernel_rfl) (by kernel_rfl) (by kernel_rfl) (fun _ _ _ h => h) (Or.inl ⟨by rfl, ?_⟩) SD.out ?_
        rotate_left
        · intro w hw
          try dsimp only at hw
          go_simp
          try with_reducible rfl
        try simp only [Act.put, List.setIfInBounds_toArray, List.set_cons_zero, List.set_cons_succ]
        refine readyL (i := 9) rfl (by kernel_rfl) (by kernel_rfl) fun K hK => ?_
        have fg0 := OD.out.row.frozen 0
        go_simp
        have OZ := Lib.hid (OD.out.one HK0.out (o := 0) (u := .int .u64 ((getA (ld15 L x.roles) 0).c - x.fee)) HNA.out (by decide) rfl)
        rw [HRES.out, Nat.zero_mul, Nat.zero_add] at OZ
        have BZ := Lib.hid (BD.out.trans ((turned_setCell wd ⟨g, 0, none⟩ (.int .u64 ((getA (ld15 L x.roles) 0).c - x.fee))).below HGL.out.1))
        refine hK.out _ _ ((RD.out.far (p := ⟨g, 0, none⟩) HGL.out.2 _).cell 45 |>.trans (ycells_41 H32.out 4)) ?_
        clear hK K
        try simp only [Act.put, List.setIfInBounds_toArray, List.set_cons_zero, List.set_cons_succ]
        refine wpAnyH_done (by kernel_rfl) ?_ _
        go_wp2_with fail
        go_ret2
        exact ⟨BZ.out, .inr ⟨HP.out, g, k, rest, by rw [← HN.out]; rfl, by rw [← HN.out]; exact OZ.out⟩⟩
end Go.Proofs.YtfaefpniiiandaaDoor
