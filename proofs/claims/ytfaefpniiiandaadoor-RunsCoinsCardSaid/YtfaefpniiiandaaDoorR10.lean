/-
  Parts joined: Written15 Strange15 Run15 Move15.
-/
import Derived.Below
import Derived.Laws.OwnMore
import Derived.Deep.AppendLies
import Derived.Deep.Draws
import Derived.Lib.Hide
import Derived.Laws.MakeOwn
import Derived.Laws.CopyOwn
import Derived.Laws.Rows
import Derived.Laws.BitsAllLaws
import Derived.WalkKit
import Derived.Test.YtfaefpniiiandaaDoorRows
import Derived.WalkSpells
import Derived.WalkLawsBesides
import Derived.IntWalk
import Derived.Deep.MidRow
import Derived.Deep.WholeRow
import Derived.Maps.AppendAt
import Derived.OwnWalk
import Derived.Great.BuildSlice
import Derived.Recover
import Derived.Deep.RegionHeld
import Derived.Deep.QuietTactic
import Derived.BigQuiet
import Derived.ChangeKeysEq
import Derived.Deep.RegionHeld2
import Derived.Deep.CutBlock
import Derived.Laws.Tables
import Derived.ProofKit
import Derived.OpenShut
import Derived.ShutString
import Derived.ChangeOld
import Derived.Lib.SmallJoins
import Derived.Deep.Slices
import Derived.Deep.Strs
import Derived.SizedLaws
import Derived.Laws.StructEq
import Derived.Laws.Slices
import Derived.Deep.DeepCutAuto
import Derived.Maps.OwnSet
import Derived.DeepKeys4
import Derived.WideKeyArr
import Derived.Laws.EntriesVeiled
import Derived.Deep.RegionHeld3
import Derived.WideKeyEntry
import Derived.WalkMore
import Derived.Maps.RangeWalk
import Derived.Shelf.SlMaps.Clone
import Derived.Laws.Append
import Derived.Laws.AppendOwn
import Derived.LaidMore
import Derived.Maps.OwnOps
import Derived.Laws.BytesArg
import Derived.Laws.Strings
import Derived.Lib.Strings
import Derived.Great.Walk
import Derived.Laws.Bits64b
import Derived.Laws.Externs
import Derived.LaidHandle
import Derived.LaidLaws
import Derived.RangeFuncOwn
import Derived.LaidEql
import Derived.Stop.Asserts
import Derived.RowKitTokens
import Derived.Test.YtfaefpniiiandaaDoorR1
import Derived.Test.YtfaefpniiiandaaDoorR2
import Derived.Test.YtfaefpniiiandaaDoorR3
import Derived.Test.YtfaefpniiiandaaDoorR4
import Derived.Test.YtfaefpniiiandaaDoorR5
import Derived.Test.YtfaefpniiiandaaDoorR6
import Derived.Test.YtfaefpniiiandaaDoorR7
import Derived.Test.YtfaefpniiiandaaDoorR8
import Derived.Test.YtfaefpniiiandaaDoorR9
/-
  Of part Written15: what is needed here.
-/
namespace Go.Proofs.YtfaefpniiiandaaDoor
open Go.RowKit
set_option linter.unusedVariables false
set_option maxRecDepth 100000
set_option maxHeartbeats 400000 in
theorem clipHo15 (A : Option Addr) (n c : Nat) (w : World) (hnc : n ≤ c) (hc : c ≤ maxLen) :
    Calls Tryd.prog 56 #[.slice A n c] w fun e w' => e = .returned (.slice A n n) ∧ w = w' := by
  unfold maxLen at hc
  go_enter Tryd.func56, Tryd.ntmps56
  go_wp2
  go_ret
  exact ⟨rfl, rfl⟩
theorem own_new15 {w : World} {v : Value} {base n size : Nat} {e : TypeId} {xs : List Value} (hown : w.ownsRow base e size v n xs) {g : Nat} (hg : w.heap.size ≤ g) : some g ≠ v.ownBlock := fun e' => by
  have := (hown.lt g e'.symm).2
  omega
/-- what written answers: holdings of the call's own, clipped -/
def WrDone (w : World) (L : List LHold) (e : Ending) (w' : World) : Prop := ∃ A c, e = .returned (.slice A L.length L.length) ∧ w'.ownsRow w.heap.size 64 66 (.slice A L.length c) L.length (holC L) ∧ Below w.heap.size w w'
set_option maxHeartbeats 8000000 in
theorem written15 (RA : Option Addr) (rn rc' B : Nat) (rs : List LRole) (LA : Option Addr) (ln lc : Nat) (l : List LAcc) (w : World) (hr : RolesIn w B RA rn rs) (hl : AccsIn w B LA ln l) (hlc : ln ≤ lc) (hn : ln = rn) (hB : B ≤ w.heap.size) (hln : ln ≤ 100000) :
    Calls Tryd.prog 35 #[.slice RA rn rc', .slice LA ln lc] w (WrDone w (chg15 rs l)) := by
  have HB := Lib.hid hB
  have HRN := Lib.hid (fun (V : World) (hb : Below w.heap.size w V) => hr.below (hb.mono hB))
  have HLN := Lib.hid (fun (V : World) (hb : Below w.heap.size w V) => hl.below (hb.mono hB))
  have HLL := Lib.hid hl.len
  have HRL0 := Lib.hid hr.len
  subst hn
  clear hr hl hB
  obtain ⟨base, hbase⟩ : ∃ b, b = w.heap.size := ⟨_, rfl⟩
  go_enter Tryd.func35, Tryd.ntmps35
  go_wp2_with fail
  go_loopw [10, 5] (fun i o wr => ∃ k : Nat, k ≤ ln ∧ i = .int .i64 k ∧ wr.ownsRow base 64 66 o (chg15 (rs.take k) (l.take k)).length (holC (chg15 (rs.take k) (l.take k))) ∧ Below w.heap.size w wr) (fun i _ _ => ln - (intOf i).toNat)
  case atStart => exact ⟨0, Nat.zero_le _, rfl, by rw [List.take_zero]; exact own_nilN _ _ _ _, Below.refl _ _⟩
  case round =>
    obtain ⟨k, hk, rfl, hown, hbw⟩ := hrel
    have O := Lib.hid hown
    have BW := Lib.hid hbw
    clear hown hbw
    rename World => wr
    by_cases hlt : k < ln
    · have hlt' : (k : Int) < ln := by omega
      have hk100 : k < 100000 := by omega
      obtain ⟨ra, y, era, hrb, hy, hyo, hcr⟩ := (HRN.out wr BW.out).get (k := k) hlt
      obtain ⟨la, z, ela, hlb, hz, hzo, hzc⟩ := (HLN.out wr BW.out).get hlt
      have HSN := Lib.hid (chg_snoc15 hy hz)
      have HCR := Lib.hid hcr
      have HZC := Lib.hid hzc
      have HYO := Lib.hid hyo
      have HZO := Lib.hid hzo
      have HBL : Hid (la.block < base) := Lib.hid (by rw [hbase]; exact Nat.lt_of_lt_of_le hlb HB.out)
      have HWB : Hid (base ≤ wr.heap.size) := Lib.hid (by rw [hbase]; exact BW.out.size)
      have HSR := Lib.hid (size_role hyo.1)
      have HRL := Lib.hid (role_len hyo.1)
      have HR1 := Lib.hid (role_one y)
      have HWR := Lib.hid (role_wr hyo.1)
      have HRK : Hid (∀ j u, (bv y.key)[j]? = some u → y.cells[j]? = some u) := Lib.hid fun j u hu => role_key hu
      subst ela era
      clear hrb hy hyo hcr hlb hz hzo hzc
      cases hw : y.wr with
      | false =>
        rw [hw] at HWR HSN
        generalize y.cells = rc at *
        go_wp2_with (first
          | ((with_reducible show wpList _ _ _ ({ dst := some 14, op := Op.load _ _, type := _, pos := _, after := _, guard := _ } :: _) _ _); go_must (refine wpList_load_at rfl 62 (.tmp 13) rfl (ra.add (k * 34)) rc _ Tryd.underlying62 rfl HSR.out HCR.out ?_ ?_; go_simp))
          | ((with_reducible show wpList _ _ _ ({ dst := none, op := Op.store 62 _ _, type := _, pos := _, after := _, guard := _ } :: _) _ _); go_must (refine wpList_store_new rfl 62 (.tmp 7) (.tmp 14) rfl rc HSR.out HR1.out (by rw [HRL.out]; rfl) ?_ ?_ ?_; go_simp; go_simp; intro w2 hr1 hb1 hz1; have R1 := Lib.hid hr1; have B1 := Lib.hid hb1; clear hr1 hb1 hz1; have d33 := (R1.out.cell 33).trans HWR.out)))
        go_roundw
        case rel => exact ⟨k + 1, by omega, by go_num, by rw [HSN.out]; simpa using own_below O.out B1.out, BW.out.trans (B1.out.mono BW.out.size)⟩
        case measure => simp [intOf]; omega
      | true =>
        rw [hw] at HWR HSN
        rw [if_pos rfl] at HSN
        have HKK : Hid ((LHold.mk y.key z).cells.length = 66) := Lib.hid (hold_len HYO.out.1 HZO.out.o.1)
        have HBU := Lib.hid (built_hold15 (l := bv y.key) (m := z.cells) (by rw [bv_length, HYO.out.1]) (acc_len HZO.out.o.1))
        generalize y.cells = rc at *
        go_upto_region 6 with (first
          | ((with_reducible show wpList _ _ _ ({ dst := some 14, op := Op.load _ _, type := _, pos := _, after := _, guard := _ } :: _) _ _); go_must (refine wpList_load_at rfl 62 (.tmp 13) rfl (ra.add (k * 34)) rc _ Tryd.underlying62 rfl HSR.out HCR.out ?_ ?_; go_simp))
          | ((with_reducible show wpList _ _ _ ({ dst := none, op := Op.store 62 _ _, type := _, pos := _, after := _, guard := _ } :: _) _ _); go_must (refine wpList_store_new rfl 62 (.tmp 7) (.tmp 14) rfl rc HSR.out HR1.out (by rw [HRL.out]; rfl) ?_ ?_ ?_; go_simp; go_simp; intro w2 hr1 hb1 hz1; have R1 := Lib.hid hr1; have B1 := Lib.hid hb1; clear hr1 hb1 hz1; have d33 := (R1.out.cell 33).trans HWR.out)))
        clear d33
        have O1 := Lib.hid (own_below O.out B1.out)
        have HNE := Lib.hid (own_new15 O.out (Nat.le_refl wr.heap.size))
        obtain ⟨g, hg⟩ : ∃ g, g = wr.heap.size := ⟨_, rfl⟩
        rw [← hg] at R1 HNE ⊢
        have B2 := Lib.hid (BW.out.trans (B1.out.mono BW.out.size))
        have HZC2 : Hid (∀ j u, z.cells[j]? = some u → w2.cell? ((la.add (k * 34)).add j) = some u) := Lib.hid fun j u hu => (B1.out.cell (by rw [addr_block, addr_block]; exact Nat.lt_of_lt_of_le HBL.out HWB.out)).trans (HZC.out j u hu)
        have SZ2 : Hid (base ≤ w2.heap.size) := Lib.hid (by rw [hbase]; exact B2.out.size)
        clear O HZC
        refine wp_region_held_drew (S := fun V => Below base w2 V ∧ Row V g 62 rc) (by kernel_rfl) ⟨(Below.refl base w2).drew, R1.out.drew⟩ (fun _ => ?_)
        try dsimp only [List.append]
        have O := Lib.hid (show w2.drew.ownsRow base 64 66 u5 _ _ from O1.out)
        have BD := Lib.hid (show Below base w2 w2.drew ∧ Row w2.drew g 62 rc from ⟨(Below.refl base w2).drew, R1.out.drew⟩)
        have SZ : Hid (base ≤ w2.drew.heap.size) := Lib.hid SZ2.out
        clear O1
        generalize w2.drew = wd at *
        refine takeL (i := 0) (v := ?_) rfl (by kernel_rfl) (by kernel_rfl) (by kernel_rfl) (fun _ _ _ h => h) (Or.inl ⟨by rfl, ?_⟩) BD.out ?_
        rotate_left
        · intro w hw
          try dsimp only at hw
          go_simp
          try with_reducible rfl
        try simp only [Act.put, List.setIfInBounds_toArray, List.set_cons_zero, List.set_cons_succ]
        refine takeL (i := 1) (v := ?_) rfl (by kernel_rfl) (by kernel_rfl) (by kernel_rfl) (fun _ _ _ h => h) (Or.inl ⟨by rfl, ?_⟩) BD.out ?_
        rotate_left
        · intro w hw
          try dsimp only at hw
          go_simp
          try with_reducible rfl
        try simp only [Act.put, List.setIfInBounds_toArray, List.set_cons_zero, List.set_cons_succ]
        refine takeL (i := 2) (v := .agg (bv y.key).toArray) rfl (by kernel_rfl) (by kernel_rfl) (by kernel_rfl) (fun _ _ _ h => h) (Or.inl ⟨by rfl, fun wz hwz => exec_load_at wz 57 (.tmp 18) rfl ⟨g, 0, none⟩ (bv y.key) _ Tryd.underlying57 rfl (by rw [size_key, bv_length, HYO.out.1]) (fun j u hu => by rw [addr_row, Nat.zero_add]; exact (hwz.2.cell j).trans (HRK.out j u hu)) (by go_simp)⟩) BD.out ?_
        try simp only [Act.put, List.setIfInBounds_toArray, List.set_cons_zero, List.set_cons_succ]
        refine takeL (i := 3) (v := ?_) rfl (by kernel_rfl) (by kernel_rfl) (by kernel_rfl) (fun _ _ _ h => h) (Or.inl ⟨by rfl, ?_⟩) BD.out ?_
        rotate_left
        · intro w hw
          try dsimp only at hw
          go_simp
          try with_reducible rfl
        try simp only [Act.put, List.setIfInBounds_toArray, List.set_cons_zero, List.set_cons_succ]
        refine takeL (i := 4) (v := ?_) rfl (by kernel_rfl) (by kernel_rfl) (by kernel_rfl) (fun _ _ _ h => h) (Or.inl ⟨by rfl, ?_⟩) BD.out ?_
        rotate_left
        · intro w hw
          try dsimp only at hw
          go_simp
          try with_reducible rfl
        try simp only [Act.put, List.setIfInBounds_toArray, List.set_cons_zero, List.set_cons_succ]
        refine takeL (i := 5) (v := ?_) rfl (by kernel_rfl) (by kernel_rfl) (by kernel_rfl) (fun _ _ _ h => h) (Or.inl ⟨by rfl, ?_⟩) BD.out ?_
        rotate_left
        · intro w hw
          try dsimp only at hw
          go_simp
          try with_reducible rfl
        try simp only [Act.put, List.setIfInBounds_toArray, List.set_cons_zero, List.set_cons_succ]
        refine takeL (i := 6) (v := .agg z.cells.toArray) rfl (by kernel_rfl) (by kernel_rfl) (by kernel_rfl) (fun _ _ _ h => h) (Or.inl ⟨by rfl, fun wz hwz => exec_load_at wz 59 (.tmp 22) rfl (la.add (k * 34)) z.cells _ Tryd.underlying59 rfl (size_acc HZO.out.o.1) (fun j u hu => (hwz.1.cell (by rw [addr_block, addr_block]; exact HBL.out)).trans (HZC2.out j u hu)) (by go_simp)⟩) BD.out ?_
        try simp only [Act.put, List.setIfInBounds_toArray, List.set_cons_zero, List.set_cons_succ]
        refine takeL (i := 7) (v := .agg (LHold.mk y.key z).cells.toArray) rfl (by kernel_rfl) (by kernel_rfl) (by kernel_rfl) (fun _ _ _ h => h) (Or.inl ⟨by rfl, fun wz hwz => exec_built wz _ _ _ rfl (by simp only [List.map_toArray, List.map_cons, List.map_nil]; exact HBU.out)⟩) BD.out ?_
        try simp only [Act.put, List.setIfInBounds_toArray, List.set_cons_zero, List.set_cons_succ]
        refine readyL (i := 8) rfl (by kernel_rfl) (by kernel_rfl) fun K hK => ?_
        refine wp_buildOne 22 64 (.tmp 24) rfl (LHold.mk y.key z).cells _ 66 80 Tryd.underlying22 infoHo zszHo (by omega) (by omega) HKK.out (by go_simp) ?_
        have BE := Lib.hid (show Below base w2 _ ∧ Row _ g 62 rc from ⟨BD.out.1.alloc SZ.out (.cells (LHold.mk y.key z).cells.toArray 64), BD.out.2.alloc (.cells (LHold.mk y.key z).cells.toArray 64)⟩)
        refine hK.out _ _ BE.out ?_
        clear hK K
        try simp only [Act.put, List.setIfInBounds_toArray, List.set_cons_zero, List.set_cons_succ]
        refine readyL (i := 9) rfl (by kernel_rfl) (by kernel_rfl) fun K hK => ?_
        refine wp_addRow (.tmp 17) (.tmp 25) 22 rfl base 64 _ 66 80 Tryd.underlying22 infoHo zszHo (by omega) u5 _ _ (LHold.mk y.key z).cells 1 HKK.out (hold_one _) rfl (by go_simp) O.out (by go_simp) SZ.out (by have := chg_len15 (rs.take k) (l.take k); have := List.length_take_le k l; unfold maxLen; omega) (by have := chg_len15 (rs.take k) (l.take k); have := List.length_take_le k l; omega) (fun v9 w9 ho9 hg9 => ?_)
        have B9 := Lib.hid (show Below base w2 w9 ∧ Row w9 g 62 rc from ⟨BD.out.1.trans (hg9.below O.out SZ.out), hg9.row BD.out.2 HNE.out⟩)
        have O9 := Lib.hid ho9
        clear ho9 hg9 BE
        refine hK.out _ _ B9.out ?_
        clear hK K
        try simp only [Act.put, List.setIfInBounds_toArray, List.set_cons_zero, List.set_cons_succ]
        refine takeL (i := 10) (v := ?_) rfl (by kernel_rfl) (by kernel_rfl) (by kernel_rfl) (fun _ _ _ h => h) (Or.inl ⟨by rfl, ?_⟩) B9.out ?_
        rotate_left
        · intro w hw
          try dsimp only at hw
          go_simp
          try with_reducible rfl
        try simp only [Act.put, List.setIfInBounds_toArray, List.set_cons_zero, List.set_cons_succ]
        refine wpAnyH_done (by kernel_rfl) ?_ _
        go_wp2_with fail
        go_roundw
        case rel => exact ⟨k + 1, by omega, by go_num, by rw [HSN.out, holC_snoc, List.length_append]; exact O9.out, B2.out.trans (by rw [← hbase]; exact B9.out.1)⟩
        case measure => simp [intOf]; omega
    · obtain rfl : k = ln := by omega
      have e1 : rs.take k = rs := List.take_of_length_le (by rw [HRL0.out]; exact Nat.le_refl _)
      have e2 : l.take k = l := List.take_of_length_le (by rw [HLL.out]; exact Nat.le_refl _)
      have O2 := O.out
      rw [e1, e2] at O2
      clear e1 e2 O
      obtain ⟨A2, c2, he, _, hr1, hr2, _⟩ := own_form2 O2
      subst he
      have O3 := Lib.hid O2
      have HCL := Lib.hid (clipHo15 A2 (chg15 rs l).length c2 wr hr1 hr2)
      clear O2 hr1 hr2
      go_wp2_with fail
      refine HCL.out.mono ?_
      rintro e w9 ⟨rfl, rfl⟩
      go_wp2_with fail
      go_ret
      exact ⟨A2, c2, rfl, by rw [← hbase]; exact O3.out, BW.out⟩
end Go.Proofs.YtfaefpniiiandaaDoor

/-
  Of part Strange15: what is needed here.
-/
namespace Go.Proofs.YtfaefpniiiandaaDoor
open Go.RowKit
set_option linter.unusedVariables false
set_option maxRecDepth 100000
def stg15 (rn : Nat) (a : LIn) : Bool := decide ((rn : Int) ≤ a.p)
set_option maxHeartbeats 800000 in
theorem strange115 (p : Int) (AA : Option Addr) (an ac : Nat) (DD : Option Addr) (dn dc : Nat) (rn g : Nat) (RA : Option Addr) (rc : Nat) (w : World) (h0 : 0 ≤ p) (h1 : p < 256) (hr : rn ≤ 100000) (ct : w.cell? ⟨g, 41, none⟩ = some (.slice RA rn rc)) :
    Calls Tryd.prog 49 #[.agg (insC p AA an ac DD dn dc).toArray, .pointer (some ⟨g, 0, none⟩)] w fun e w' => e = .returned (.bool (decide ((rn : Int) ≤ p))) ∧ Below w.heap.size w w' := by
  have hb0 := (Below.refl w.heap.size w).alloc (Nat.le_refl _) (.cells (insC p AA an ac DD dn dc).toArray 70)
  have HB0 := Lib.hid hb0
  have ct2 := (hb0.cell (block_lt_of_cell ct)).trans ct
  have c0 : (w.alloc (.cells (insC p AA an ac DD dn dc).toArray 70)).cell? ⟨w.heap.size, 0, none⟩ = some (.int .u8 p) := (Row.new w 70 (insC p AA an ac DD dn dc)).cell 0
  clear hb0 ct
  have hw : IntKind.i64.wrap p = p := IntWalk.i64_in (by omega) (by omega)
  by_cases h : (rn : Int) ≤ p
  · have hp : Hid (decide ((rn : Int) ≤ p) = true) := Lib.hid (decide_eq_true h)
    go_enter Tryd.func49, Tryd.ntmps49
    go_wp2_with fail
    go_ret
    exact ⟨told_bool hp.out.symm, HB0.out⟩
  · have hp : Hid (decide ((rn : Int) ≤ p) = false) := Lib.hid (decide_eq_false h)
    go_enter Tryd.func49, Tryd.ntmps49
    go_wp2_with fail
    go_ret
    exact ⟨told_bool hp.out.symm, HB0.out⟩
def IdxDone15 (b : Bool) (e : Ending) : Prop := ∃ r : Int, e = .returned (.int .i64 r) ∧ (0 ≤ r ↔ b = true)
theorem any_take15 {l : List LIn} {k : Nat} {a : LIn} {f : LIn → Bool} (h : l[k]? = some a) : (l.take (k + 1)).any f = ((l.take k).any f || f a) := by
  rw [List.take_add_one, h]
  simp
set_option maxHeartbeats 4000000 in
theorem index15 (A : Option Addr) (n c B g rn : Nat) (RA : Option Addr) (rc : Nat) (l : List LIn) (w : World) (hs : InsIn w B A n l) (hB : B ≤ w.heap.size) (hb : ∀ a ∈ l, IsByte a.p) (hn : n ≤ 100000) (hr : rn ≤ 100000) (ct : w.cell? ⟨g, 41, none⟩ = some (.slice RA rn rc)) :
    Calls Tryd.prog 64 #[.slice A n c, .func (.func 49) #[] #[.pointer (some ⟨g, 0, none⟩)]] w fun e w' => IdxDone15 (l.any (stg15 rn)) e ∧ Below w.heap.size w w' := by
  have HL := Lib.hid hs.len
  have HB := Lib.hid hb
  have HS := Lib.hid (fun (V : World) (hv : Below w.heap.size w V) => hs.below (hv.mono hB))
  have HG := Lib.hid (fun (V : World) (hv : Below w.heap.size w V) => (hv.cell (block_lt_of_cell ct)).trans ct)
  clear hb hs hB ct
  go_enter Tryd.func64, Tryd.ntmps64
  go_wp2_with fail
  go_loopw [8] (fun i wr => ∃ k : Nat, k ≤ n ∧ i = .int .i64 k ∧ (l.take k).any (stg15 rn) = false ∧ Below w.heap.size w wr) (fun i _ => n - (intOf i).toNat)
  case atStart => exact ⟨0, Nat.zero_le _, rfl, by simp, Below.refl _ _⟩
  case round =>
    obtain ⟨k, hk, rfl, hany, hbw⟩ := hrel
    have HA := Lib.hid hany
    have BW := Lib.hid hbw
    clear hany hbw
    rename World => wr
    by_cases hlt : k < n
    · have hlt' : (k : Int) < n := by omega
      obtain ⟨ia, a, va, vd, hia, hib, ha, hat⟩ := (HS.out wr BW.out).get (k := k) hlt
      obtain ⟨AA, ac, rfl, ha1, ha2, ha3⟩ := hat.acc.is
      obtain ⟨DD, dc, rfl, hd1, hd2, hd3⟩ := hat.dat.is
      have HCE := Lib.hid hat.cells
      have hpb := HB.out a (List.mem_of_getElem? ha)
      have HX := Lib.hid (any_take15 (f := stg15 rn) ha)
      have HME := Lib.hid (List.mem_of_getElem? ha)
      have HC := Lib.hid (strange115 a.p AA a.acc.length ac DD a.dat.length dc rn g RA rc wr hpb.1 hpb.2 hr (HG.out wr BW.out))
      subst hia
      clear hib ha hat ha1 ha2 ha3 hd1 hd2 hd3 hpb
      by_cases hp : (rn : Int) ≤ a.p
      · have HP : Hid (l.any (stg15 rn) = true) := Lib.hid (List.any_eq_true.2 ⟨a, HME.out, decide_eq_true hp⟩)
        have hpd : decide ((rn : Int) ≤ a.p) = true := decide_eq_true hp
        have HC2 := Lib.hid HC.out
        rw [hpd] at HC2
        clear HC hpd hp
        go_wp2_with (first
          | ((with_reducible show wpList _ _ _ ({ dst := some 15, op := Op.load _ _, type := _, pos := _, after := _, guard := _ } :: _) _ _); go_must (refine wpList_load_at rfl 70 (.tmp 14) rfl (ia.add (k * 3)) (insC a.p AA a.acc.length ac DD a.dat.length dc) _ Tryd.underlying70 rfl (by kernel_rfl) HCE.out ?_ ?_; go_simp))
          | (go_at_call 49; refine HC2.out.mono ?_; rintro e w' ⟨rfl, hb9⟩; have B9 := Lib.hid hb9; clear hb9))
        go_ret
        exact ⟨⟨_, rfl, by constructor; (intro _; exact HP.out); (intro _; omega)⟩, BW.out.trans (B9.out.mono BW.out.size)⟩
      · have HP : Hid ((l.take (k + 1)).any (stg15 rn) = false) := Lib.hid (by rw [HX.out, HA.out]; exact decide_eq_false hp)
        have hpd : decide ((rn : Int) ≤ a.p) = false := decide_eq_false hp
        have HC2 := Lib.hid HC.out
        rw [hpd] at HC2
        clear HC hpd hp
        go_wp2_with (first
          | ((with_reducible show wpList _ _ _ ({ dst := some 15, op := Op.load _ _, type := _, pos := _, after := _, guard := _ } :: _) _ _); go_must (refine wpList_load_at rfl 70 (.tmp 14) rfl (ia.add (k * 3)) (insC a.p AA a.acc.length ac DD a.dat.length dc) _ Tryd.underlying70 rfl (by kernel_rfl) HCE.out ?_ ?_; go_simp))
          | (go_at_call 49; refine HC2.out.mono ?_; rintro e w' ⟨rfl, hb9⟩; have B9 := Lib.hid hb9; clear hb9))
        go_roundw
        case rel => exact ⟨k + 1, by omega, by go_num, HP.out, BW.out.trans (B9.out.mono BW.out.size)⟩
        case measure => simp [intOf]; omega
    · obtain rfl : k = n := by omega
      have HE : Hid (l.any (stg15 rn) = false) := Lib.hid (by
        have h1 := HA.out
        rwa [List.take_of_length_le (by rw [HL.out]; exact Nat.le_refl _)] at h1)
      go_wp2_with fail
      go_ret
      exact ⟨⟨_, rfl, by rw [HE.out]; simp⟩, BW.out⟩
theorem idx_told15 {b : Bool} {r : Int} (h : 0 ≤ r ↔ b = true) : decide (0 ≤ r) = b := by
  cases b with
  | true => exact decide_eq_true (h.2 rfl)
  | false => exact decide_eq_false (fun e => by cases h.1 e)
set_option maxHeartbeats 800000 in
theorem contains15 (A : Option Addr) (n c B g rn : Nat) (RA : Option Addr) (rc : Nat) (l : List LIn) (w : World) (hs : InsIn w B A n l) (hB : B ≤ w.heap.size) (hb : ∀ a ∈ l, IsByte a.p) (hn : n ≤ 100000) (hr : rn ≤ 100000) (ct : w.cell? ⟨g, 41, none⟩ = some (.slice RA rn rc)) :
    Calls Tryd.prog 48 #[.slice A n c, .func (.func 49) #[] #[.pointer (some ⟨g, 0, none⟩)]] w fun e w' => e = .returned (.bool (l.any (stg15 rn))) ∧ Below w.heap.size w w' := by
  have HI := Lib.hid (index15 A n c B g rn RA rc l w hs hB hb hn hr ct)
  clear hs hb hB ct
  go_enter Tryd.func48, Tryd.ntmps48
  go_wp2_with fail
  refine HI.out.mono ?_
  rintro e w' ⟨⟨r, rfl, hr⟩, hb9⟩
  have HR := Lib.hid hr
  have B9 := Lib.hid hb9
  clear hr hb9
  go_wp2_with fail
  go_ret
  exact ⟨told_bool (by first | exact (idx_told15 HR.out).symm | exact idx_told15 HR.out), B9.out⟩
set_option maxHeartbeats 800000 in
theorem strange15 (q : YRaw) (x : LReady) (B : Nat) (w : World) (h : ReadyIn w B q x) (hB : B ≤ w.heap.size) (hb : ∀ a ∈ x.tx.m.ins, IsByte a.p) (hn : q.t.q.n ≤ 65535) (hr : q.rn ≤ 100000) :
    Calls Tryd.prog 32 #[.agg (q.cells x).toArray] w fun e w' => e = .returned (.bool (x.tx.m.ins.any (stg15 q.rn))) ∧ Below w.heap.size w w' := by
  have hmf : ∀ (fn : Fn) (first cap : Array Value) (w : World), (Instr.makeFunc fn first cap).run Tryd.prog w = .ok (.func fn first cap) w := fun _ _ _ _ => rfl
  have hb0 := (Below.refl w.heap.size w).alloc (Nat.le_refl _) (.cells (q.cells x).toArray 41)
  have HB0 := Lib.hid hb0
  have R0 := Row.new w 41 (q.cells x)
  have c39 : (w.alloc (.cells (q.cells x).toArray 41)).cell? ⟨w.heap.size, 39, none⟩ = some (.slice q.t.q.IA q.t.q.n q.t.q.ic) := (R0.cell 39).trans (ycells_39 h.tx.m.recent)
  have c41 : (w.alloc (.cells (q.cells x).toArray 41)).cell? ⟨w.heap.size, 41, none⟩ = some (.slice q.RA q.rn q.rc) := (R0.cell 41).trans (ycells_41 h.tx.m.recent 0)
  have HC := Lib.hid (contains15 q.t.q.IA q.t.q.n q.t.q.ic B w.heap.size q.rn q.RA q.rc x.tx.m.ins _ (h.tx.m.ins.below (hb0.mono hB)) (Nat.le_trans hB hb0.size) hb (by omega) hr c41)
  clear h hb0 R0 hb c41
  go_enter Tryd.func32, Tryd.ntmps32
  go_wp2_with (go_at_call 48; refine HC.out.mono ?_; rintro e w' ⟨rfl, hb9⟩; have B9 := Lib.hid hb9; clear hb9)
  go_ret
  exact ⟨rfl, HB0.out.trans (B9.out.mono HB0.out.size)⟩
end Go.Proofs.YtfaefpniiiandaaDoor

/-
  Of part Run15: what is needed here.
-/
namespace Go.Proofs.YtfaefpniiiandaaDoor
open Go.RowKit
set_option linter.unusedVariables false
set_option maxRecDepth 100000
/-- what Run answers: holdings of the call's own, clipped -/
def RunDoneC (w : World) (R : LOut × Int) (e : Ending) (w' : World) : Prop := ∃ A c, e = .returned (.tuple #[.agg (R.1.cells (.slice A R.1.ch.length R.1.ch.length)).toArray, .int .i64 R.2]) ∧ w'.ownsRow w.heap.size 64 66 (.slice A R.1.ch.length c) R.1.ch.length (holC R.1.ch) ∧ Below w.heap.size w w'
theorem run_badC {w w' : World} {R : LOut × Int} (h : R = (out0, 1)) (hb : Below w.heap.size w w') : RunDoneC w R (.returned (.tuple #[.agg (out0.cells (.slice none 0 0)).toArray, .int .i64 1])) w' := by
  subst h
  exact ⟨none, 0, rfl, own_nilN _ _ _ _, hb⟩
theorem built_wk15 (RA LA : Option Addr) (rn rc ln lc : Nat) (u : Int) : Tryd.prog.built 96 [(0, .slice RA rn rc), (1, .slice LA ln lc), (2, .int .u64 u)] = some (wkC RA rn rc (.slice LA ln lc) u 0).toArray := by kernel_rfl
theorem zero_wk15 : (Tryd.prog.info? 96).map (·.zero) = some (some (.agg (wkC none 0 0 (.slice none 0 0) 0 0).toArray)) := by kernel_rfl
theorem wk_one15 {RA LA : Option Addr} {rn rc ln lc : Nat} {u s : Int} : ∀ y ∈ wkC RA rn rc (.slice LA ln lc) u s, y.oneCell' = true := by
  intro y hy
  simp only [wkC, List.mem_cons, List.not_mem_nil, or_false] at hy
  rcases hy with rfl | rfl | rfl | rfl <;> rfl
theorem built_o15 (u f s : Int) : Tryd.prog.built 54 [(1, .int .i64 (-1)), (2, .int .u64 u), (3, .int .u64 f), (4, .int .u64 s)] = some ((LOut.mk 0 (-1) u f s []).cells (.slice none 0 0)).toArray := by kernel_rfl
/-- what is used is within the budget -/
theorem step_units15 {x : LReady} {k : Nat} {a : LIn} {S : S15} (h : 0 ≤ S.units ∧ S.units ≤ x.u) : 0 ≤ (step15 x k a S).2.units ∧ (step15 x k a S).2.units ≤ x.u := by
  unfold step15
  split
  · exact ⟨by show 0 ≤ x.u; omega, Int.le_refl _⟩
  · rename_i hc
    have h2 : 0 ≤ S.units + 150 ∧ S.units + 150 ≤ x.u := by omega
    split
    · exact h2
    · split
      · split
        · exact h2
        · exact h2
      · split
        · exact h2
        · exact h2
theorem go_units15 {x : LReady} : ∀ (L : List LIn) (k : Nat) (S : S15), (0 ≤ S.units ∧ S.units ≤ x.u) → 0 ≤ (go15 x L k S).2.2.units ∧ (go15 x L k S).2.2.units ≤ x.u
  | [], _, _, h => h
  | a :: r, k, S, h => by
    unfold go15
    split
    · exact go_units15 r _ _ (step_units15 h)
    · exact step_units15 h
/-- good steps keep the accounts' number -/
theorem go_len15 {x : LReady} {ln : Nat} : ∀ (L : List LIn) (k : Nat) (S : S15), S.now.length = ln → (∀ y ∈ S.now, AccOk y) → (∀ a ∈ L, AllBytes a.acc ∧ AllBytes a.dat) → (go15 x L k S).1 = 0 → (go15 x L k S).2.2.now.length = ln
  | [], _, _, h, _, _, _ => h
  | a :: r, k, S, h, hok, hb, h0 => by
    have hba := hb a (List.mem_cons_self ..)
    unfold go15 at h0 ⊢
    split at h0
    · rename_i hs
      rw [if_pos hs]
      have hst : (step15 x k a S).2.now.length = ln ∧ ∀ y ∈ (step15 x k a S).2.now, AccOk y := by
        revert hs
        unfold step15
        split
        · intro hs; cases hs
        · split
          · intro hs; cases hs
          · split
            · split
              · rename_i he
                intro _
                obtain ⟨pa, pb, hwt⟩ := do_went hok hba.2 hba.1 he
                exact ⟨hwt.d.len.trans h, hwt.d.ok⟩
              · rename_i he
                intro hs
                exact absurd hs he
            · split
              · intro _; exact ⟨h, hok⟩
              · intro hs; cases hs
      exact go_len15 r _ _ hst.1 hst.2 (fun b hb2 => hb b (List.mem_cons_of_mem _ hb2)) h0
    · rename_i hs
      exact absurd h0 hs
theorem run_fine15 {x : LReady} {l : List LAcc} (hl : l.length = x.roles.length) (hp : ∀ a ∈ x.tx.m.ins, a.p < (x.roles.length : Int)) (h : (go15 x x.tx.m.ins 0 ⟨l, 0, 0⟩).1 = 0) : run15 x l = (⟨0, -1, (go15 x x.tx.m.ins 0 ⟨l, 0, 0⟩).2.2.units, x.fee, (go15 x x.tx.m.ins 0 ⟨l, 0, 0⟩).2.2.space, chg15 x.roles (go15 x x.tx.m.ins 0 ⟨l, 0, 0⟩).2.2.now⟩, 0) := by
  unfold run15
  rw [if_neg (by omega), if_neg (by rintro ⟨b, hb, hc⟩; have := hp b hb; omega), if_pos h]
theorem run_ill15 {x : LReady} {l : List LAcc} (hl : l.length = x.roles.length) (hp : ∀ a ∈ x.tx.m.ins, a.p < (x.roles.length : Int)) (h : (go15 x x.tx.m.ins 0 ⟨l, 0, 0⟩).1 ≠ 0) : run15 x l = (⟨(go15 x x.tx.m.ins 0 ⟨l, 0, 0⟩).1, (go15 x x.tx.m.ins 0 ⟨l, 0, 0⟩).2.1, (go15 x x.tx.m.ins 0 ⟨l, 0, 0⟩).2.2.units, x.fee, 0, chg15 x.roles l⟩, 0) := by
  unfold run15
  rw [if_neg (by omega), if_neg (by rintro ⟨b, hb, hc⟩; have := hp b hb; omega), if_neg h]
theorem any_stg15 {x : LReady} {rn : Nat} (hr : x.roles.length = rn) : (x.tx.m.ins.any (stg15 rn) = true ↔ ∃ a ∈ x.tx.m.ins, (x.roles.length : Int) ≤ a.p) := by
  rw [List.any_eq_true]
  subst hr
  constructor
  · rintro ⟨a, ha, h⟩
    exact ⟨a, ha, of_decide_eq_true h⟩
  · rintro ⟨a, ha, h⟩
    exact ⟨a, ha, decide_eq_true h⟩
theorem not_stg15 {x : LReady} {rn : Nat} (hr : x.roles.length = rn) (hb : ∀ a ∈ x.tx.m.ins, IsByte a.p) (h : ¬ x.tx.m.ins.any (stg15 rn) = true) : (∀ a ∈ x.tx.m.ins, 0 ≤ a.p ∧ a.p < (rn : Int)) ∧ ∀ a ∈ x.tx.m.ins, a.p < (x.roles.length : Int) := by
  have h2 : ∀ a ∈ x.tx.m.ins, a.p < (x.roles.length : Int) := fun a ha => by
    by_cases hc : a.p < (x.roles.length : Int)
    · exact hc
    · exact absurd ((any_stg15 hr).2 ⟨a, ha, by omega⟩) h
  exact ⟨fun a ha => ⟨(hb a ha).1, by rw [← hr]; exact h2 a ha⟩, h2⟩
theorem RX.but {w V V' : World} {B g2 g4 ln h : Nat} {q : YRaw} {x : LReady} {LA : Option Addr} {l : List LAcc} (a : RX w V B g2 g4 q x LA ln l) (hB : B ≤ w.heap.size) (hb : But h V V') (h1 : w.heap.size ≤ h) (h2 : g2 ≠ h) (h4 : g4 ≠ h) : RX w V' B g2 g4 q x LA ln l :=
  ⟨a.b.trans (hb.below h1 a.b.size), hb.row a.r2 h2, hb.row a.r4 h4, a.rd.below (hb.below (Nat.le_trans hB h1) (Nat.le_trans hB a.b.size)), a.ac.below (hb.below (Nat.le_trans hB h1) (Nat.le_trans hB a.b.size))⟩
set_option maxHeartbeats 4000000 in
theorem run_argC (q : YRaw) (x : LReady) (B : Nat) (LA : Option Addr) (ln lc : Nat) (l : List LAcc) (w : World) (h : ReadyIn w B q x) (hl : AccsIn w B LA ln l) (hlc : ln ≤ lc ∧ lc ≤ maxLen) (hB : B ≤ w.heap.size) (hln : ln ≤ 100000) (hpb : ∀ a ∈ x.tx.m.ins, IsByte a.p) (hab : ∀ a ∈ x.tx.m.ins, AllBytes a.acc ∧ AllBytes a.dat) (hu : 0 ≤ x.u ∧ x.u < 18446744073709551616) (hsm : q.t.q.n ≤ 65535 ∧ ∀ a ∈ x.tx.m.ins, a.acc.length ≤ 65535) (htw : TypAt w) (hne : ln ≠ q.rn) :
    Calls Tryd.prog 13 #[.agg (q.cells x).toArray, .slice LA ln lc] w (RunDoneC w (run15 x l)) := by
  have HD : Hid (run15 x l = (out0, 1)) := Lib.hid (arg15 (by rw [hl.len, h.rs.len]; exact hne))
  have hne' : ¬ (ln : Int) = (q.rn : Int) := fun e => hne (by exact_mod_cast e)
  clear hne
  have HB := Lib.hid hB
  have H32 := Lib.hid h.tx.m.recent
  have HRL := Lib.hid h.rs.len
  have HLL := Lib.hid hl.len
  have HPB := Lib.hid hpb
  have HAB := Lib.hid hab
  have HU := Lib.hid hu
  have HSM := Lib.hid hsm
  have HRM := Lib.hid h.rn
  have HT0 := Lib.hid htw
  have HLC := Lib.hid hlc
  have hbw := ((Below.refl w.heap.size w).alloc (Nat.le_refl _) (.cells (q.cells x).toArray 41)).alloc (by simp) (.cells (out0.cells (.slice none 0 0)).toArray 54)
  have R2 := Lib.hid ((Row.new w 41 (q.cells x)).alloc (.cells (out0.cells (.slice none 0 0)).toArray 54))
  have R4 := Lib.hid (Row.new' (w.alloc (.cells (q.cells x).toArray 41)) 54 (out0.cells (.slice none 0 0)) (g := w.heap.size + 1) (by simp))
  have X0 : Hid (RX w ((w.alloc (.cells (q.cells x).toArray 41)).alloc (.cells (out0.cells (.slice none 0 0)).toArray 54)) B w.heap.size (w.heap.size + 1) q x LA ln l) := Lib.hid ⟨hbw, R2.out, R4.out, h.below (hbw.mono hB), hl.below (hbw.mono hB)⟩
  clear hbw h hl R2 R4
  obtain ⟨g4, hg4⟩ : ∃ g, g = w.heap.size + 1 := ⟨_, rfl⟩
  have HG4 : Hid ((w.alloc (.cells (q.cells x).toArray 41)).heap.size = g4) := Lib.hid (by rw [hg4]; simp)
  have HG42 : Hid (w.heap.size + 1 = g4) := Lib.hid hg4.symm
  obtain ⟨g2, hg2⟩ : ∃ g, g = w.heap.size := ⟨_, rfl⟩
  have HG2 : Hid (w.heap.size = g2) := Lib.hid hg2.symm
  rw [← hg4, ← hg2] at X0
  have HGL : Hid (w.heap.size ≤ g2 ∧ w.heap.size ≤ g4) := Lib.hid (by omega)
  have HGN : Hid (g2 ≠ g4) := Lib.hid (by omega)
  clear hg2 hg4
  generalize hW0 : w.alloc (.cells (q.cells x).toArray 41) = W0 at *
  generalize hW : W0.alloc (.cells (out0.cells (.slice none 0 0)).toArray 54) = W at *
  have HW0 := Lib.hid hW0
  have HW := Lib.hid hW
  clear hW hW0 hpb hab hu hsm htw hlc hB
  go_enter Tryd.func13, Tryd.ntmps13
  go_upto_region 1 with ((with_reducible show wpList _ _ _ ({ dst := some 4, op := Op.alloc _, type := _, pos := _, after := _, guard := _ } :: _) _ _); go_must (refine wpList_alloc_zero rfl 54 rfl (out0.cells (.slice none 0 0)) zero_out15 ?_))
  rw [HW0.out]
  rw [HW.out]
  try rw [HG4.out]
  try rw [HG42.out]
  try rw [HG2.out]
  clear HG2 HG4 HG42 HW0 HW
  have c41 : W.cell? ⟨g2, 41, none⟩ = some (.slice q.RA q.rn q.rc) := (X0.out.r2.cell 41).trans (ycells_41 H32.out 0)
  go_wp2_with (first
      | ((with_reducible show wpList _ _ _ ({ dst := some 20, op := Op.build _ _, type := _, pos := _, after := _, guard := _ } :: _) _ _); go_must (refine wpList_plain rfl fun K hK => wp_built _ _ _ rfl (by simp only [List.map_toArray, List.map_nil]; exact built_out0) (hK _ _ ?_)))
      | ((with_reducible show wpList _ _ _ ({ dst := none, op := Op.store 54 _ _, type := _, pos := _, after := _, guard := _ } :: _) _ _); go_must (refine wpList_store_whole rfl 54 (.tmp 4) (.tmp 20) rfl g4 (out0.cells (.slice none 0 0)) (out0.cells (.slice none 0 0)) X0.out.r4 (size_out15 _ _) rfl (out_one15 _ rfl) ?_ ?_ ?_; go_simp; go_simp; intro w5 hr5 ht5)))
  have R5 := Lib.hid hr5
  have B5 := Lib.hid (X0.out.b.trans (ht5.below HGL.out.2))
  clear hr5 ht5
  refine bodyPost_ret (results_cell1 (h := rfl) _ w5 ⟨g4, 0, none⟩ _ _ (by rfl) (by rfl) (run_loadVar_row w5 g4 54 54 (out0.cells (.slice none 0 0)).toArray (0, 0) _ R5.out.is Tryd.underlying54 rfl (by rw [List.size_toArray]; exact size_out15 _ _))) rfl ?_
  exact run_badC HD.out B5.out
set_option maxHeartbeats 4000000 in
theorem run_strC (q : YRaw) (x : LReady) (B : Nat) (LA : Option Addr) (ln lc : Nat) (l : List LAcc) (w : World) (h : ReadyIn w B q x) (hl : AccsIn w B LA ln l) (hlc : ln ≤ lc ∧ lc ≤ maxLen) (hB : B ≤ w.heap.size) (hln : ln ≤ 100000) (hpb : ∀ a ∈ x.tx.m.ins, IsByte a.p) (hab : ∀ a ∈ x.tx.m.ins, AllBytes a.acc ∧ AllBytes a.dat) (hu : 0 ≤ x.u ∧ x.u < 18446744073709551616) (hsm : q.t.q.n ≤ 65535 ∧ ∀ a ∈ x.tx.m.ins, a.acc.length ≤ 65535) (htw : TypAt w) (heq : ln = q.rn) (hs : x.tx.m.ins.any (stg15 q.rn) = true) :
    Calls Tryd.prog 13 #[.agg (q.cells x).toArray, .slice LA ln lc] w (RunDoneC w (run15 x l)) := by
  have HD : Hid (run15 x l = (out0, 1)) := Lib.hid (prog_bad15 ((any_stg15 h.rs.len).1 hs))
  have HRN : Hid (q.rn ≤ 100000) := Lib.hid (by omega)
  have heq' : (ln : Int) = (q.rn : Int) := by exact_mod_cast heq
  have hlc0 := hlc.1
  have hlc1 := hlc.2
  clear heq
  have HB := Lib.hid hB
  have H32 := Lib.hid h.tx.m.recent
  have HRL := Lib.hid h.rs.len
  have HLL := Lib.hid hl.len
  have HPB := Lib.hid hpb
  have HAB := Lib.hid hab
  have HU := Lib.hid hu
  have HSM := Lib.hid hsm
  have HRM := Lib.hid h.rn
  have HT0 := Lib.hid htw
  have HLC := Lib.hid hlc
  have hbw := ((Below.refl w.heap.size w).alloc (Nat.le_refl _) (.cells (q.cells x).toArray 41)).alloc (by simp) (.cells (out0.cells (.slice none 0 0)).toArray 54)
  have R2 := Lib.hid ((Row.new w 41 (q.cells x)).alloc (.cells (out0.cells (.slice none 0 0)).toArray 54))
  have R4 := Lib.hid (Row.new' (w.alloc (.cells (q.cells x).toArray 41)) 54 (out0.cells (.slice none 0 0)) (g := w.heap.size + 1) (by simp))
  have X0 : Hid (RX w ((w.alloc (.cells (q.cells x).toArray 41)).alloc (.cells (out0.cells (.slice none 0 0)).toArray 54)) B w.heap.size (w.heap.size + 1) q x LA ln l) := Lib.hid ⟨hbw, R2.out, R4.out, h.below (hbw.mono hB), hl.below (hbw.mono hB)⟩
  clear hbw h hl R2 R4
  obtain ⟨g4, hg4⟩ : ∃ g, g = w.heap.size + 1 := ⟨_, rfl⟩
  have HG4 : Hid ((w.alloc (.cells (q.cells x).toArray 41)).heap.size = g4) := Lib.hid (by rw [hg4]; simp)
  have HG42 : Hid (w.heap.size + 1 = g4) := Lib.hid hg4.symm
  obtain ⟨g2, hg2⟩ : ∃ g, g = w.heap.size := ⟨_, rfl⟩
  have HG2 : Hid (w.heap.size = g2) := Lib.hid hg2.symm
  rw [← hg4, ← hg2] at X0
  have HGL : Hid (w.heap.size ≤ g2 ∧ w.heap.size ≤ g4) := Lib.hid (by omega)
  have HGN : Hid (g2 ≠ g4) := Lib.hid (by omega)
  clear hg2 hg4
  generalize hW0 : w.alloc (.cells (q.cells x).toArray 41) = W0 at *
  generalize hW : W0.alloc (.cells (out0.cells (.slice none 0 0)).toArray 54) = W at *
  have HW0 := Lib.hid hW0
  have HW := Lib.hid hW
  clear hW hW0 hpb hab hu hsm htw hlc hB
  go_enter Tryd.func13, Tryd.ntmps13
  go_upto_region 1 with ((with_reducible show wpList _ _ _ ({ dst := some 4, op := Op.alloc _, type := _, pos := _, after := _, guard := _ } :: _) _ _); go_must (refine wpList_alloc_zero rfl 54 rfl (out0.cells (.slice none 0 0)) zero_out15 ?_))
  rw [HW0.out]
  rw [HW.out]
  try rw [HG4.out]
  try rw [HG42.out]
  try rw [HG2.out]
  clear HG2 HG4 HG42 HW0 HW
  have c41 : W.cell? ⟨g2, 41, none⟩ = some (.slice q.RA q.rn q.rc) := (X0.out.r2.cell 41).trans (ycells_41 H32.out 0)
  have HST := Lib.hid (strange15 q x B W X0.out.rd (Nat.le_trans HB.out X0.out.b.size) HPB.out HSM.out.1 HRN.out)
  rw [hs] at HST
  go_wp2_with (first
      | ((with_reducible show wpList _ _ _ ({ dst := some 17, op := Op.load _ _, type := _, pos := _, after := _, guard := _ } :: _) _ _); go_must (refine wpList_load_atg (by kernel_rfl) 41 (.tmp 2) rfl ⟨g2, 0, none⟩ (q.cells x) _ Tryd.underlying41 rfl (size_rd15b H32.out) (fun j v hv => by rw [addr_row, X0.out.r2.cell, Nat.zero_add]; exact hv) ?_ ?_; go_simp))
      | fail)
  refine HST.out.mono ?_
  rintro e ws ⟨rfl, hbs⟩
  have X1 := Lib.hid (X0.out.below HB.out hbs)
  clear hbs HST X0
  go_wp2_with (first
      | ((with_reducible show wpList _ _ _ ({ dst := some 20, op := Op.build _ _, type := _, pos := _, after := _, guard := _ } :: _) _ _); go_must (refine wpList_plain rfl fun K hK => wp_built _ _ _ rfl (by simp only [List.map_toArray, List.map_nil]; exact built_out0) (hK _ _ ?_)))
      | ((with_reducible show wpList _ _ _ ({ dst := none, op := Op.store 54 _ _, type := _, pos := _, after := _, guard := _ } :: _) _ _); go_must (refine wpList_store_whole rfl 54 (.tmp 4) (.tmp 20) rfl g4 (out0.cells (.slice none 0 0)) (out0.cells (.slice none 0 0)) X1.out.r4 (size_out15 _ _) rfl (out_one15 _ rfl) ?_ ?_ ?_; go_simp; go_simp; intro w5 hr5 ht5)))
  have R5 := Lib.hid hr5
  have B5 := Lib.hid (X1.out.b.trans (ht5.below HGL.out.2))
  clear hr5 ht5
  refine bodyPost_ret (results_cell1 (h := rfl) _ w5 ⟨g4, 0, none⟩ _ _ (by rfl) (by rfl) (run_loadVar_row w5 g4 54 54 (out0.cells (.slice none 0 0)).toArray (0, 0) _ R5.out.is Tryd.underlying54 rfl (by rw [List.size_toArray]; exact size_out15 _ _))) rfl ?_
  exact run_badC HD.out B5.out
set_option maxHeartbeats 16000000 in
theorem run_goC (q : YRaw) (x : LReady) (B : Nat) (LA : Option Addr) (ln lc : Nat) (l : List LAcc) (w : World) (h : ReadyIn w B q x) (hl : AccsIn w B LA ln l) (hlc : ln ≤ lc ∧ lc ≤ maxLen) (hB : B ≤ w.heap.size) (hln : ln ≤ 100000) (hpb : ∀ a ∈ x.tx.m.ins, IsByte a.p) (hab : ∀ a ∈ x.tx.m.ins, AllBytes a.acc ∧ AllBytes a.dat) (hu : 0 ≤ x.u ∧ x.u < 18446744073709551616) (hsm : q.t.q.n ≤ 65535 ∧ ∀ a ∈ x.tx.m.ins, a.acc.length ≤ 65535) (htw : TypAt w) (heq : ln = q.rn) (hs : ¬ x.tx.m.ins.any (stg15 q.rn) = true) :
    Calls Tryd.prog 13 #[.agg (q.cells x).toArray, .slice LA ln lc] w (RunDoneC w (run15 x l)) := by
  have HNS := Lib.hid (not_stg15 h.rs.len hpb hs)
  have HS0 : Hid (x.tx.m.ins.any (stg15 q.rn) = false) := Lib.hid (by simpa using hs)
  have HLR : Hid (l.length = x.roles.length) := Lib.hid (by rw [hl.len, h.rs.len, heq])
  have heq' : (ln : Int) = (q.rn : Int) := by exact_mod_cast heq
  have HEQ := Lib.hid heq
  have HRN : Hid (q.rn ≤ 100000) := Lib.hid (by omega)
  have hlc0 := hlc.1
  have hlc1 := hlc.2
  clear hs heq
  have HB := Lib.hid hB
  have H32 := Lib.hid h.tx.m.recent
  have HRL := Lib.hid h.rs.len
  have HLL := Lib.hid hl.len
  have HPB := Lib.hid hpb
  have HAB := Lib.hid hab
  have HU := Lib.hid hu
  have HSM := Lib.hid hsm
  have HRM := Lib.hid h.rn
  have HT0 := Lib.hid htw
  have HLC := Lib.hid hlc
  have hbw := ((Below.refl w.heap.size w).alloc (Nat.le_refl _) (.cells (q.cells x).toArray 41)).alloc (by simp) (.cells (out0.cells (.slice none 0 0)).toArray 54)
  have R2 := Lib.hid ((Row.new w 41 (q.cells x)).alloc (.cells (out0.cells (.slice none 0 0)).toArray 54))
  have R4 := Lib.hid (Row.new' (w.alloc (.cells (q.cells x).toArray 41)) 54 (out0.cells (.slice none 0 0)) (g := w.heap.size + 1) (by simp))
  have X0 : Hid (RX w ((w.alloc (.cells (q.cells x).toArray 41)).alloc (.cells (out0.cells (.slice none 0 0)).toArray 54)) B w.heap.size (w.heap.size + 1) q x LA ln l) := Lib.hid ⟨hbw, R2.out, R4.out, h.below (hbw.mono hB), hl.below (hbw.mono hB)⟩
  clear hbw h hl R2 R4
  obtain ⟨g4, hg4⟩ : ∃ g, g = w.heap.size + 1 := ⟨_, rfl⟩
  have HG4 : Hid ((w.alloc (.cells (q.cells x).toArray 41)).heap.size = g4) := Lib.hid (by rw [hg4]; simp)
  have HG42 : Hid (w.heap.size + 1 = g4) := Lib.hid hg4.symm
  obtain ⟨g2, hg2⟩ : ∃ g, g = w.heap.size := ⟨_, rfl⟩
  have HG2 : Hid (w.heap.size = g2) := Lib.hid hg2.symm
  rw [← hg4, ← hg2] at X0
  have HGL : Hid (w.heap.size ≤ g2 ∧ w.heap.size ≤ g4) := Lib.hid (by omega)
  have HGN : Hid (g2 ≠ g4) := Lib.hid (by omega)
  clear hg2 hg4
  generalize hW0 : w.alloc (.cells (q.cells x).toArray 41) = W0 at *
  generalize hW : W0.alloc (.cells (out0.cells (.slice none 0 0)).toArray 54) = W at *
  have HW0 := Lib.hid hW0
  have HW := Lib.hid hW
  clear hW hW0 hpb hab hu hsm htw hlc hB
  go_enter Tryd.func13, Tryd.ntmps13
  go_upto_region 1 with ((with_reducible show wpList _ _ _ ({ dst := some 4, op := Op.alloc _, type := _, pos := _, after := _, guard := _ } :: _) _ _); go_must (refine wpList_alloc_zero rfl 54 rfl (out0.cells (.slice none 0 0)) zero_out15 ?_))
  rw [HW0.out]
  rw [HW.out]
  try rw [HG4.out]
  try rw [HG42.out]
  try rw [HG2.out]
  clear HG2 HG4 HG42 HW0 HW
  have c41 : W.cell? ⟨g2, 41, none⟩ = some (.slice q.RA q.rn q.rc) := (X0.out.r2.cell 41).trans (ycells_41 H32.out 0)
  have HST := Lib.hid (strange15 q x B W X0.out.rd (Nat.le_trans HB.out X0.out.b.size) HPB.out HSM.out.1 HRN.out)
  rw [HS0.out] at HST
  clear HS0
  go_wp2_with (first
      | ((with_reducible show wpList _ _ _ ({ dst := some 17, op := Op.load _ _, type := _, pos := _, after := _, guard := _ } :: _) _ _); go_must (refine wpList_load_atg (by kernel_rfl) 41 (.tmp 2) rfl ⟨g2, 0, none⟩ (q.cells x) _ Tryd.underlying41 rfl (size_rd15b H32.out) (fun j v hv => by rw [addr_row, X0.out.r2.cell, Nat.zero_add]; exact hv) ?_ ?_; go_simp))
      | fail)
  refine HST.out.mono ?_
  rintro e ws ⟨rfl, hbs⟩
  have X1 := Lib.hid (X0.out.below HB.out hbs)
  clear hbs HST X0 c41
  have c41 : ws.cell? ⟨g2, 41, none⟩ = some (.slice q.RA q.rn q.rc) := (X1.out.r2.cell 41).trans (ycells_41 H32.out 0)
  have c42 : ws.cell? ⟨g2, 42, none⟩ = some (.int .u64 x.u) := (X1.out.r2.cell 42).trans (ycells_41 H32.out 1)
  go_upto_region 4 with (first
      | ((with_reducible show wpList _ _ _ ({ dst := some 27, op := Op.build _ _, type := _, pos := _, after := _, guard := _ } :: _) _ _); go_must (refine wpList_plain rfl fun K hK => wp_built _ _ _ rfl (by simp only [List.map_toArray, List.map_cons, List.map_nil]; exact built_wk15 _ _ _ _ _ _ _) (hK _ _ ?_)))
      | ((with_reducible show wpList _ _ _ ({ dst := some 6, op := Op.alloc _, type := _, pos := _, after := _, guard := _ } :: _) _ _); go_must (refine wpList_alloc_zero rfl 96 rfl (wkC none 0 0 (.slice none 0 0) 0 0) zero_wk15 ?_))
      | ((with_reducible show wpList _ _ _ ({ dst := none, op := Op.store 96 _ _, type := _, pos := _, after := _, guard := _ } :: _) _ _); go_must (refine wpList_store_new rfl 96 (.tmp 6) (.tmp 27) rfl (wkC q.RA q.rn q.rc (.slice LA ln lc) x.u 0) (wk_size15 _ _ _ _ _ _) wk_one15 rfl ?_ ?_ ?_; go_simp; go_simp; intro w3 hr3 hb3 hz3)))
  have RH := Lib.hid hr3
  have X3 := Lib.hid (X1.out.below HB.out hb3)
  obtain ⟨hw, hhw⟩ : ∃ g, g = ws.heap.size := ⟨_, rfl⟩
  rw [← hhw] at RH ⊢
  have HHG : Hid (w.heap.size ≤ hw ∧ g2 ≠ hw ∧ g4 ≠ hw) := Lib.hid (by have h1 := X1.out.b.size; have h2 := X1.out.r2.lt; have h4 := X1.out.r4.lt; omega)
  clear hr3 hb3 hz3 X1 c41 c42 hhw
  have HAV : Hid (AV15 w3 hw (.slice LA ln lc) l) := Lib.hid (.inl ⟨LA, lc, by rw [HLL.out], by rw [HLL.out]; exact X3.out.ac.more (Nat.le_trans HB.out HHG.out.1), by rw [HLL.out]; exact HLC.out.1, HLC.out.2⟩)
  have HALL := Lib.hid (all15 hw q x B l (.slice LA ln lc) w3 RH.out HAV.out X3.out.rd (Nat.le_trans HB.out HHG.out.1) (by rw [HLL.out]; exact hln) HRN.out HNS.out.1 HAB.out HU.out HSM.out)
  clear HAV
  go_wp2_with (first
      | ((with_reducible show wpList _ _ _ ({ dst := some 28, op := Op.load _ _, type := _, pos := _, after := _, guard := _ } :: _) _ _); go_must (refine wpList_load_whole rfl 41 (.tmp 2) rfl g2 _ (q.cells x) _ Tryd.underlying41 rfl (size_rd15b H32.out) X3.out.r2 ?_ ?_; go_simp))
      | fail)
  refine HALL.out.mono ?_
  clear HALL
  have HGU := Lib.hid (go_units15 (x := x) x.tx.m.ins 0 ⟨l, 0, 0⟩ ⟨Int.le_refl _, HU.out.1⟩)
  have HFI := Lib.hid (run_fine15 (x := x) (l := l) HLR.out HNS.out.2)
  have HIL := Lib.hid (run_ill15 (x := x) (l := l) HLR.out HNS.out.2)
  have HLG9 := Lib.hid (go_len15 (x := x) x.tx.m.ins 0 ⟨l, 0, 0⟩ (ln := ln) HLL.out X3.out.ac.ok HAB.out)
  have HX34 : Hid (g2 < w3.heap.size ∧ g4 < w3.heap.size ∧ hw < w3.heap.size) := Lib.hid ⟨X3.out.r2.lt, X3.out.r4.lt, RH.out.lt⟩
  rintro e w4 ⟨hb4, hcases⟩
  generalize go15 x x.tx.m.ins 0 ⟨l, 0, 0⟩ = G at *
  have X4 := Lib.hid (X3.out.but HB.out hb4 HHG.out.1 HHG.out.2.1 HHG.out.2.2)
  have HB34 : Hid (w3.heap.size ≤ w4.heap.size) := Lib.hid hb4.size
  clear X3 hb4
  have c42 : w4.cell? ⟨g2, 42, none⟩ = some (.int .u64 x.u) := (X4.out.r2.cell 42).trans (ycells_41 H32.out 1)
  have c45 : w4.cell? ⟨g2, 45, none⟩ = some (.int .u64 x.fee) := (X4.out.r2.cell 45).trans (ycells_41 H32.out 4)
  have hgu0 := HGU.out.1
  have hgu1 := HGU.out.2
  have hu1 := HU.out.2
  have hwr : IntKind.u64.wrap (x.u - (x.u - G.2.2.units)) = G.2.2.units := by rw [IntKind.wrap_u64]; omega
  rcases hcases with ⟨hne, fb, rfl, hfb, hfbs, va9, sp9, hrw⟩ | ⟨hee, rfl, v9, hav, hrw⟩
  · have HRW := Lib.hid hrw
    have HFB := Lib.hid hfb
    have HFX : Hid (g2 < fb ∧ g4 < fb ∧ hw < fb) := Lib.hid (by have h1 := HX34.out; omega)
    have HRUN := Lib.hid (HIL.out hne)
    clear hrw hfb hne HFI HIL
    have HWB := Lib.hid HRW.out.lt
    have h2 : w4.cell? ⟨hw, 2, none⟩ = some (.int .u64 (x.u - G.2.2.units)) := HRW.out.cell 2
    have h3 : w4.cell? ⟨hw, 3, none⟩ = some (.int .u64 sp9) := HRW.out.cell 3
    have HFS : Hid (fb ≠ g2 ∧ fb ≠ g4 ∧ fb ≠ hw) := Lib.hid (by have h1 := HFX.out; omega)
    go_upto_region 6 with (first
        | ((with_reducible show wpList _ _ _ ({ dst := some 40, op := Op.build _ _, type := _, pos := _, after := _, guard := _ } :: _) _ _); go_must (refine wpList_plain rfl fun K hK => wp_built _ _ _ rfl (by simp only [List.map_toArray, List.map_cons, List.map_nil]; exact built_o15 _ _ _) (hK _ _ ?_)))
        | ((with_reducible show wpList _ _ _ ({ dst := some 8, op := Op.alloc _, type := _, pos := _, after := _, guard := _ } :: _) _ _); go_must (refine wpList_alloc_zero rfl 54 rfl (out0.cells (.slice none 0 0)) zero_out15 ?_))
        | ((with_reducible show wpList _ _ _ ({ dst := none, op := Op.store 54 _ _, type := _, pos := _, after := _, guard := _ } :: _) _ _); go_must (refine wpList_store_new rfl 54 (.tmp 8) (.tmp 40) rfl ((LOut.mk 0 (-1) G.2.2.units x.fee sp9 []).cells (.slice none 0 0)) (size_out15 _ _) (out_one15 _ rfl) rfl ?_ ?_ ?_; go_simp; go_simp; intro w5 hr5 hb5 hz5)))
    have X5 := Lib.hid (X4.out.below HB.out hb5)
    have RH5 := Lib.hid (HRW.out.below hb5 HWB.out)
    have F5 := Lib.hid (HFB.out.below hb5 HFB.out.lt)
    have O5 := Lib.hid hr5
    obtain ⟨g8, hg8⟩ : ∃ g, g = w4.heap.size := ⟨_, rfl⟩
    rw [← hg8] at O5 ⊢
    have HG8 : Hid (g8 ≠ g2 ∧ g8 ≠ g4 ∧ g8 ≠ hw ∧ w.heap.size ≤ g8 ∧ fb ≠ g8) := Lib.hid (by have h1 := X4.out.r2.lt; have h2 := X4.out.r4.lt; have h3 := HWB.out; have h4 := X4.out.b.size; have h5 := HFB.out.lt; omega)
    clear X4 HRW HFB HB34 hr5 hb5 hz5 hg8 c42 c45 h2 h3 hwr hgu0 hgu1
    go_upto_region 7 with fail
    have hb6 := (Below.refl w5.heap.size w5).alloc (Nat.le_refl _) (.cells #[.pointer none] 100)
    have X6 := Lib.hid (X5.out.below HB.out hb6)
    have RH6 := Lib.hid (RH5.out.below hb6 RH5.out.lt)
    have F6 := Lib.hid (F5.out.below hb6 F5.out.lt)
    have O6 := Lib.hid (O5.out.below hb6 O5.out.lt)
    have N6 := Lib.hid (Row.new w5 100 [.pointer none])
    obtain ⟨g9, hg9⟩ : ∃ g, g = w5.heap.size := ⟨_, rfl⟩
    rw [← hg9] at N6 ⊢
    have HG9 : Hid (g9 ≠ g2 ∧ g9 ≠ g4 ∧ g9 ≠ hw ∧ w.heap.size ≤ g9 ∧ fb ≠ g9 ∧ g8 ≠ g9) := Lib.hid (by have h1 := X5.out.r2.lt; have h2 := X5.out.r4.lt; have h3 := RH5.out.lt; have h4 := X5.out.b.size; have h5 := F5.out.lt; have h6 := O5.out.lt; omega)
    clear X5 RH5 O5 F5 hb6 hg9
    have N6' : Hid (Row (w5.alloc (.cells #[.pointer none] 100)) g9 100 [.pointer none]) := Lib.hid N6.out
    clear N6
    generalize w5.alloc (.cells #[.pointer none] 100) = w6 at *
    have HP0 := HT0.out.pos
    have C1 := Lib.hid (as_f15 ⟨fb, 0, none⟩ ⟨g9, 0, none⟩ (.pointer none) w6 (HT0.out.below X6.out.b HP0) (N6'.out.cell 0) (N6'.out.frozen 0))
    go_wp2_with fail
    refine C1.out.mono ?_
    rintro e w7 ⟨rfl, V7, hb7, hw7⟩
    have T7 := turned_setCell V7 ⟨g9, 0, none⟩ (.pointer (some ⟨fb, 0, none⟩))
    rw [← hw7] at T7
    have X7 := Lib.hid ((X6.out.below HB.out hb7).but HB.out (.of_turned T7) HG9.out.2.2.2.1 (Ne.symm HG9.out.1) (Ne.symm HG9.out.2.1))
    have RH7 := Lib.hid (T7.row (RH6.out.below hb7 RH6.out.lt) (Ne.symm HG9.out.2.2.1))
    have F7 := Lib.hid (T7.row (F6.out.below hb7 F6.out.lt) HG9.out.2.2.2.2.1)
    have O7 := Lib.hid (T7.row (O6.out.below hb7 O6.out.lt) HG9.out.2.2.2.2.2)
    have N7 : Hid (Row w7 g9 100 [.pointer (some ⟨fb, 0, none⟩)]) := Lib.hid (by rw [hw7]; exact (N6'.out.below hb7 N6'.out.lt).set_ 0 _)
    clear T7 hw7 hb7 C1 X6 RH6 F6 O6 N6'
    have C2 := Lib.hid (as_n15 ⟨fb, 0, none⟩ ⟨g8, 0, none⟩ G.1 (.int .i64 0) w7 (HT0.out.below X7.out.b HP0) (O7.out.cell 0) (O7.out.frozen 0) (F7.out.cell 1) rfl)
    go_wp2_with fail
    refine C2.out.mono ?_
    rintro e w8 ⟨rfl, V8, hb8, hw8⟩
    have T8 := turned_setCell V8 ⟨g8, 0, none⟩ (.int .i64 G.1)
    rw [← hw8] at T8
    have X8 := Lib.hid ((X7.out.below HB.out hb8).but HB.out (.of_turned T8) HG8.out.2.2.2.1 (Ne.symm HG8.out.1) (Ne.symm HG8.out.2.1))
    have RH8 := Lib.hid (T8.row (RH7.out.below hb8 RH7.out.lt) (Ne.symm HG8.out.2.2.1))
    have F8 := Lib.hid (T8.row (F7.out.below hb8 F7.out.lt) HG8.out.2.2.2.2)
    have N8 := Lib.hid (T8.row (N7.out.below hb8 N7.out.lt) (Ne.symm HG9.out.2.2.2.2.2))
    have O8 : Hid (Row w8 g8 54 ((LOut.mk G.1 (-1) G.2.2.units x.fee sp9 []).cells (.slice none 0 0))) := Lib.hid (by rw [hw8]; exact (O7.out.below hb8 O7.out.lt).set_ 0 _)
    clear T8 hw8 hb8 C2 X7 RH7 F7 O7 N7 HP0
    have n0 : w8.cell? ⟨g9, 0, none⟩ = some (.pointer (some ⟨fb, 0, none⟩)) := N8.out.cell 0
    have k0' : w8.cell? ⟨fb, 0, none⟩ = some (.int .i64 G.2.1) := F8.out.cell 0
    have o1 : w8.cell? ⟨g8, 1, none⟩ = some (.int .i64 (-1)) := O8.out.cell 1
    have o4 : w8.cell? ⟨g8, 4, none⟩ = some (.int .u64 sp9) := O8.out.cell 4
    have r1 : w8.cell? ⟨hw, 1, none⟩ = some va9 := RH8.out.cell 1
    have fo1 := O8.out.frozen 1
    have fo4 := O8.out.frozen 4
    have fr1 := RH8.out.frozen 1
    have hgh1 : ¬ g8 = hw := HG8.out.2.2.1
    have hgh2 : ¬ hw = g8 := Ne.symm HG8.out.2.2.1
    go_upto_region 9 with fail
    have T9 := ((But.of_turned (turned_setCell w8 ⟨g8, 1, none⟩ (.int .i64 G.2.1))).trans (.of_turned (turned_setCell _ ⟨g8, 4, none⟩ (.int .u64 0))))
    have Y9 := Lib.hid (X8.out.but HB.out T9 HG8.out.2.2.2.1 (Ne.symm HG8.out.1) (Ne.symm HG8.out.2.1))
    have X9 := Lib.hid (Y9.out.but HB.out (.of_turned (turned_setCell _ ⟨hw, 1, none⟩ (.slice LA ln lc))) HHG.out.1 HHG.out.2.1 HHG.out.2.2)
    have O9 : Hid (Row _ g8 54 ((LOut.mk G.1 G.2.1 G.2.2.units x.fee 0 []).cells (.slice none 0 0))) := Lib.hid (((O8.out.set_ 1 (.int .i64 G.2.1)).set_ 4 (.int .u64 0)).far (p := ⟨hw, 1, none⟩) HG8.out.2.2.1 (.slice LA ln lc))
    have RH9 := Lib.hid ((T9.row RH8.out (Ne.symm HG8.out.2.2.1)).set_ 1 (.slice LA ln lc))
    clear hgh1 hgh2 n0 k0' o1 o4 r1 fo1 fo4 fr1 T9 Y9 X8 RH8 F8 O8 N8
    generalize ((w8.setCell ⟨g8, 1, none⟩ (.int .i64 G.2.1)).setCell ⟨g8, 4, none⟩ (.int .u64 0)).setCell ⟨hw, 1, none⟩ (.slice LA ln lc) = w9 at *
    have c41 : w9.cell? ⟨g2, 41, none⟩ = some (.slice q.RA q.rn q.rc) := (X9.out.r2.cell 41).trans (ycells_41 H32.out 0)
    have h1 : w9.cell? ⟨hw, 1, none⟩ = some (.slice LA ln lc) := RH9.out.cell 1
    go_wp2_with fail
    refine (written15 q.RA q.rn q.rc B x.roles LA ln lc l w9 X9.out.rd.rs X9.out.ac HLC.out.1 HEQ.out (Nat.le_trans HB.out X9.out.b.size) hln).mono ?_
    rintro e wa ⟨A9, c9, rfl, ho9, hb9⟩
    have XA := Lib.hid (X9.out.below HB.out hb9)
    have OA := Lib.hid (O9.out.below hb9 O9.out.lt)
    have OW := Lib.hid (own_baseR ho9 X9.out.b.size)
    have OLT := Lib.hid (fun g hg => (ho9.lt g hg).1)
    have HL6 : Hid (g8 < w9.heap.size ∧ g4 < w9.heap.size) := Lib.hid ⟨O9.out.lt, X9.out.r4.lt⟩
    clear ho9 hb9 X9 O9 RH9 c41 h1
    obtain ⟨CH, hCH⟩ : ∃ C, C = chg15 x.roles l := ⟨_, rfl⟩
    have HCH := Lib.hid hCH
    rw [← hCH] at OW OLT ⊢
    clear hCH
    have c5 : wa.cell? ⟨g8, 5, none⟩ = some (.slice none 0 0) := OA.out.cell 5
    have f5 := OA.out.frozen 5
    go_upto_region 10 with fail
    have XB : Hid (Row (wa.setCell ⟨g8, 5, none⟩ (.slice A9 CH.length CH.length)) g4 54 (out0.cells (.slice none 0 0))) := Lib.hid (XA.out.r4.far (Ne.symm HG8.out.2.1) _)
    have OB : Hid (Row (wa.setCell ⟨g8, 5, none⟩ (.slice A9 CH.length CH.length)) g8 54 ((LOut.mk G.1 G.2.1 G.2.2.units x.fee 0 CH).cells (.slice A9 CH.length CH.length))) := Lib.hid (OA.out.set_ 5 _)
    have T9 := Lib.hid (turned_setCell wa ⟨g8, 5, none⟩ (.slice A9 CH.length CH.length))
    clear c5 f5 OA
    generalize wa.setCell ⟨g8, 5, none⟩ (.slice A9 CH.length CH.length) = wb at *
    go_wp2_with (first
        | ((with_reducible show wpList _ _ _ ({ dst := some 64, op := Op.load _ _, type := _, pos := _, after := _, guard := _ } :: _) _ _); go_must (refine wpList_load_whole rfl 54 (.tmp 8) rfl g8 _ ((LOut.mk G.1 G.2.1 G.2.2.units x.fee 0 CH).cells (.slice A9 CH.length CH.length)) _ Tryd.underlying54 rfl (size_out15 _ _) OB.out ?_ ?_; go_simp))
        | ((with_reducible show wpList _ _ _ ({ dst := none, op := Op.store 54 _ _, type := _, pos := _, after := _, guard := _ } :: _) _ _); go_must (refine wpList_store_whole rfl 54 (.tmp 4) (.tmp 64) rfl g4 (out0.cells (.slice none 0 0)) ((LOut.mk G.1 G.2.1 G.2.2.units x.fee 0 CH).cells (.slice A9 CH.length CH.length)) XB.out (size_out15 _ _) rfl (out_one15 _ rfl) ?_ ?_ ?_; go_simp; go_simp; intro wz hrz htz)))
    have RZ := Lib.hid hrz
    have TZ := Lib.hid htz
    clear hrz htz
    refine bodyPost_ret (results_cell1 (h := rfl) _ wz ⟨g4, 0, none⟩ _ _ (by rfl) (by rfl) (run_loadVar_row wz g4 54 54 ((LOut.mk G.1 G.2.1 G.2.2.units x.fee 0 CH).cells (.slice A9 CH.length CH.length)).toArray (0, 0) _ RZ.out.is Tryd.underlying54 rfl (by rw [List.size_toArray]; exact size_out15 _ _))) rfl ?_
    rw [HRUN.out]
    try rw [← HCH.out]
    refine ⟨A9, c9, rfl, ?_, (XA.out.b.trans (T9.out.below HG8.out.2.2.2.1)).trans (TZ.out.below HGL.out.2)⟩
    exact own_keep OW.out fun g hg => (TZ.out.block g (by have := OLT.out g hg; have := HL6.out; omega)).trans (T9.out.block g (by have := OLT.out g hg; have := HL6.out; show g ≠ g8; omega))

  · have HRW := Lib.hid hrw
    have HAV := Lib.hid hav
    have HEE9 := Lib.hid hee
    have HRUN := Lib.hid (HFI.out hee)
    clear hrw hav hee HFI HIL
    have hwb : hw < w4.heap.size := HRW.out.lt
    obtain ⟨LB, lb, rfl, hacb, hlb0, hlb1⟩ := HAV.out.form hwb
    have HLB : Hid (G.2.2.now.length = q.rn) := Lib.hid (by rw [HLG9.out HEE9.out, HEQ.out])
    have HWB := Lib.hid hwb
    have h2 : w4.cell? ⟨hw, 2, none⟩ = some (.int .u64 (x.u - G.2.2.units)) := HRW.out.cell 2
    have h3 : w4.cell? ⟨hw, 3, none⟩ = some (.int .u64 G.2.2.space) := HRW.out.cell 3
    have HAC := Lib.hid hacb
    clear hacb hwb
    go_upto_region 6 with (first
        | ((with_reducible show wpList _ _ _ ({ dst := some 40, op := Op.build _ _, type := _, pos := _, after := _, guard := _ } :: _) _ _); go_must (refine wpList_plain rfl fun K hK => wp_built _ _ _ rfl (by simp only [List.map_toArray, List.map_cons, List.map_nil]; exact built_o15 _ _ _) (hK _ _ ?_)))
        | ((with_reducible show wpList _ _ _ ({ dst := some 8, op := Op.alloc _, type := _, pos := _, after := _, guard := _ } :: _) _ _); go_must (refine wpList_alloc_zero rfl 54 rfl (out0.cells (.slice none 0 0)) zero_out15 ?_))
        | ((with_reducible show wpList _ _ _ ({ dst := none, op := Op.store 54 _ _, type := _, pos := _, after := _, guard := _ } :: _) _ _); go_must (refine wpList_store_new rfl 54 (.tmp 8) (.tmp 40) rfl ((LOut.mk 0 (-1) G.2.2.units x.fee G.2.2.space []).cells (.slice none 0 0)) (size_out15 _ _) (out_one15 _ rfl) rfl ?_ ?_ ?_; go_simp; go_simp; intro w5 hr5 hb5 hz5)))
    have X5 := Lib.hid (X4.out.below HB.out hb5)
    have RH5 := Lib.hid (HRW.out.below hb5 HWB.out)
    have O5 := Lib.hid hr5
    have AC5 := Lib.hid ((HAC.out.below hb5).more (Nat.le_of_lt (show w4.heap.size < w5.heap.size by rw [hz5]; exact Nat.lt_succ_self _)))
    obtain ⟨g8, hg8⟩ : ∃ g, g = w4.heap.size := ⟨_, rfl⟩
    rw [← hg8] at O5 ⊢
    have HG8 : Hid (g8 ≠ g2 ∧ g8 ≠ g4 ∧ g8 ≠ hw ∧ w.heap.size ≤ g8) := Lib.hid (by have h1 := X4.out.r2.lt; have h2 := X4.out.r4.lt; have h3 := HWB.out; have h4 := X4.out.b.size; omega)
    clear X4 HRW HAV HAC HB34 hr5 hb5 hz5 hg8 c42 c45 h2 h3 hwr hgu0 hgu1
    go_upto_region 7 with fail
    have hb6 := (Below.refl w5.heap.size w5).alloc (Nat.le_refl _) (.cells #[.pointer none] 100)
    have X6 := Lib.hid (X5.out.below HB.out hb6)
    have RH6 := Lib.hid (RH5.out.below hb6 RH5.out.lt)
    have O6 := Lib.hid (O5.out.below hb6 O5.out.lt)
    have AC6 := Lib.hid ((AC5.out.below hb6).more (hb6.size))
    clear X5 RH5 O5 AC5 hb6
    generalize w5.alloc (.cells #[.pointer none] 100) = w6 at *
    go_wp2_with fail
    refine (as_nil15 _ w6).mono ?_
    rintro e w7 ⟨rfl, rfl⟩
    have c41 : w7.cell? ⟨g2, 41, none⟩ = some (.slice q.RA q.rn q.rc) := (X6.out.r2.cell 41).trans (ycells_41 H32.out 0)
    have h1 : w7.cell? ⟨hw, 1, none⟩ = some (.slice LB G.2.2.now.length lb) := RH6.out.cell 1
    go_wp2_with fail
    refine (written15 q.RA q.rn q.rc w7.heap.size x.roles LB G.2.2.now.length lb G.2.2.now w7 (X6.out.rd.rs.more (Nat.le_trans HB.out X6.out.b.size)) AC6.out hlb0 HLB.out (Nat.le_refl _) (by rw [HLB.out]; exact HRN.out)).mono ?_
    rintro e w8 ⟨A9, c9, rfl, ho9, hb9⟩
    have X8 := Lib.hid (X6.out.below HB.out hb9)
    have O8 := Lib.hid (O6.out.below hb9 O6.out.lt)
    have OW := Lib.hid (own_baseR ho9 X6.out.b.size)
    have OLT := Lib.hid (fun g hg => (ho9.lt g hg).1)
    have HL6 : Hid (g8 < w7.heap.size ∧ g4 < w7.heap.size) := Lib.hid ⟨O6.out.lt, X6.out.r4.lt⟩
    clear ho9 hb9 X6 O6 AC6 RH6 c41 h1
    obtain ⟨CH, hCH⟩ : ∃ C, C = chg15 x.roles G.2.2.now := ⟨_, rfl⟩
    have HCH := Lib.hid hCH
    rw [← hCH] at OW OLT ⊢
    clear hCH
    have c5 : w8.cell? ⟨g8, 5, none⟩ = some (.slice none 0 0) := O8.out.cell 5
    have f5 := O8.out.frozen 5
    go_upto_region 10 with fail
    have X9 : Hid (Row (w8.setCell ⟨g8, 5, none⟩ (.slice A9 CH.length CH.length)) g4 54 (out0.cells (.slice none 0 0))) := Lib.hid (X8.out.r4.far (Ne.symm HG8.out.2.1) _)
    have O9 : Hid (Row (w8.setCell ⟨g8, 5, none⟩ (.slice A9 CH.length CH.length)) g8 54 ((LOut.mk 0 (-1) G.2.2.units x.fee G.2.2.space CH).cells (.slice A9 CH.length CH.length))) := Lib.hid (O8.out.set_ 5 _)
    have T9 := Lib.hid (turned_setCell w8 ⟨g8, 5, none⟩ (.slice A9 CH.length CH.length))
    clear c5 f5 O8
    generalize w8.setCell ⟨g8, 5, none⟩ (.slice A9 CH.length CH.length) = w9 at *
    go_wp2_with (first
        | ((with_reducible show wpList _ _ _ ({ dst := some 64, op := Op.load _ _, type := _, pos := _, after := _, guard := _ } :: _) _ _); go_must (refine wpList_load_whole rfl 54 (.tmp 8) rfl g8 _ ((LOut.mk 0 (-1) G.2.2.units x.fee G.2.2.space CH).cells (.slice A9 CH.length CH.length)) _ Tryd.underlying54 rfl (size_out15 _ _) O9.out ?_ ?_; go_simp))
        | ((with_reducible show wpList _ _ _ ({ dst := none, op := Op.store 54 _ _, type := _, pos := _, after := _, guard := _ } :: _) _ _); go_must (refine wpList_store_whole rfl 54 (.tmp 4) (.tmp 64) rfl g4 (out0.cells (.slice none 0 0)) ((LOut.mk 0 (-1) G.2.2.units x.fee G.2.2.space CH).cells (.slice A9 CH.length CH.length)) X9.out (size_out15 _ _) rfl (out_one15 _ rfl) ?_ ?_ ?_; go_simp; go_simp; intro wz hrz htz)))
    have RZ := Lib.hid hrz
    have TZ := Lib.hid htz
    clear hrz htz
    refine bodyPost_ret (results_cell1 (h := rfl) _ wz ⟨g4, 0, none⟩ _ _ (by rfl) (by rfl) (run_loadVar_row wz g4 54 54 ((LOut.mk 0 (-1) G.2.2.units x.fee G.2.2.space CH).cells (.slice A9 CH.length CH.length)).toArray (0, 0) _ RZ.out.is Tryd.underlying54 rfl (by rw [List.size_toArray]; exact size_out15 _ _))) rfl ?_
    rw [HRUN.out]
    try rw [← HCH.out]
    refine ⟨A9, c9, rfl, ?_, (X8.out.b.trans (T9.out.below HG8.out.2.2.2)).trans (TZ.out.below HGL.out.2)⟩
    exact own_keep OW.out fun g hg => (TZ.out.block g (by have := OLT.out g hg; have := HL6.out; omega)).trans (T9.out.block g (by have := OLT.out g hg; have := HL6.out; show g ≠ g8; omega))
theorem runC (q : YRaw) (x : LReady) (B : Nat) (LA : Option Addr) (ln lc : Nat) (l : List LAcc) (w : World) (h : ReadyIn w B q x) (hl : AccsIn w B LA ln l) (hlc : ln ≤ lc ∧ lc ≤ maxLen) (hB : B ≤ w.heap.size) (hln : ln ≤ 100000) (hpb : ∀ a ∈ x.tx.m.ins, IsByte a.p) (hab : ∀ a ∈ x.tx.m.ins, AllBytes a.acc ∧ AllBytes a.dat) (hu : 0 ≤ x.u ∧ x.u < 18446744073709551616) (hsm : q.t.q.n ≤ 65535 ∧ ∀ a ∈ x.tx.m.ins, a.acc.length ≤ 65535) (htw : TypAt w) :
    Calls Tryd.prog 13 #[.agg (q.cells x).toArray, .slice LA ln lc] w (RunDoneC w (run15 x l)) := by
  by_cases heq : ln = q.rn
  rotate_left
  · exact run_argC q x B LA ln lc l w h hl hlc hB hln hpb hab hu hsm htw heq
  by_cases hs : x.tx.m.ins.any (stg15 q.rn) = true
  · exact run_strC q x B LA ln lc l w h hl hlc hB hln hpb hab hu hsm htw heq hs
  · exact run_goC q x B LA ln lc l w h hl hlc hB hln hpb hab hu hsm htw heq hs
end Go.Proofs.YtfaefpniiiandaaDoor

/-
  Of part Move15: what is needed here.
-/
namespace Go.Proofs.YtfaefpniiiandaaDoor
open Go.RowKit
set_option linter.unusedVariables false
set_option maxRecDepth 100000
def kx15 (n : Int) : List Int := n :: List.replicate 31 0
def dat15x : List Int := [2, 0, 0, 0, 200, 0, 0, 0, 0, 0, 0, 0]
def in15x : LIn := ⟨2, [0, 1], dat15x⟩
def ro15x : List LRole := [⟨kx15 8, true, true⟩, ⟨kx15 9, false, true⟩, ⟨k0, false, false⟩]
def ms15x : LMsg := ⟨false, 0, 0, 0, [], zero32, [in15x], []⟩
def rd15x : LReady := ⟨[], ⟨[], ms15x⟩, ro15x, 400000, 0, -1, 5000, 0, 0⟩
def q15x (gi gr : Nat) : YRaw := ⟨none, 0, 0, ⟨none, 0, 0, ⟨none, 0, 0, some ⟨gi, 0, none⟩, 1, 1, none, 0, 0⟩⟩, some ⟨gr, 0, none⟩, 3, 3⟩
theorem kx_ok15 {n : Int} (h : 0 ≤ n ∧ n < 256) : (kx15 n).length = 32 ∧ AllBytes (kx15 n) := by
  refine ⟨by simp [kx15], fun z hz => ?_⟩
  rcases List.mem_cons.1 hz with rfl | hz
  · exact h
  · rw [List.eq_of_mem_replicate hz]; exact ⟨by decide, by decide⟩
theorem dat_ok15x : AllBytes dat15x := by
  have h : ∀ z ∈ dat15x, 0 ≤ z ∧ z < 256 := by decide
  exact h
theorem acc_ok15x : AllBytes [0, 1] := by
  have h : ∀ z ∈ ([0, 1] : List Int), 0 ≤ z ∧ z < 256 := by decide
  exact h
def ic15x (ga gd : Nat) : List Value := insC 2 (some ⟨ga, 0, none⟩) 2 2 (some ⟨gd, 0, none⟩) 12 12
theorem built_kx8 : Tryd.prog.built 57 [(0, .int .u8 8)] = some (bv (kx15 8)).toArray := by kernel_rfl
theorem built_kx9 : Tryd.prog.built 57 [(0, .int .u8 9)] = some (bv (kx15 9)).toArray := by kernel_rfl
theorem built_in15x (ga gd : Nat) : Tryd.prog.built 70 [(0, .int .u8 2), (1, .slice (some ⟨ga, 0, none⟩) 2 2), (2, .slice (some ⟨gd, 0, none⟩) 12 12)] = some (ic15x ga gd).toArray := by kernel_rfl
theorem built_ms15x (gi : Nat) : Tryd.prog.built 33 [(4, .slice (some ⟨gi, 0, none⟩) 1 1)] = some ((q15x gi 0).t.q.cells ms15x).toArray := by kernel_rfl
theorem built_tx15x (gi : Nat) : Tryd.prog.built 35 [(1, .agg ((q15x gi 0).t.q.cells ms15x).toArray)] = some ((q15x gi 0).t.cells ⟨[], ms15x⟩).toArray := by kernel_rfl
theorem built_ro1 : Tryd.prog.built 62 [(0, .agg (bv (kx15 8)).toArray), (1, .bool true), (2, .bool true)] = some (LRole.mk (kx15 8) true true).cells.toArray := by kernel_rfl
theorem built_ro2 : Tryd.prog.built 62 [(0, .agg (bv (kx15 9)).toArray), (2, .bool true)] = some (LRole.mk (kx15 9) false true).cells.toArray := by kernel_rfl
theorem built_ro3 : Tryd.prog.built 62 [(0, .agg (bv k0).toArray)] = some (LRole.mk k0 false false).cells.toArray := by kernel_rfl
theorem built_bu15x : Tryd.prog.built 39 [(0, .int .u64 400000), (2, .int .i64 (-1))] = some ([.int .u64 400000, .int .u64 0, .int .i64 (-1)] : List Value).toArray := by kernel_rfl
theorem built_rd15x (gi gr : Nat) : Tryd.prog.built 41 [(1, .agg ((q15x gi 0).t.cells ⟨[], ms15x⟩).toArray), (2, .slice (some ⟨gr, 0, none⟩) 3 3), (3, .agg ([.int .u64 400000, .int .u64 0, .int .i64 (-1)] : List Value).toArray), (4, .int .u64 5000)] = some ((q15x gi gr).cells rd15x).toArray := by kernel_rfl
def zrdC : List Value := zYRaw.cells zReady
theorem zero_rdx : (Tryd.prog.info? 41).map (·.zero) = some (some (.agg zrdC.toArray)) := by kernel_rfl
theorem size_rdx (gi gr : Nat) : (Tryd.prog.info? 41).map (·.size) = some ((q15x gi gr).cells rd15x).length := by kernel_rfl
theorem one_rdx (gi gr : Nat) : ∀ u ∈ (q15x gi gr).cells rd15x, u.oneCell' = true := by
  intro u hu
  unfold YRaw.cells at hu
  rcases List.mem_cons.1 hu with rfl | hu
  · rfl
  rcases List.mem_append.1 hu with hu | hu
  · exact tcells_one u hu
  rcases List.mem_cons.1 hu with rfl | hu
  · rfl
  · simp only [LReady.last, List.mem_cons, List.not_mem_nil, or_false] at hu
    rcases hu with rfl | rfl | rfl | rfl | rfl | rfl <;> rfl
theorem zero_insx : (Tryd.prog.info? 70).map (·.zero) = some (some (.agg (insC 0 none 0 0 none 0 0).toArray)) := by kernel_rfl
def roC15x : List Value := (LRole.mk (kx15 8) true true).cells ++ ((LRole.mk (kx15 9) false true).cells ++ (LRole.mk k0 false false).cells)
theorem ro_ok15x : ∀ r ∈ ro15x, RoleOk r := by
  intro r hr
  simp only [ro15x, List.mem_cons, List.not_mem_nil, or_false] at hr
  rcases hr with rfl | rfl | rfl
  · exact kx_ok15 (by omega)
  · exact kx_ok15 (by omega)
  · exact ⟨rfl, fun z hz => by rw [List.eq_of_mem_replicate (show z ∈ List.replicate 32 0 from hz)]; exact ⟨by decide, by decide⟩⟩
theorem info_insx : (Tryd.prog.info? 70).map (fun i => (i.zero, i.size, i.bytes)) = some (some (.agg (insC 0 none 0 0 none 0 0).toArray), 3, 56) := by kernel_rfl
theorem zsz_insx : (Value.agg (insC 0 none 0 0 none 0 0).toArray).cells.size = 3 := by kernel_rfl
theorem zszRx : (Value.agg r0.cells.toArray).cells.size = 34 := by kernel_rfl
theorem wp_buildThree15 {P : Program} {o : Oper} {a : Act} {w : World} {K : Act → World → Prop} {Q : Exit → Act → World → Prop} (t e : TypeId) (y y' y2 : Operand) (ho : o.op = .buildSlice t 3 #[(0, y), (1, y'), (2, y2)])
    (cs cs' cs2 : List Value) (z : Value) (size bytes : Nat) (hu : P.underlying t = some (.slice e)) (hi : (P.info? e).map (fun i => (i.zero, i.size, i.bytes)) = some (some z, size, bytes)) (hzs : z.cells.size = size) (hs0 : 0 < size) (hs1 : size ≤ 1000)
    (hcs : cs.length = size) (hcs' : cs'.length = size) (hcs2 : cs2.length = size) (hy : a.eval y = .agg cs.toArray) (hy' : a.eval y' = .agg cs'.toArray) (hy2 : a.eval y2 = .agg cs2.toArray)
    (h : K (a.put o.dst (.slice (some ⟨w.heap.size, 0, none⟩) 3 3)) (w.alloc (.cells (cs ++ (cs' ++ cs2)).toArray e))) : o.wp P a w K Q := by
  obtain ⟨ie, hie, h1, h2, _⟩ := info_parts hi
  subst h2
  refine wp_buildSlice t e 3 _ ho (cs ++ (cs' ++ cs2)).toArray ie z hu hie h1 (by omega) (by omega) ?_ h
  have := Go.Great.fill_whole (s := ie.size) hs0 [Value.agg cs.toArray, Value.agg cs'.toArray, Value.agg cs2.toArray] ((Array.range (3 * ie.size)).map (z.cells[· % z.cells.size]!)) (by simp [Value.cells, hcs, hcs', hcs2]) (by simp)
  simpa [hy, hy', hy2, Value.cells] using this
/-- what move answers -/
def MvDone15 (w : World) (e : Ending) (w' : World) : Prop := ∃ gi gr, e = .returned (.agg ((q15x gi gr).cells rd15x).toArray) ∧ ReadyIn w' w'.heap.size (q15x gi gr) rd15x ∧ Below w.heap.size w w'
theorem mv_in15 {V : World} {gi gr ga gd : Nat} (hi : Row V gi 70 (ic15x ga gd)) (hr : Row V gr 62 roC15x) (ha : Row V ga 5 (bv [0, 1])) (hd : Row V gd 5 (bv dat15x)) : ReadyIn V V.heap.size (q15x gi gr) rd15x := by
  refine ⟨Sees.nil _ _ _, by simp [q15x, maxLen], ⟨⟨rfl, fun k hk => (by cases hk), Sees.nil _ _ _⟩, by simp [q15x, maxLen], ?_⟩, ?_, by simp [q15x, maxLen]⟩
  · refine ⟨rfl, ⟨rfl, fun k hk => (by cases hk), Sees.nil _ _ _⟩, ⟨rfl, fun i y hy => ?_⟩, ⟨rfl, fun i y hy => (by cases hy)⟩, by simp [q15x, maxLen], by simp [q15x, maxLen], by simp [q15x, maxLen]⟩
    have hi0 : i = 0 := by
      have := (List.getElem?_eq_some_iff.1 hy).1
      simp [rd15x, ms15x] at this
      exact this
    subst hi0
    obtain rfl : in15x = y := by simpa [rd15x, ms15x] using hy
    refine ⟨⟨gi, 0, none⟩, .slice (some ⟨ga, 0, none⟩) 2 2, .slice (some ⟨gd, 0, none⟩) 12 12, rfl, hi.lt, ?_, ?_, ?_, ?_, ?_⟩
    · exact hi.cell 0
    · exact hi.cell 1
    · exact hi.cell 2
    · exact ⟨_, 2, rfl, ha.sees0, Nat.le_refl _, by unfold maxLen; omega⟩
    · exact ⟨_, 12, rfl, hd.sees0, Nat.le_refl _, by unfold maxLen; omega⟩
  · have e : (List.map LRole.cells ro15x).flatten = roC15x := by simp [ro15x, roC15x]
    exact roles_row (l := ro15x) (ys := []) (by rw [List.append_nil, e]; exact hr) rfl ro_ok15x hr.lt
/-- what is there while it is made -/
structure MX15 (w V : World) (g3 g4 g6 g7 ga gd : Nat) : Prop where
  b : Below w.heap.size w V
  r3 : Row V g3 57 (bv (kx15 8))
  r4 : Row V g4 57 (bv (kx15 9))
  r6 : Row V g6 41 zrdC
  r7 : Row V g7 70 (ic15x ga gd)
  ra : Row V ga 5 (bv [0, 1])
  rd : Row V gd 5 (bv dat15x)
theorem MX15.below {w V V' : World} {g3 g4 g6 g7 ga gd : Nat} (m : MX15 w V g3 g4 g6 g7 ga gd) (hb : Below V.heap.size V V') : MX15 w V' g3 g4 g6 g7 ga gd :=
  ⟨m.b.trans (hb.mono m.b.size), m.r3.below hb m.r3.lt, m.r4.below hb m.r4.lt, m.r6.below hb m.r6.lt, m.r7.below hb m.r7.lt, m.ra.below hb m.ra.lt, m.rd.below hb m.rd.lt⟩
set_option maxHeartbeats 8000000 in
theorem move15 (w : World) : Calls Tryd.prog 29 #[.agg (bv (kx15 8)).toArray, .agg (bv (kx15 9)).toArray, .int .u8 200] w (MvDone15 w) := by
  have hb0 := (((Below.refl w.heap.size w).alloc (Nat.le_refl _) (.cells (bv (kx15 8)).toArray 57)).alloc (by simp) (.cells (bv (kx15 9)).toArray 57)).alloc (by simp; omega) (.cells zrdC.toArray 41)
  have r3 := ((Row.new w 57 (bv (kx15 8))).alloc (.cells (bv (kx15 9)).toArray 57)).alloc (.cells zrdC.toArray 41)
  have r4 := (Row.new' (w.alloc (.cells (bv (kx15 8)).toArray 57)) 57 (bv (kx15 9)) (g := w.heap.size + 1) (by simp)).alloc (.cells zrdC.toArray 41)
  have r6 := Row.new' ((w.alloc (.cells (bv (kx15 8)).toArray 57)).alloc (.cells (bv (kx15 9)).toArray 57)) 41 zrdC (g := w.heap.size + 1 + 1) (by simp)
  have R3 := Lib.hid r3
  have R4 := Lib.hid r4
  have R6 := Lib.hid r6
  have B0 := Lib.hid hb0
  clear r3 r4 r6 hb0
  obtain ⟨g6, hg6⟩ : ∃ g, g = w.heap.size + 1 + 1 := ⟨_, rfl⟩
  obtain ⟨g4, hg4⟩ : ∃ g, g = w.heap.size + 1 := ⟨_, rfl⟩
  obtain ⟨g3, hg3⟩ : ∃ g, g = w.heap.size := ⟨_, rfl⟩
  have HG6 : Hid (w.heap.size + 1 + 1 = g6) := Lib.hid hg6.symm
  have HG4 : Hid (w.heap.size + 1 = g4) := Lib.hid hg4.symm
  have HG3 : Hid (w.heap.size = g3) := Lib.hid hg3.symm
  have HG6a : Hid (((w.alloc (.cells (bv (kx15 8)).toArray 57)).alloc (.cells (bv (kx15 9)).toArray 57)).heap.size = g6) := Lib.hid (by rw [hg6]; simp)
  have HG4a : Hid ((w.alloc (.cells (bv (kx15 8)).toArray 57)).heap.size = g4) := Lib.hid (by rw [hg4]; simp)
  have HGN : Hid (w.heap.size ≤ g6 ∧ g3 ≠ g6 ∧ g4 ≠ g6) := Lib.hid (by omega)
  rw [← hg6] at R6
  rw [← hg4] at R4
  rw [← hg3] at R3
  clear hg6 hg4 hg3
  go_enter Tryd.func29, Tryd.ntmps29
  go_upto_region 1 with ((with_reducible show wpList _ _ _ ({ dst := some 6, op := Op.alloc _, type := _, pos := _, after := _, guard := _ } :: _) _ _); go_must (refine wpList_alloc_zero rfl 41 rfl zrdC zero_rdx ?_))
  try rw [HG6a.out]
  try rw [HG6.out]
  try rw [HG4a.out]
  try rw [HG4.out]
  try rw [HG3.out]
  generalize hW : ((w.alloc (.cells (bv (kx15 8)).toArray 57)).alloc (.cells (bv (kx15 9)).toArray 57)).alloc (.cells zrdC.toArray 41) = W at *
  clear hW HG6 HG4 HG3 HG6a HG4a
  have ra := (Row.new W 5 (bv [0, 1])).alloc (.cells (bv dat15x).toArray 5)
  have rd := Row.new' (W.alloc (.cells (bv [0, 1]).toArray 5)) 5 (bv dat15x) (g := W.heap.size + 1) (by simp)
  have hb1 := ((Below.refl W.heap.size W).alloc (Nat.le_refl _) (.cells (bv [0, 1]).toArray 5)).alloc (by simp) (.cells (bv dat15x).toArray 5)
  have RA := Lib.hid ra
  have RD := Lib.hid rd
  have B1 := Lib.hid hb1
  clear ra rd hb1
  obtain ⟨gd, hgd⟩ : ∃ g, g = W.heap.size + 1 := ⟨_, rfl⟩
  obtain ⟨ga, hga⟩ : ∃ g, g = W.heap.size := ⟨_, rfl⟩
  have HGD : Hid (W.heap.size + 1 = gd) := Lib.hid hgd.symm
  have HGA : Hid (W.heap.size = ga) := Lib.hid hga.symm
  have HAD : Hid (g6 < ga ∧ g6 < gd) := Lib.hid (by have := R6.out.lt; omega)
  rw [← hgd] at RD
  rw [← hga] at RA
  clear hgd hga
  go_upto_region 2 with (first
    | ((with_reducible show wpList _ _ _ ({ dst := some 11, op := Op.build _ _, type := _, pos := _, after := _, guard := _ } :: _) _ _); go_must (refine wpList_plain rfl fun K hK => wp_built _ _ _ rfl (by simp only [List.map_toArray, List.map_cons, List.map_nil]; rw [HGD.out, HGA.out]; exact built_in15x ga gd) (hK _ _ ?_)))
    | ((with_reducible show wpList _ _ _ ({ dst := some 7, op := Op.alloc _, type := _, pos := _, after := _, guard := _ } :: _) _ _); go_must (refine wpList_alloc_zero rfl 70 rfl (insC 0 none 0 0 none 0 0) zero_insx ?_))
    | ((with_reducible show wpList _ _ _ ({ dst := none, op := Op.store 70 _ _, type := _, pos := _, after := _, guard := _ } :: _) _ _); go_must (refine wpList_store_new rfl 70 (.tmp 7) (.tmp 11) rfl (ic15x ga gd) (by kernel_rfl) ins_one15 rfl ?_ ?_ ?_; go_simp; go_simp; intro w7 hr7 hb7 hz7)))
  try rw [HGD.out]
  try rw [HGA.out]
  obtain ⟨g7, hg7⟩ : ∃ g, g = W.heap.size + 1 + 1 := ⟨_, rfl⟩
  have HS7 : Hid (W.heap.size < g7) := Lib.hid (by omega)
  rw [World.size_alloc, World.size_alloc] at hr7
  have hr7' : Row w7 g7 70 (ic15x ga gd) := by rw [hg7]; exact hr7
  try simp only [World.size_alloc]
  rw [← hg7]
  clear hg7
  try simp only [Act.put, List.setIfInBounds_toArray, List.set_cons_zero, List.set_cons_succ]
  have hb7' : Below ((W.alloc (.cells (bv [0, 1]).toArray 5)).alloc (.cells (bv dat15x).toArray 5)).heap.size ((W.alloc (.cells (bv [0, 1]).toArray 5)).alloc (.cells (bv dat15x).toArray 5)) w7 := hb7
  have M := Lib.hid (show MX15 w w7 g3 g4 g6 g7 ga gd from ⟨(B0.out.trans (B1.out.mono B0.out.size)).trans (hb7'.mono (Nat.le_trans B0.out.size B1.out.size)), (R3.out.below B1.out R3.out.lt).below hb7' (Nat.lt_of_lt_of_le R3.out.lt B1.out.size), (R4.out.below B1.out R4.out.lt).below hb7' (Nat.lt_of_lt_of_le R4.out.lt B1.out.size), (R6.out.below B1.out R6.out.lt).below hb7' (Nat.lt_of_lt_of_le R6.out.lt B1.out.size), hr7', RA.out.below hb7' RA.out.lt, RD.out.below hb7' RD.out.lt⟩)
  have H76 : Hid (g6 < g7) := Lib.hid (by have := R6.out.lt; have := HS7.out; omega)
  have MD : Hid (MX15 w w7.drew g3 g4 g6 g7 ga gd) := Lib.hid (M.out.below ⟨rfl, rfl, rfl, Nat.le_refl _, fun _ _ => rfl⟩)
  refine wp_region_held_drew (S := fun V => Row V g3 57 (bv (kx15 8)) ∧ Row V g4 57 (bv (kx15 9)) ∧ Row V g7 70 (ic15x ga gd)) (by kernel_rfl) ⟨MD.out.r3, MD.out.r4, MD.out.r7⟩ (fun _ => ?_)
  try dsimp only [List.append]
  clear M R3 R4 R6 RA RD B0 B1 HGD HGA hr7 hr7' hb7 hb7' hz7
  generalize w7.drew = wd at *
  refine takeL (i := 0) (v := .agg (ic15x ga gd).toArray) rfl (by kernel_rfl) (by kernel_rfl) (by kernel_rfl) (fun _ _ _ h => h) (Or.inl ⟨by rfl, fun wz hwz => exec_load_at wz 70 (.tmp 7) rfl ⟨g7, 0, none⟩ (ic15x ga gd) _ Tryd.underlying70 rfl (by kernel_rfl) (fun j u hu => by rw [addr_row, Nat.zero_add, hwz.2.2.cell]; exact hu) (by go_simp)⟩) ⟨MD.out.r3, MD.out.r4, MD.out.r7⟩ ?_
  try simp only [Act.put, List.setIfInBounds_toArray, List.set_cons_zero, List.set_cons_succ]
  refine takeL (i := 4) (v := .agg (bv (kx15 8)).toArray) rfl (by kernel_rfl) (by kernel_rfl) (by kernel_rfl) (fun _ _ _ h => h) (Or.inl ⟨by rfl, fun wz hwz => exec_load_at wz 57 (.tmp 3) rfl ⟨g3, 0, none⟩ (bv (kx15 8)) _ Tryd.underlying57 rfl (by kernel_rfl) (fun j u hu => by rw [addr_row, Nat.zero_add, hwz.1.cell]; exact hu) (by go_simp)⟩) ⟨MD.out.r3, MD.out.r4, MD.out.r7⟩ ?_
  try simp only [Act.put, List.setIfInBounds_toArray, List.set_cons_zero, List.set_cons_succ]
  refine takeL (i := 5) (v := .agg (LRole.mk (kx15 8) true true).cells.toArray) rfl (by kernel_rfl) (by kernel_rfl) (by kernel_rfl) (fun _ _ _ h => h) (Or.inl ⟨by rfl, fun wz hwz => exec_built wz _ _ _ rfl (by simp only [List.map_toArray, List.map_cons, List.map_nil]; exact built_ro1)⟩) ⟨MD.out.r3, MD.out.r4, MD.out.r7⟩ ?_
  try simp only [Act.put, List.setIfInBounds_toArray, List.set_cons_zero, List.set_cons_succ]
  refine takeL (i := 6) (v := .agg (bv (kx15 9)).toArray) rfl (by kernel_rfl) (by kernel_rfl) (by kernel_rfl) (fun _ _ _ h => h) (Or.inl ⟨by rfl, fun wz hwz => exec_load_at wz 57 (.tmp 4) rfl ⟨g4, 0, none⟩ (bv (kx15 9)) _ Tryd.underlying57 rfl (by kernel_rfl) (fun j u hu => by rw [addr_row, Nat.zero_add, hwz.2.1.cell]; exact hu) (by go_simp)⟩) ⟨MD.out.r3, MD.out.r4, MD.out.r7⟩ ?_
  try simp only [Act.put, List.setIfInBounds_toArray, List.set_cons_zero, List.set_cons_succ]
  refine takeL (i := 7) (v := .agg (LRole.mk (kx15 9) false true).cells.toArray) rfl (by kernel_rfl) (by kernel_rfl) (by kernel_rfl) (fun _ _ _ h => h) (Or.inl ⟨by rfl, fun wz hwz => exec_built wz _ _ _ rfl (by simp only [List.map_toArray, List.map_cons, List.map_nil]; exact built_ro2)⟩) ⟨MD.out.r3, MD.out.r4, MD.out.r7⟩ ?_
  try simp only [Act.put, List.setIfInBounds_toArray, List.set_cons_zero, List.set_cons_succ]
  refine takeL (i := 11) (v := .agg ([.int .u64 400000, .int .u64 0, .int .i64 (-1)] : List Value).toArray) rfl (by kernel_rfl) (by kernel_rfl) (by kernel_rfl) (fun _ _ _ h => h) (Or.inl ⟨by rfl, fun wz hwz => exec_built wz _ _ _ rfl (by simp only [List.map_toArray, List.map_cons, List.map_nil]; exact built_bu15x)⟩) ⟨MD.out.r3, MD.out.r4, MD.out.r7⟩ ?_
  try simp only [Act.put, List.setIfInBounds_toArray, List.set_cons_zero, List.set_cons_succ]
  refine readyL2 (i := 1) (j := 8) rfl rfl (by kernel_rfl) (by kernel_rfl) (by kernel_rfl) (fun K hK => ?_) (fun K hK => ?_)
  · refine wp_buildOne 30 70 (.tmp 12) rfl (ic15x ga gd) _ 3 56 Tryd.underlying30 info_insx zsz_insx (by omega) (by omega) rfl (by go_simp) ?_
    have hb1 := (Below.refl wd.heap.size wd).alloc (Nat.le_refl _) (.cells (ic15x ga gd).toArray 70)
    have RI1 := Lib.hid (Row.new wd 70 (ic15x ga gd))
    obtain ⟨gi1, hgi1⟩ : ∃ g, g = wd.heap.size := ⟨_, rfl⟩
    have HI1 : Hid (g6 < gi1) := Lib.hid (by rw [hgi1]; exact MD.out.r6.lt)
    rw [← hgi1] at RI1 ⊢
    clear hgi1
    have M1 := Lib.hid (MD.out.below hb1)
    clear hb1
    generalize wd.alloc (.cells (ic15x ga gd).toArray 70) = y1 at *
    refine hK.out _ _ ⟨M1.out.r3, M1.out.r4, M1.out.r7⟩ ?_
    clear hK K
    try simp only [Act.put, List.setIfInBounds_toArray, List.set_cons_zero, List.set_cons_succ]
    refine takeL (i := 2) (v := .agg ((q15x gi1 0).t.q.cells ms15x).toArray) rfl (by kernel_rfl) (by kernel_rfl) (by kernel_rfl) (fun _ _ _ h => h) (Or.inl ⟨by rfl, fun wz hwz => exec_built wz _ _ _ rfl (by simp only [List.map_toArray, List.map_cons, List.map_nil]; exact built_ms15x _)⟩) ⟨M1.out.r3, M1.out.r4, M1.out.r7⟩ ?_
    try simp only [Act.put, List.setIfInBounds_toArray, List.set_cons_zero, List.set_cons_succ]
    refine takeL (i := 3) (v := .agg ((q15x gi1 0).t.cells ⟨[], ms15x⟩).toArray) rfl (by kernel_rfl) (by kernel_rfl) (by kernel_rfl) (fun _ _ _ h => h) (Or.inl ⟨by rfl, fun wz hwz => exec_built wz _ _ _ rfl (by simp only [List.map_toArray, List.map_cons, List.map_nil]; exact built_tx15x _)⟩) ⟨M1.out.r3, M1.out.r4, M1.out.r7⟩ ?_
    try simp only [Act.put, List.setIfInBounds_toArray, List.set_cons_zero, List.set_cons_succ]
    refine readyL (i := 8) rfl (by kernel_rfl) (by kernel_rfl) fun K hK => ?_
    go_simp
    refine (system_ _).mono ?_
    rintro e y2 ⟨rfl, hb2⟩
    have M2 := Lib.hid (M1.out.below hb2)
    have RI2 := Lib.hid (RI1.out.below hb2 RI1.out.lt)
    clear hb2
    refine hK.out _ _ ⟨M2.out.r3, M2.out.r4, M2.out.r7⟩ ?_
    clear hK K
    try simp only [Act.put, List.setIfInBounds_toArray, List.set_cons_zero, List.set_cons_succ]
    refine takeL (i := 9) (v := .agg (LRole.mk k0 false false).cells.toArray) rfl (by kernel_rfl) (by kernel_rfl) (by kernel_rfl) (fun _ _ _ h => h) (Or.inl ⟨by rfl, fun wz hwz => exec_built wz _ _ _ rfl (by simp only [List.map_toArray, List.map_cons, List.map_nil]; exact built_ro3)⟩) ⟨M2.out.r3, M2.out.r4, M2.out.r7⟩ ?_
    try simp only [Act.put, List.setIfInBounds_toArray, List.set_cons_zero, List.set_cons_succ]
    refine readyL (i := 10) rfl (by kernel_rfl) (by kernel_rfl) fun K hK => ?_
    refine wp_buildThree15 36 62 (.tmp 17) (.tmp 19) (.tmp 21) rfl (LRole.mk (kx15 8) true true).cells (LRole.mk (kx15 9) false true).cells (LRole.mk k0 false false).cells _ 34 34 Tryd.underlying36 infoR zszRx (by omega) (by omega) rfl rfl rfl (by go_simp) (by go_simp) (by go_simp) ?_
    have hb3 := (Below.refl y2.heap.size y2).alloc (Nat.le_refl _) (.cells roC15x.toArray 62)
    have RR3 := Lib.hid (Row.new y2 62 roC15x)
    obtain ⟨gr3, hgr3⟩ : ∃ g, g = y2.heap.size := ⟨_, rfl⟩
    have HR3 : Hid (g6 < gr3) := Lib.hid (by rw [hgr3]; exact M2.out.r6.lt)
    rw [← hgr3] at RR3 ⊢
    clear hgr3
    have M3 := Lib.hid (M2.out.below hb3)
    have RI3 := Lib.hid (RI2.out.below hb3 RI2.out.lt)
    clear hb3
    rw [show (LRole.mk (kx15 8) true true).cells ++ ((LRole.mk (kx15 9) false true).cells ++ (LRole.mk k0 false false).cells) = roC15x from rfl]
    generalize y2.alloc (.cells roC15x.toArray 62) = y3 at *
    refine hK.out _ _ ⟨M3.out.r3, M3.out.r4, M3.out.r7⟩ ?_
    clear hK K
    try simp only [Act.put, List.setIfInBounds_toArray, List.set_cons_zero, List.set_cons_succ]
    refine takeL (i := 12) (v := .agg ((q15x gi1 gr3).cells rd15x).toArray) rfl (by kernel_rfl) (by kernel_rfl) (by kernel_rfl) (fun _ _ _ h => h) (Or.inl ⟨by rfl, fun wz hwz => exec_built wz _ _ _ rfl (by simp only [List.map_toArray, List.map_cons, List.map_nil]; exact built_rd15x _ _)⟩) ⟨M3.out.r3, M3.out.r4, M3.out.r7⟩ ?_
    try simp only [Act.put, List.setIfInBounds_toArray, List.set_cons_zero, List.set_cons_succ]
    refine readyL (i := 13) rfl (by kernel_rfl) (by kernel_rfl) fun K hK => ?_
    refine wp_store_whole 41 (.tmp 6) (.tmp 24) rfl g6 zrdC ((q15x gi1 gr3).cells rd15x) M3.out.r6 (size_rdx _ _) rfl (one_rdx _ _) (by go_simp) (by go_simp) (fun w9 hr9 ht9 => ?_)
    have R9 := Lib.hid hr9
    have T9 := Lib.hid ht9
    clear hr9 ht9
    refine hK.out _ _ ⟨T9.out.row M3.out.r3 HGN.out.2.1, T9.out.row M3.out.r4 HGN.out.2.2, T9.out.row M3.out.r7 (by have := H76.out; omega)⟩ ?_
    clear hK K
    try simp only [Act.put]
    refine wpAnyH_done (by kernel_rfl) ?_ _
    go_wp2_with fail
    refine bodyPost_ret (results_cell_row (h := rfl) _ w9 g6 41 _ (0, 0) _ (by rfl) R9.out.is Tryd.underlying41 rfl (size_rdx gi1 gr3)) rfl ?_
    exact ⟨gi1, gr3, rfl, mv_in15 (T9.out.row RI3.out (by have := HI1.out; omega)) (T9.out.row RR3.out (by have := HR3.out; omega)) (T9.out.row M3.out.ra (by have := HAD.out; omega)) (T9.out.row M3.out.rd (by have := HAD.out; omega)), M3.out.b.trans (T9.out.below HGN.out.1)⟩
  · go_simp
    refine (system_ _).mono ?_
    rintro e y4 ⟨rfl, hb4⟩
    have M4 := Lib.hid (MD.out.below hb4)
    clear hb4
    refine hK.out _ _ ⟨M4.out.r3, M4.out.r4, M4.out.r7⟩ ?_
    clear hK K
    try simp only [Act.put, List.setIfInBounds_toArray, List.set_cons_zero, List.set_cons_succ]
    refine takeL (i := 9) (v := .agg (LRole.mk k0 false false).cells.toArray) rfl (by kernel_rfl) (by kernel_rfl) (by kernel_rfl) (fun _ _ _ h => h) (Or.inl ⟨by rfl, fun wz hwz => exec_built wz _ _ _ rfl (by simp only [List.map_toArray, List.map_cons, List.map_nil]; exact built_ro3)⟩) ⟨M4.out.r3, M4.out.r4, M4.out.r7⟩ ?_
    try simp only [Act.put, List.setIfInBounds_toArray, List.set_cons_zero, List.set_cons_succ]
    refine readyL2 (i := 1) (j := 10) rfl rfl (by kernel_rfl) (by kernel_rfl) (by kernel_rfl) (fun K hK => ?_) (fun K hK => ?_)
    · refine wp_buildOne 30 70 (.tmp 12) rfl (ic15x ga gd) _ 3 56 Tryd.underlying30 info_insx zsz_insx (by omega) (by omega) rfl (by go_simp) ?_
      have hb5 := (Below.refl y4.heap.size y4).alloc (Nat.le_refl _) (.cells (ic15x ga gd).toArray 70)
      have RI5 := Lib.hid (Row.new y4 70 (ic15x ga gd))
      obtain ⟨gi5, hgi5⟩ : ∃ g, g = y4.heap.size := ⟨_, rfl⟩
      have HI5 : Hid (g6 < gi5) := Lib.hid (by rw [hgi5]; exact M4.out.r6.lt)
      rw [← hgi5] at RI5 ⊢
      clear hgi5
      have M5 := Lib.hid (M4.out.below hb5)
      clear hb5
      generalize y4.alloc (.cells (ic15x ga gd).toArray 70) = y5 at *
      refine hK.out _ _ ⟨M5.out.r3, M5.out.r4, M5.out.r7⟩ ?_
      clear hK K
      try simp only [Act.put, List.setIfInBounds_toArray, List.set_cons_zero, List.set_cons_succ]
      refine takeL (i := 2) (v := .agg ((q15x gi5 0).t.q.cells ms15x).toArray) rfl (by kernel_rfl) (by kernel_rfl) (by kernel_rfl) (fun _ _ _ h => h) (Or.inl ⟨by rfl, fun wz hwz => exec_built wz _ _ _ rfl (by simp only [List.map_toArray, List.map_cons, List.map_nil]; exact built_ms15x _)⟩) ⟨M5.out.r3, M5.out.r4, M5.out.r7⟩ ?_
      try simp only [Act.put, List.setIfInBounds_toArray, List.set_cons_zero, List.set_cons_succ]
      refine takeL (i := 3) (v := .agg ((q15x gi5 0).t.cells ⟨[], ms15x⟩).toArray) rfl (by kernel_rfl) (by kernel_rfl) (by kernel_rfl) (fun _ _ _ h => h) (Or.inl ⟨by rfl, fun wz hwz => exec_built wz _ _ _ rfl (by simp only [List.map_toArray, List.map_cons, List.map_nil]; exact built_tx15x _)⟩) ⟨M5.out.r3, M5.out.r4, M5.out.r7⟩ ?_
      try simp only [Act.put, List.setIfInBounds_toArray, List.set_cons_zero, List.set_cons_succ]
      refine readyL (i := 10) rfl (by kernel_rfl) (by kernel_rfl) fun K hK => ?_
      refine wp_buildThree15 36 62 (.tmp 17) (.tmp 19) (.tmp 21) rfl (LRole.mk (kx15 8) true true).cells (LRole.mk (kx15 9) false true).cells (LRole.mk k0 false false).cells _ 34 34 Tryd.underlying36 infoR zszRx (by omega) (by omega) rfl rfl rfl (by go_simp) (by go_simp) (by go_simp) ?_
      have hb6 := (Below.refl y5.heap.size y5).alloc (Nat.le_refl _) (.cells roC15x.toArray 62)
      have RR6 := Lib.hid (Row.new y5 62 roC15x)
      obtain ⟨gr6, hgr6⟩ : ∃ g, g = y5.heap.size := ⟨_, rfl⟩
      have HR6 : Hid (g6 < gr6) := Lib.hid (by rw [hgr6]; exact M5.out.r6.lt)
      rw [← hgr6] at RR6 ⊢
      clear hgr6
      have M6 := Lib.hid (M5.out.below hb6)
      have RI6 := Lib.hid (RI5.out.below hb6 RI5.out.lt)
      clear hb6
      rw [show (LRole.mk (kx15 8) true true).cells ++ ((LRole.mk (kx15 9) false true).cells ++ (LRole.mk k0 false false).cells) = roC15x from rfl]
      generalize y5.alloc (.cells roC15x.toArray 62) = y6 at *
      refine hK.out _ _ ⟨M6.out.r3, M6.out.r4, M6.out.r7⟩ ?_
      clear hK K
      try simp only [Act.put, List.setIfInBounds_toArray, List.set_cons_zero, List.set_cons_succ]
      refine takeL (i := 12) (v := .agg ((q15x gi5 gr6).cells rd15x).toArray) rfl (by kernel_rfl) (by kernel_rfl) (by kernel_rfl) (fun _ _ _ h => h) (Or.inl ⟨by rfl, fun wz hwz => exec_built wz _ _ _ rfl (by simp only [List.map_toArray, List.map_cons, List.map_nil]; exact built_rd15x _ _)⟩) ⟨M6.out.r3, M6.out.r4, M6.out.r7⟩ ?_
      try simp only [Act.put, List.setIfInBounds_toArray, List.set_cons_zero, List.set_cons_succ]
      refine readyL (i := 13) rfl (by kernel_rfl) (by kernel_rfl) fun K hK => ?_
      refine wp_store_whole 41 (.tmp 6) (.tmp 24) rfl g6 zrdC ((q15x gi5 gr6).cells rd15x) M6.out.r6 (size_rdx _ _) rfl (one_rdx _ _) (by go_simp) (by go_simp) (fun w9 hr9 ht9 => ?_)
      have R9 := Lib.hid hr9
      have T9 := Lib.hid ht9
      clear hr9 ht9
      refine hK.out _ _ ⟨T9.out.row M6.out.r3 HGN.out.2.1, T9.out.row M6.out.r4 HGN.out.2.2, T9.out.row M6.out.r7 (by have := H76.out; omega)⟩ ?_
      clear hK K
      try simp only [Act.put]
      refine wpAnyH_done (by kernel_rfl) ?_ _
      go_wp2_with fail
      refine bodyPost_ret (results_cell_row (h := rfl) _ w9 g6 41 _ (0, 0) _ (by rfl) R9.out.is Tryd.underlying41 rfl (size_rdx gi5 gr6)) rfl ?_
      exact ⟨gi5, gr6, rfl, mv_in15 (T9.out.row RI6.out (by have := HI5.out; omega)) (T9.out.row RR6.out (by have := HR6.out; omega)) (T9.out.row M6.out.ra (by have := HAD.out; omega)) (T9.out.row M6.out.rd (by have := HAD.out; omega)), M6.out.b.trans (T9.out.below HGN.out.1)⟩
    · refine wp_buildThree15 36 62 (.tmp 17) (.tmp 19) (.tmp 21) rfl (LRole.mk (kx15 8) true true).cells (LRole.mk (kx15 9) false true).cells (LRole.mk k0 false false).cells _ 34 34 Tryd.underlying36 infoR zszRx (by omega) (by omega) rfl rfl rfl (by go_simp) (by go_simp) (by go_simp) ?_
      have hb7 := (Below.refl y4.heap.size y4).alloc (Nat.le_refl _) (.cells roC15x.toArray 62)
      have RR7 := Lib.hid (Row.new y4 62 roC15x)
      obtain ⟨gr7, hgr7⟩ : ∃ g, g = y4.heap.size := ⟨_, rfl⟩
      have HR7 : Hid (g6 < gr7) := Lib.hid (by rw [hgr7]; exact M4.out.r6.lt)
      rw [← hgr7] at RR7 ⊢
      clear hgr7
      have M7 := Lib.hid (M4.out.below hb7)
      clear hb7
      rw [show (LRole.mk (kx15 8) true true).cells ++ ((LRole.mk (kx15 9) false true).cells ++ (LRole.mk k0 false false).cells) = roC15x from rfl]
      generalize y4.alloc (.cells roC15x.toArray 62) = y7 at *
      refine hK.out _ _ ⟨M7.out.r3, M7.out.r4, M7.out.r7⟩ ?_
      clear hK K
      try simp only [Act.put, List.setIfInBounds_toArray, List.set_cons_zero, List.set_cons_succ]
      refine readyL (i := 1) rfl (by kernel_rfl) (by kernel_rfl) fun K hK => ?_
      refine wp_buildOne 30 70 (.tmp 12) rfl (ic15x ga gd) _ 3 56 Tryd.underlying30 info_insx zsz_insx (by omega) (by omega) rfl (by go_simp) ?_
      have hb8 := (Below.refl y7.heap.size y7).alloc (Nat.le_refl _) (.cells (ic15x ga gd).toArray 70)
      have RI8 := Lib.hid (Row.new y7 70 (ic15x ga gd))
      obtain ⟨gi8, hgi8⟩ : ∃ g, g = y7.heap.size := ⟨_, rfl⟩
      have HI8 : Hid (g6 < gi8) := Lib.hid (by rw [hgi8]; exact M7.out.r6.lt)
      rw [← hgi8] at RI8 ⊢
      clear hgi8
      have M8 := Lib.hid (M7.out.below hb8)
      have RR8 := Lib.hid (RR7.out.below hb8 RR7.out.lt)
      clear hb8
      generalize y7.alloc (.cells (ic15x ga gd).toArray 70) = y8 at *
      refine hK.out _ _ ⟨M8.out.r3, M8.out.r4, M8.out.r7⟩ ?_
      clear hK K
      try simp only [Act.put, List.setIfInBounds_toArray, List.set_cons_zero, List.set_cons_succ]
      refine takeL (i := 2) (v := .agg ((q15x gi8 0).t.q.cells ms15x).toArray) rfl (by kernel_rfl) (by kernel_rfl) (by kernel_rfl) (fun _ _ _ h => h) (Or.inl ⟨by rfl, fun wz hwz => exec_built wz _ _ _ rfl (by simp only [List.map_toArray, List.map_cons, List.map_nil]; exact built_ms15x _)⟩) ⟨M8.out.r3, M8.out.r4, M8.out.r7⟩ ?_
      try simp only [Act.put, List.setIfInBounds_toArray, List.set_cons_zero, List.set_cons_succ]
      refine takeL (i := 3) (v := .agg ((q15x gi8 0).t.cells ⟨[], ms15x⟩).toArray) rfl (by kernel_rfl) (by kernel_rfl) (by kernel_rfl) (fun _ _ _ h => h) (Or.inl ⟨by rfl, fun wz hwz => exec_built wz _ _ _ rfl (by simp only [List.map_toArray, List.map_cons, List.map_nil]; exact built_tx15x _)⟩) ⟨M8.out.r3, M8.out.r4, M8.out.r7⟩ ?_
      try simp only [Act.put, List.setIfInBounds_toArray, List.set_cons_zero, List.set_cons_succ]
      refine takeL (i := 12) (v := .agg ((q15x gi8 gr7).cells rd15x).toArray) rfl (by kernel_rfl) (by kernel_rfl) (by kernel_rfl) (fun _ _ _ h => h) (Or.inl ⟨by rfl, fun wz hwz => exec_built wz _ _ _ rfl (by simp only [List.map_toArray, List.map_cons, List.map_nil]; exact built_rd15x _ _)⟩) ⟨M8.out.r3, M8.out.r4, M8.out.r7⟩ ?_
      try simp only [Act.put, List.setIfInBounds_toArray, List.set_cons_zero, List.set_cons_succ]
      refine readyL (i := 13) rfl (by kernel_rfl) (by kernel_rfl) fun K hK => ?_
      refine wp_store_whole 41 (.tmp 6) (.tmp 24) rfl g6 zrdC ((q15x gi8 gr7).cells rd15x) M8.out.r6 (size_rdx _ _) rfl (one_rdx _ _) (by go_simp) (by go_simp) (fun w9 hr9 ht9 => ?_)
      have R9 := Lib.hid hr9
      have T9 := Lib.hid ht9
      clear hr9 ht9
      refine hK.out _ _ ⟨T9.out.row M8.out.r3 HGN.out.2.1, T9.out.row M8.out.r4 HGN.out.2.2, T9.out.row M8.out.r7 (by have := H76.out; omega)⟩ ?_
      clear hK K
      try simp only [Act.put]
      refine wpAnyH_done (by kernel_rfl) ?_ _
      go_wp2_with fail
      refine bodyPost_ret (results_cell_row (h := rfl) _ w9 g6 41 _ (0, 0) _ (by rfl) R9.out.is Tryd.underlying41 rfl (size_rdx gi8 gr7)) rfl ?_
      exact ⟨gi8, gr7, rfl, mv_in15 (T9.out.row RI8.out (by have := HI8.out; omega)) (T9.out.row RR8.out (by have := HR7.out; omega)) (T9.out.row M8.out.ra (by have := HAD.out; omega)) (T9.out.row M8.out.rd (by have := HAD.out; omega)), M8.out.b.trans (T9.out.below HGN.out.1)⟩
end Go.Proofs.YtfaefpniiiandaaDoor
