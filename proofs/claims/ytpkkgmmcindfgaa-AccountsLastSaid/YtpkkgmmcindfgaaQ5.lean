/-
  Parts joined: PlayWalk13 NoneWalk13.
-/
import Derived.Below
import Derived.Laws.OwnMore
import Derived.Deep.AppendLies
import Derived.Deep.Draws
import Derived.Lib.Hide
import Derived.Laws.MakeOwn
import Derived.Laws.CopyOwn
import Derived.Laws.Rows
import Derived.Laws.BitsAllLaws
import Derived.WalkKit
import Derived.Test.YtpkkgmmcindfgaaRows
import Derived.WalkSpells
import Derived.WalkLawsBesides
import Derived.IntWalk
import Derived.Deep.MidRow
import Derived.Deep.WholeRow
import Derived.Maps.AppendAt
import Derived.OwnWalk
import Derived.Great.BuildSlice
import Derived.Recover
import Derived.Deep.RegionHeld
import Derived.Deep.QuietTactic
import Derived.BigQuiet
import Derived.ChangeKeysEq
import Derived.ProofKit
import Derived.OpenShut
import Derived.ShutString
import Derived.ChangeOld
import Derived.Lib.SmallJoins
import Derived.Deep.Slices
import Derived.Deep.Strs
import Derived.SizedLaws
import Derived.Deep.RegionHeld2
import Derived.Deep.CutBlock
import Derived.Laws.Tables
import Derived.Laws.StructEq
import Derived.Maps.OwnSet
import Derived.DeepKeys4
import Derived.WideKeyArr
import Derived.Maps.RangeWalk
import Derived.Laws.Slices
import Derived.Deep.DeepCutAuto
import Derived.Laws.EntriesVeiled
import Derived.Deep.RegionHeld3
import Derived.WalkMore
import Derived.WideKeyEntry
import Derived.Shelf.SlMaps.Clone
import Derived.Laws.BytesArg
import Derived.Laws.Strings
import Derived.Lib.Strings
import Derived.Great.Walk
import Derived.Laws.Bits64b
import Derived.Laws.Externs
import Derived.Shelf.SlSortCmp.WholeK
import Derived.Shelf.SlSortCmp.NoneTotal
import Derived.Ground.SlsfProg
import Derived.Lib.BytesEntry
import Derived.Laws.Append
import Derived.Laws.AppendOwn
import Derived.LaidMore
import Derived.Test.YtpkkgmmcindfgaaQ1
import Derived.Test.YtpkkgmmcindfgaaQ2
import Derived.Test.YtpkkgmmcindfgaaQ3
import Derived.Test.YtpkkgmmcindfgaaQ4
/-
  Of part PlayWalk13: what is needed here.
-/
namespace Go.Proofs.Ytpkkgmmcindfgaa
open Go.RowKit
set_option linter.unusedVariables false
set_option maxRecDepth 100000
theorem row_actk2 {V : World} {ga t : Nat} {x : LAct13} (h : Row V ga t x.cells) : ∀ j u, (bv x.k)[j]? = some u → V.cell? ((⟨ga, 1, none⟩ : Addr).add j) = some u := fun j u hu => by
  rw [addr_row, h.cell]
  exact act13_k hu
theorem row_acta2 {V : World} {ga t : Nat} {x : LAct13} (hx : x.k.length = 32) (h : Row V ga t x.cells) : ∀ j u, x.a.cells[j]? = some u → V.cell? ((⟨ga, 33, none⟩ : Addr).add j) = some u := fun j u hu => by
  rw [addr_row, h.cell]
  exact act13_a hx hu
theorem act13_size2 {x : LAct13} (h : ActOk13 x) : (Try.prog.info? 37).map (·.size) = some x.cells.length := by
  rw [act13_len h]
  kernel_rfl
theorem sl_own {x : Sl} {g : Nat} (h : x.A = some g) : x.val.ownBlock = some g := by
  unfold Sl.val
  rw [h]
  rfl
theorem built_rs0 : Try.prog.built 31 [] = some ([Value.slice none 0 0] : List Value).toArray := by kernel_rfl
theorem built_bk0 : Try.prog.built 50 [] = some ([Value.slice none 0 0] : List Value).toArray := by kernel_rfl
theorem zero_bk : (Try.prog.info? 50).map (·.zero) = some (some (.agg ([Value.slice none 0 0] : List Value).toArray)) := by kernel_rfl
theorem size_bk : (Try.prog.info? 50).map (·.size) = some ([Value.slice none 0 0] : List Value).length := by kernel_rfl
theorem zero_act : ∃ cs : List Value, cs.length = 67 ∧ (Try.prog.info? 37).map (·.zero) = some (some (.agg cs.toArray)) := ⟨(LAct13.mk 0 (List.replicate 32 0) blank13).cells, rfl, by kernel_rfl⟩
theorem bool_neq (b : Bool) (w : World) : (binOp .neq 4 (.bool b) (.bool b)).run Try.prog w = .ok (.bool false) w := by
  cases b <;> kernel_rfl
set_option maxHeartbeats 16000000 in
theorem play_walk13 (A : Option Addr) (n c : Nat) (l : List LAct13) (ask : List Int) (w : World) (hl : ActsIn13 w w.heap.size A n l) (ha : ask.length = 32 ∧ AllBytes ask) : Calls Try.prog 3 #[.slice A n c, .agg (bv ask).toArray] w fun e w' => e = .returned (.bool true) ∧ Below w.heap.size w w' := by
  have HA := Lib.hid ha
  have HSQ : Hid ((Try.prog.info? 24).map (·.size) = some (bv ask).length) := Lib.hid (by rw [size_key, bv_length, ha.1])
  have hb0 := (Below.refl w.heap.size w).alloc (Nat.le_refl _) (.cells (bv ask).toArray 24)
  have HB0 := Lib.hid hb0
  have RX0 := Lib.hid (Row.new w 24 (bv ask))
  have HM := Lib.hid hl
  clear hb0 hl ha
  by_cases h5 : 150 < n
  · have h5' : (150 : Int) < n := by omega
    go_enter Try.func3, Try.ntmps3
    go_wp2_with fail
    refine (lives13 _).mono ?_
    rintro e w2 ⟨rfl, hb⟩
    have HB := Lib.hid (HB0.out.trans (hb.mono HB0.out.size))
    clear hb
    go_wp2_with fail
    go_ret
    exact ⟨rfl, HB.out⟩
  have h5' : ¬ (150 : Int) < n := by omega
  obtain ⟨ga, hga⟩ : ∃ ga, ga = w.heap.size := ⟨_, rfl⟩
  have HGA : Hid (w.heap.size = ga) := Lib.hid hga.symm
  have RA : Hid (Row (w.alloc (.cells (bv ask).toArray 24)) ga 24 (bv ask)) := Lib.hid (by rw [hga]; exact RX0.out)
  clear hga RX0
  generalize hW0 : w.alloc (.cells (bv ask).toArray 24) = W0 at *
  have HW0 := Lib.hid hW0
  clear hW0
  go_enter Try.func3, Try.ntmps3
  go_wp2_with fail
  rw [HW0.out, HGA.out]
  clear HW0 HGA
  refine (new13 W0).mono ?_
  rintro e w1 ⟨sb, mb, rfl, hs, h1, h2, hb⟩
  have S1 := Lib.hid hs
  have B1 := Lib.hid (HB0.out.trans (hb.mono HB0.out.size))
  have RA1 := Lib.hid (RA.out.below hb RA.out.lt)
  have HLO : Hid (w.heap.size ≤ mb) := Lib.hid (Nat.le_trans HB0.out.size h2)
  clear hs hb h1 h2 RA HB0
  go_upto_region 5 with (first
    | ((with_reducible show wpList _ _ _ ({ dst := some 22, op := Op.build _ _, type := _, pos := _, after := _, guard := _ } :: _) _ _); go_must (refine wpList_plain rfl fun K hK => wp_built _ _ _ rfl (by simp only [List.map_toArray, List.map_nil]; exact built_rs0) (hK _ _ ?_)))
    | ((with_reducible show wpList _ _ _ ({ dst := some 23, op := Op.box _ _, type := _, pos := _, after := _, guard := _ } :: _) _ _); go_must (refine wpList_box_new rfl 31 (.tmp 22) rfl [Value.slice none 0 0] ?_ ?_; go_simp)))
  have hp1 := (Below.refl w1.heap.size w1).alloc (Nat.le_refl _) (.cells ([Value.slice none 0 0] : List Value).toArray 31)
  have S2 := Lib.hid (S1.out.below hp1)
  have RA2 := Lib.hid (RA1.out.below hp1 RA1.out.lt)
  have B2 := Lib.hid (B1.out.trans (hp1.mono B1.out.size))
  have M2 : Hid (RS13 (w1.alloc (.cells ([Value.slice none 0 0] : List Value).toArray 31)) w1.heap.size w.heap.size (.slice none 0 0) []) := Lib.hid ⟨Row.new w1 _ _, own_nilN _ _ _ _, sto_nil⟩
  have HPL : Hid (w.heap.size ≤ w1.heap.size ∧ sb ≠ w1.heap.size) := Lib.hid (by have := B1.out.size; have := S1.out.lt; omega)
  obtain ⟨pb, hpb⟩ : ∃ p, p = w1.heap.size := ⟨_, rfl⟩
  rw [← hpb] at M2 HPL ⊢
  clear hpb hp1 S1 RA1 B1
  generalize w1.alloc (.cells ([Value.slice none 0 0] : List Value).toArray 31) = w2 at *
  go_wp2_with fail
  refine (copy13 sb mb [] w2 S2.out (by simp)).mono ?_
  rintro e w3 ⟨cb, db, rfl, hs, h1, h2, hb⟩
  have S3 := Lib.hid (S2.out.below hb)
  have M3 := Lib.hid (M2.out.below hb)
  have C3 := Lib.hid hs
  have RA3 := Lib.hid (RA2.out.below hb RA2.out.lt)
  have B3 := Lib.hid (B2.out.trans (hb.mono B2.out.size))
  have HN3 : Hid (sb ≠ db ∧ cb ≠ mb ∧ mb ≠ db ∧ cb ≠ pb ∧ w.heap.size ≤ db) := Lib.hid (by have := S2.out.lt; have := M2.out.row.lt; have := B2.out.size; omega)
  clear hs hb h1 h2 S2 M2 RA2 B2
  go_wp2_with fail
  refine (refCopy13 pb w.heap.size _ [] w3 M3.out B3.out.size (by simp)).mono ?_
  rintro e w4 ⟨qb, u0, rfl, hm, h1, h2, hb⟩
  have P4 : Hid (PS13 w w4 sb mb pb (.slice none 0 0) cb db qb u0 ga ask [] [] [] []) := Lib.hid
    ⟨B3.out.trans (hb.mono B3.out.size), S3.out.below hb, M3.out.below hb, C3.out.below hb, hm, RA3.out.below hb RA3.out.lt, ⟨HLO.out, HPL.out.1, HN3.out.2.2.2.2, by have := B3.out.size; omega⟩,
      ⟨HN3.out.1, HN3.out.2.1, HN3.out.2.2.1, by have := M3.out.row.lt; omega, HPL.out.2, by have := S3.out.lt; omega, HN3.out.2.2.2.1, by have := C3.out.lt; omega⟩⟩
  clear hm h1 h2 hb S3 M3 C3 RA3 B3 HN3 HLO HPL
  go_upto_region 8 with fail
  go_loopw [7, 8, 9] (fun s7 s8 i wr => ∃ (k : Nat) (v : Value) (cb db qb : Nat) (u : Value) (L M : List LHold), k ≤ n ∧ i = .int .i64 k ∧ s7 = .pointer (some ⟨cb, 0, none⟩) ∧ s8 = .pointer (some ⟨qb, 0, none⟩) ∧ PS13 w wr sb mb pb v cb db qb u ga ask L L M M ∧ L.length ≤ k ∧ M.length ≤ k) (fun _ _ i _ => n - (intOf i).toNat)
  case atStart => exact ⟨0, _, cb, db, qb, u0, [], [], Nat.zero_le _, rfl, rfl, rfl, P4.out, by simp, by simp⟩
  case round =>
    clear P4
    obtain ⟨k, v, cb, db, qb, u, L, M, hk, rfl, rfl, rfl, hps, hLk, hMk⟩ := hrel
    have P0 := Lib.hid hps
    clear hps
    by_cases hlt : k < n
    · have hlt' : (k : Int) < n := by omega
      obtain ⟨a, x, rfl, hab, hx, hok, hcs⟩ := HM.out.get hlt
      have HX := Lib.hid hok
      have HSX := Lib.hid (act13_size2 hok)
      have HSK : Hid ((Try.prog.info? 24).map (·.size) = some (bv x.k).length) := Lib.hid (by rw [size_key, bv_length, hok.k.1])
      have HSA := Lib.hid (size_acc hok.a.o.1)
      have HL67 := Lib.hid (act13_len hok)
      obtain ⟨z0, hz0, hzi⟩ := zero_act
      have HZ0 := Lib.hid hz0
      have HCX : Hid (∀ j u, x.cells[j]? = some u → wr.cell? ((a.add (k * 67)).add j) = some u) := Lib.hid fun j u hu => (P0.out.b.cell (by rw [addr_block, addr_block]; exact hab)).trans (hcs j u hu)
      have hzk := hok.z
      obtain ⟨hzk0, hzk1⟩ := hzk
      clear hab hcs hx hok hz0
      go_upto_region 11 with (first
        | ((with_reducible show wpList _ _ _ ({ dst := some 37, op := Op.load _ _, type := _, pos := _, after := _, guard := _ } :: _) _ _); go_must (refine wpList_load_at rfl 37 (.tmp 36) rfl (a.add (k * 67)) x.cells _ Try.underlying37 rfl HSX.out HCX.out ?_ ?_; go_simp))
        | ((with_reducible show wpList _ _ _ ({ dst := some 10, op := Op.alloc _, type := _, pos := _, after := _, guard := _ } :: _) _ _); go_must (refine wpList_alloc_zero rfl 37 rfl z0 hzi ?_))
        | ((with_reducible show wpList _ _ _ ({ dst := none, op := Op.store 37 _ _, type := _, pos := _, after := _, guard := _ } :: _) _ _); go_must (refine wpList_store_new rfl 37 (.tmp 10) (.tmp 37) rfl x.cells HSX.out (act13_one _) (by rw [HL67.out]; simpa using HZ0.out) ?_ ?_ ?_; go_simp; go_simp; intro W1 hr hb hz; have RX := Lib.hid hr; have P1 := Lib.hid (P0.out.below hb); clear hr hb hz)))
      obtain ⟨gx, hgx⟩ : ∃ g, g = wr.heap.size := ⟨_, rfl⟩
      rw [← hgx] at RX ⊢
      clear hgx P0 HCX hzi
      have ck := RX.out.cell 0
      rw [act13_z] at ck
      go_upto_block 2 with fail
      obtain ⟨rk, hrk⟩ : ∃ y, y = x.z % 5 := ⟨_, rfl⟩
      have hr5 : (rk = 0 ∨ rk = 1 ∨ rk = 2) ∨ rk = 3 ∨ rk = 4 := by omega
      rw [← hrk]
      clear hrk ck hzk0 hzk1
      go_cut [7, 8] (fun s7 s8 wx => ∃ (v : Value) (cb db qb : Nat) (u : Value) (L M : List LHold), s7 = .pointer (some ⟨cb, 0, none⟩) ∧ s8 = .pointer (some ⟨qb, 0, none⟩) ∧ PS13 w wx sb mb pb v cb db qb u ga ask L L M M ∧ L.length ≤ k + 1 ∧ M.length ≤ k + 1 ∧ Row wx gx 37 x.cells)
      case first =>
        rcases hr5 with h | rfl | rfl
        · rcases h with rfl | rfl | rfl
          · go_wp2_with (first
                | ((with_reducible show wpList _ _ _ ({ dst := some 51, op := Op.load _ _, type := _, pos := _, after := _, guard := _ } :: _) _ _); go_must (refine wpList_load_at rfl 24 (.tmp 50) rfl ⟨gx, 1, none⟩ (bv x.k) _ Try.underlying24 rfl HSK.out (row_actk2 RX.out) ?_ ?_; go_simp))
                | ((with_reducible show wpList _ _ _ ({ dst := some 53, op := Op.load _ _, type := _, pos := _, after := _, guard := _ } :: _) _ _); go_must (refine wpList_load_at rfl 35 (.tmp 52) rfl ⟨gx, 33, none⟩ x.a.cells _ Try.underlying35 rfl HSA.out (row_acta2 HX.out.k.1 RX.out) ?_ ?_; go_simp)))
            refine (put13 sb mb L x.k x.a W1 P1.out.s HX.out.k HX.out.a (by omega)).mono ?_
            rintro e W2 ⟨rfl, hs, hg⟩
            have P2 := Lib.hid (P1.out.putS hs hg)
            have RX2 := Lib.hid (RX.out.grown hg (fun e => P1.out.s.row_ne RX.out (Option.some.inj e)))
            clear hs hg
            go_wp2_with (first
                | ((with_reducible show wpList _ _ _ ({ dst := some 58, op := Op.load _ _, type := _, pos := _, after := _, guard := _ } :: _) _ _); go_must (refine wpList_load_at rfl 24 (.tmp 57) rfl ⟨gx, 1, none⟩ (bv x.k) _ Try.underlying24 rfl HSK.out (row_actk2 RX2.out) ?_ ?_; go_simp))
                | ((with_reducible show wpList _ _ _ ({ dst := some 60, op := Op.load _ _, type := _, pos := _, after := _, guard := _ } :: _) _ _); go_must (refine wpList_load_at rfl 35 (.tmp 59) rfl ⟨gx, 33, none⟩ x.a.cells _ Try.underlying35 rfl HSA.out (row_acta2 HX.out.k.1 RX2.out) ?_ ?_; go_simp)))
            refine (refPut13 pb w.heap.size v L x.k x.a W2 P2.out.m HX.out.k HX.out.a (by omega) P2.out.b.size).mono ?_
            rintro e W3 ⟨rfl, v', hm, hg⟩
            have P3 := Lib.hid (P2.out.putM hm hg)
            have RX3 := Lib.hid (RX2.out.grown hg (fun e => ref_row P2.out.m RX2.out (by decide) (Option.some.inj e)))
            clear hm hg
            have hpl := putH_len L x.k x.a
            go_wp2_with fail
            go_meet
            exact ⟨_, _, _, _, _, _, _, rfl, rfl, P3.out, by omega, by omega, RX3.out⟩
          · go_wp2_with (first
                | ((with_reducible show wpList _ _ _ ({ dst := some 51, op := Op.load _ _, type := _, pos := _, after := _, guard := _ } :: _) _ _); go_must (refine wpList_load_at rfl 24 (.tmp 50) rfl ⟨gx, 1, none⟩ (bv x.k) _ Try.underlying24 rfl HSK.out (row_actk2 RX.out) ?_ ?_; go_simp))
                | ((with_reducible show wpList _ _ _ ({ dst := some 53, op := Op.load _ _, type := _, pos := _, after := _, guard := _ } :: _) _ _); go_must (refine wpList_load_at rfl 35 (.tmp 52) rfl ⟨gx, 33, none⟩ x.a.cells _ Try.underlying35 rfl HSA.out (row_acta2 HX.out.k.1 RX.out) ?_ ?_; go_simp)))
            refine (put13 sb mb L x.k x.a W1 P1.out.s HX.out.k HX.out.a (by omega)).mono ?_
            rintro e W2 ⟨rfl, hs, hg⟩
            have P2 := Lib.hid (P1.out.putS hs hg)
            have RX2 := Lib.hid (RX.out.grown hg (fun e => P1.out.s.row_ne RX.out (Option.some.inj e)))
            clear hs hg
            go_wp2_with (first
                | ((with_reducible show wpList _ _ _ ({ dst := some 58, op := Op.load _ _, type := _, pos := _, after := _, guard := _ } :: _) _ _); go_must (refine wpList_load_at rfl 24 (.tmp 57) rfl ⟨gx, 1, none⟩ (bv x.k) _ Try.underlying24 rfl HSK.out (row_actk2 RX2.out) ?_ ?_; go_simp))
                | ((with_reducible show wpList _ _ _ ({ dst := some 60, op := Op.load _ _, type := _, pos := _, after := _, guard := _ } :: _) _ _); go_must (refine wpList_load_at rfl 35 (.tmp 59) rfl ⟨gx, 33, none⟩ x.a.cells _ Try.underlying35 rfl HSA.out (row_acta2 HX.out.k.1 RX2.out) ?_ ?_; go_simp)))
            refine (refPut13 pb w.heap.size v L x.k x.a W2 P2.out.m HX.out.k HX.out.a (by omega) P2.out.b.size).mono ?_
            rintro e W3 ⟨rfl, v', hm, hg⟩
            have P3 := Lib.hid (P2.out.putM hm hg)
            have RX3 := Lib.hid (RX2.out.grown hg (fun e => ref_row P2.out.m RX2.out (by decide) (Option.some.inj e)))
            clear hm hg
            have hpl := putH_len L x.k x.a
            go_wp2_with fail
            go_meet
            exact ⟨_, _, _, _, _, _, _, rfl, rfl, P3.out, by omega, by omega, RX3.out⟩
          · go_wp2_with (first
                | ((with_reducible show wpList _ _ _ ({ dst := some 51, op := Op.load _ _, type := _, pos := _, after := _, guard := _ } :: _) _ _); go_must (refine wpList_load_at rfl 24 (.tmp 50) rfl ⟨gx, 1, none⟩ (bv x.k) _ Try.underlying24 rfl HSK.out (row_actk2 RX.out) ?_ ?_; go_simp))
                | ((with_reducible show wpList _ _ _ ({ dst := some 53, op := Op.load _ _, type := _, pos := _, after := _, guard := _ } :: _) _ _); go_must (refine wpList_load_at rfl 35 (.tmp 52) rfl ⟨gx, 33, none⟩ x.a.cells _ Try.underlying35 rfl HSA.out (row_acta2 HX.out.k.1 RX.out) ?_ ?_; go_simp)))
            refine (put13 sb mb L x.k x.a W1 P1.out.s HX.out.k HX.out.a (by omega)).mono ?_
            rintro e W2 ⟨rfl, hs, hg⟩
            have P2 := Lib.hid (P1.out.putS hs hg)
            have RX2 := Lib.hid (RX.out.grown hg (fun e => P1.out.s.row_ne RX.out (Option.some.inj e)))
            clear hs hg
            go_wp2_with (first
                | ((with_reducible show wpList _ _ _ ({ dst := some 58, op := Op.load _ _, type := _, pos := _, after := _, guard := _ } :: _) _ _); go_must (refine wpList_load_at rfl 24 (.tmp 57) rfl ⟨gx, 1, none⟩ (bv x.k) _ Try.underlying24 rfl HSK.out (row_actk2 RX2.out) ?_ ?_; go_simp))
                | ((with_reducible show wpList _ _ _ ({ dst := some 60, op := Op.load _ _, type := _, pos := _, after := _, guard := _ } :: _) _ _); go_must (refine wpList_load_at rfl 35 (.tmp 59) rfl ⟨gx, 33, none⟩ x.a.cells _ Try.underlying35 rfl HSA.out (row_acta2 HX.out.k.1 RX2.out) ?_ ?_; go_simp)))
            refine (refPut13 pb w.heap.size v L x.k x.a W2 P2.out.m HX.out.k HX.out.a (by omega) P2.out.b.size).mono ?_
            rintro e W3 ⟨rfl, v', hm, hg⟩
            have P3 := Lib.hid (P2.out.putM hm hg)
            have RX3 := Lib.hid (RX2.out.grown hg (fun e => ref_row P2.out.m RX2.out (by decide) (Option.some.inj e)))
            clear hm hg
            have hpl := putH_len L x.k x.a
            go_wp2_with fail
            go_meet
            exact ⟨_, _, _, _, _, _, _, rfl, rfl, P3.out, by omega, by omega, RX3.out⟩
        · go_wp2_with (first
              | ((with_reducible show wpList _ _ _ ({ dst := some 66, op := Op.load _ _, type := _, pos := _, after := _, guard := _ } :: _) _ _); go_must (refine wpList_load_at rfl 24 (.tmp 65) rfl ⟨gx, 1, none⟩ (bv x.k) _ Try.underlying24 rfl HSK.out (row_actk2 RX.out) ?_ ?_; go_simp))
              | ((with_reducible show wpList _ _ _ ({ dst := some 68, op := Op.load _ _, type := _, pos := _, after := _, guard := _ } :: _) _ _); go_must (refine wpList_load_at rfl 35 (.tmp 67) rfl ⟨gx, 33, none⟩ x.a.cells _ Try.underlying35 rfl HSA.out (row_acta2 HX.out.k.1 RX.out) ?_ ?_; go_simp)))
          refine (put13 cb db M x.k x.a W1 P1.out.c HX.out.k HX.out.a (by omega)).mono ?_
          rintro e W2 ⟨rfl, hs, hg⟩
          have P2 := Lib.hid (P1.out.putC hs hg)
          have RX2 := Lib.hid (RX.out.grown hg (fun e => P1.out.c.row_ne RX.out (Option.some.inj e)))
          clear hs hg
          go_wp2_with (first
              | ((with_reducible show wpList _ _ _ ({ dst := some 73, op := Op.load _ _, type := _, pos := _, after := _, guard := _ } :: _) _ _); go_must (refine wpList_load_at rfl 24 (.tmp 72) rfl ⟨gx, 1, none⟩ (bv x.k) _ Try.underlying24 rfl HSK.out (row_actk2 RX2.out) ?_ ?_; go_simp))
              | ((with_reducible show wpList _ _ _ ({ dst := some 75, op := Op.load _ _, type := _, pos := _, after := _, guard := _ } :: _) _ _); go_must (refine wpList_load_at rfl 35 (.tmp 74) rfl ⟨gx, 33, none⟩ x.a.cells _ Try.underlying35 rfl HSA.out (row_acta2 HX.out.k.1 RX2.out) ?_ ?_; go_simp)))
          refine (refPut13 qb w.heap.size u M x.k x.a W2 P2.out.d HX.out.k HX.out.a (by omega) P2.out.b.size).mono ?_
          rintro e W3 ⟨rfl, v', hm, hg⟩
          have P3 := Lib.hid (P2.out.putD hm hg)
          have RX3 := Lib.hid (RX2.out.grown hg (fun e => ref_row P2.out.d RX2.out (by decide) (Option.some.inj e)))
          clear hm hg
          have hpl := putH_len M x.k x.a
          go_wp2_with fail
          go_meet
          exact ⟨_, _, _, _, _, _, _, rfl, rfl, P3.out, by omega, by omega, RX3.out⟩
        · go_wp2_with fail
          refine (copy13 sb mb L W1 P1.out.s (by omega)).mono ?_
          rintro e W2 ⟨cb', db', rfl, hs, h1, h2, hb⟩
          have P2 := Lib.hid (P1.out.copyS hs h1 h2 hb)
          have RX2 := Lib.hid (RX.out.below hb RX.out.lt)
          clear hs h1 h2 hb
          go_wp2_with fail
          refine (refCopy13 pb w.heap.size v L W2 P2.out.m P2.out.b.size (by omega)).mono ?_
          rintro e W3 ⟨qb', u', rfl, hm, h1, h2, hb⟩
          have P3 := Lib.hid (P2.out.copyM hm h1 hb)
          have RX3 := Lib.hid (RX2.out.below hb RX2.out.lt)
          clear hm h1 h2 hb
          go_wp2_with fail
          go_meet
          exact ⟨_, _, _, _, _, _, _, rfl, rfl, P3.out, by omega, by omega, RX3.out⟩
      case rest =>
      obtain ⟨v, cb, db, qb, u, L, M, rfl, rfl, hps, hLk, hMk, hrx⟩ := hcut
      have PR := Lib.hid hps
      have RXR := Lib.hid hrx
      clear hps hrx RX P1
      have NEX := fun w => acc_neq (x := getH L x.k) (y := getH L x.k) (PR.out.s.sto.get_ok _).o.1 (PR.out.s.sto.get_ok _).o.1 w
      have NEC := fun w => acc_neq (x := getH M x.k) (y := getH M x.k) (PR.out.c.sto.get_ok _).o.1 (PR.out.c.sto.get_ok _).o.1 w
      have NEA := fun w => acc_neq (x := getH L ask) (y := getH L ask) (PR.out.s.sto.get_ok _).o.1 (PR.out.s.sto.get_ok _).o.1 w
      rw [decide_eq_true rfl] at NEX NEC NEA
      have NBB := bool_neq
      have HCM : Hid (decide (M = L) = decide (L = M)) := Lib.hid (decide_eq_decide.2 ⟨Eq.symm, Eq.symm⟩)
      go_upto_region 24 with fail
      refine wp_region_held_drew (S := (fun V => Below wc.heap.size wc V)) (by kernel_rfl) (Below.refl wc.heap.size wc).drew (fun _ => ?_)
      refine takeL (i := 0) (v := ?_) rfl (by kernel_rfl) (by kernel_rfl) (by kernel_rfl) (fun _ _ _ h => h) (Or.inl ⟨by rfl, ?_⟩) (Below.refl wc.heap.size wc).drew ?_
      rotate_left
      · intro w hw
        try dsimp only at hw
        go_simp
        try with_reducible rfl
      try simp only [Act.put, List.setIfInBounds_toArray, List.set_cons_zero, List.set_cons_succ]
      refine takeL (i := 1) (v := ?_) rfl (by kernel_rfl) (by kernel_rfl) (by kernel_rfl) (fun _ _ _ h => h) (Or.inl ⟨by rfl, ?_⟩) (Below.refl wc.heap.size wc).drew ?_
      rotate_left
      · intro w hw
        try dsimp only at hw
        go_simp
        try with_reducible rfl
      try simp only [Act.put, List.setIfInBounds_toArray, List.set_cons_zero, List.set_cons_succ]
      refine takeL (i := 2) (v := .agg (bv x.k).toArray) rfl (by kernel_rfl) (by kernel_rfl) (by kernel_rfl) (fun _ _ _ h => h) (Or.inl ⟨by rfl, fun wz hwz => exec_load_at wz 24 (.tmp 78) rfl ⟨gx, 1, none⟩ (bv x.k) _ Try.underlying24 rfl HSK.out (row_actk2 (RXR.out.below hwz RXR.out.lt)) (by go_simp)⟩) (Below.refl wc.heap.size wc).drew ?_
      try simp only [Act.put, List.setIfInBounds_toArray, List.set_cons_zero, List.set_cons_succ]
      refine takeL (i := 4) (v := ?_) rfl (by kernel_rfl) (by kernel_rfl) (by kernel_rfl) (fun _ _ _ h => h) (Or.inl ⟨by rfl, ?_⟩) (Below.refl wc.heap.size wc).drew ?_
      rotate_left
      · intro w hw
        try dsimp only at hw
        go_simp
        try with_reducible rfl
      try simp only [Act.put, List.setIfInBounds_toArray, List.set_cons_zero, List.set_cons_succ]
      refine takeL (i := 5) (v := ?_) rfl (by kernel_rfl) (by kernel_rfl) (by kernel_rfl) (fun _ _ _ h => h) (Or.inl ⟨by rfl, ?_⟩) (Below.refl wc.heap.size wc).drew ?_
      rotate_left
      · intro w hw
        try dsimp only at hw
        go_simp
        try with_reducible rfl
      try simp only [Act.put, List.setIfInBounds_toArray, List.set_cons_zero, List.set_cons_succ]
      refine takeL (i := 6) (v := .agg (bv x.k).toArray) rfl (by kernel_rfl) (by kernel_rfl) (by kernel_rfl) (fun _ _ _ h => h) (Or.inl ⟨by rfl, fun wz hwz => exec_load_at wz 24 (.tmp 82) rfl ⟨gx, 1, none⟩ (bv x.k) _ Try.underlying24 rfl HSK.out (row_actk2 (RXR.out.below hwz RXR.out.lt)) (by go_simp)⟩) (Below.refl wc.heap.size wc).drew ?_
      try simp only [Act.put, List.setIfInBounds_toArray, List.set_cons_zero, List.set_cons_succ]
      refine readyL (i := 3) rfl (by kernel_rfl) (by kernel_rfl) fun K hK => ?_
      go_simp
      refine (get13 sb mb L x.k _ (PR.out.below ((Below.refl wc.heap.size wc).drew)).s HX.out.k).mono ?_
      rintro e y1 ⟨rfl, hb⟩
      have Y1 := Lib.hid (show Below wc.heap.size wc y1 from ((Below.refl wc.heap.size wc).drew).trans (hb.mono ((Below.refl wc.heap.size wc).drew).size))
      clear hb
      refine hK.out _ _ Y1.out ?_
      clear hK K
      try simp only [Act.put, List.setIfInBounds_toArray, List.set_cons_zero, List.set_cons_succ]
      refine readyL (i := 7) rfl (by kernel_rfl) (by kernel_rfl) fun K hK => ?_
      go_simp
      refine (refGet13 pb w.heap.size v L x.k _ (PR.out.below (Y1.out)).m HX.out.k.1 (by omega)).mono ?_
      rintro e y2 ⟨rfl, hb⟩
      have Y2 := Lib.hid (show Below wc.heap.size wc y2 from (Y1.out).trans (hb.mono (Y1.out).size))
      clear hb
      refine hK.out _ _ Y2.out ?_
      clear hK K
      try simp only [Act.put, List.setIfInBounds_toArray, List.set_cons_zero, List.set_cons_succ]
      refine takeL (i := 8) (v := ?_) rfl (by kernel_rfl) (by kernel_rfl) (by kernel_rfl) (fun _ _ _ h => h) (Or.inl ⟨by rfl, ?_⟩) Y2.out ?_
      rotate_left
      · intro w hw
        try dsimp only at hw
        go_simp
        try with_reducible rfl
      try simp only [Act.put, List.setIfInBounds_toArray, List.set_cons_zero, List.set_cons_succ]
      refine takeL (i := 9) (v := ?_) rfl (by kernel_rfl) (by kernel_rfl) (by kernel_rfl) (fun _ _ _ h => h) (Or.inl ⟨by rfl, ?_⟩) Y2.out ?_
      rotate_left
      · intro w hw
        try dsimp only at hw
        go_simp
        try with_reducible rfl
      try simp only [Act.put, List.setIfInBounds_toArray, List.set_cons_zero, List.set_cons_succ]
      refine takeL (i := 10) (v := ?_) rfl (by kernel_rfl) (by kernel_rfl) (by kernel_rfl) (fun _ _ _ h => h) (Or.inl ⟨by rfl, ?_⟩) Y2.out ?_
      rotate_left
      · intro w hw
        try dsimp only at hw
        go_simp
        try with_reducible rfl
      try simp only [Act.put, List.setIfInBounds_toArray, List.set_cons_zero, List.set_cons_succ]
      refine takeL (i := 11) (v := ?_) rfl (by kernel_rfl) (by kernel_rfl) (by kernel_rfl) (fun _ _ _ h => h) (Or.inl ⟨by rfl, ?_⟩) Y2.out ?_
      rotate_left
      · intro w hw
        try dsimp only at hw
        go_simp
        try with_reducible rfl
      try simp only [Act.put, List.setIfInBounds_toArray, List.set_cons_zero, List.set_cons_succ]
      refine takeL (i := 12) (v := .agg (bv x.k).toArray) rfl (by kernel_rfl) (by kernel_rfl) (by kernel_rfl) (fun _ _ _ h => h) (Or.inl ⟨by rfl, fun wz hwz => exec_load_at wz 24 (.tmp 88) rfl ⟨gx, 1, none⟩ (bv x.k) _ Try.underlying24 rfl HSK.out (row_actk2 (RXR.out.below hwz RXR.out.lt)) (by go_simp)⟩) Y2.out ?_
      try simp only [Act.put, List.setIfInBounds_toArray, List.set_cons_zero, List.set_cons_succ]
      refine takeL (i := 14) (v := ?_) rfl (by kernel_rfl) (by kernel_rfl) (by kernel_rfl) (fun _ _ _ h => h) (Or.inl ⟨by rfl, ?_⟩) Y2.out ?_
      rotate_left
      · intro w hw
        try dsimp only at hw
        go_simp
        try with_reducible rfl
      try simp only [Act.put, List.setIfInBounds_toArray, List.set_cons_zero, List.set_cons_succ]
      refine takeL (i := 15) (v := ?_) rfl (by kernel_rfl) (by kernel_rfl) (by kernel_rfl) (fun _ _ _ h => h) (Or.inl ⟨by rfl, ?_⟩) Y2.out ?_
      rotate_left
      · intro w hw
        try dsimp only at hw
        go_simp
        try with_reducible rfl
      try simp only [Act.put, List.setIfInBounds_toArray, List.set_cons_zero, List.set_cons_succ]
      refine takeL (i := 16) (v := .agg (bv x.k).toArray) rfl (by kernel_rfl) (by kernel_rfl) (by kernel_rfl) (fun _ _ _ h => h) (Or.inl ⟨by rfl, fun wz hwz => exec_load_at wz 24 (.tmp 92) rfl ⟨gx, 1, none⟩ (bv x.k) _ Try.underlying24 rfl HSK.out (row_actk2 (RXR.out.below hwz RXR.out.lt)) (by go_simp)⟩) Y2.out ?_
      try simp only [Act.put, List.setIfInBounds_toArray, List.set_cons_zero, List.set_cons_succ]
      refine readyL (i := 13) rfl (by kernel_rfl) (by kernel_rfl) fun K hK => ?_
      go_simp
      refine (get13 cb db M x.k _ (PR.out.below (Y2.out)).c HX.out.k).mono ?_
      rintro e y3 ⟨rfl, hb⟩
      have Y3 := Lib.hid (show Below wc.heap.size wc y3 from (Y2.out).trans (hb.mono (Y2.out).size))
      clear hb
      refine hK.out _ _ Y3.out ?_
      clear hK K
      try simp only [Act.put, List.setIfInBounds_toArray, List.set_cons_zero, List.set_cons_succ]
      refine readyL (i := 17) rfl (by kernel_rfl) (by kernel_rfl) fun K hK => ?_
      go_simp
      refine (refGet13 qb w.heap.size u M x.k _ (PR.out.below (Y3.out)).d HX.out.k.1 (by omega)).mono ?_
      rintro e y4 ⟨rfl, hb⟩
      have Y4 := Lib.hid (show Below wc.heap.size wc y4 from (Y3.out).trans (hb.mono (Y3.out).size))
      clear hb
      refine hK.out _ _ Y4.out ?_
      clear hK K
      try simp only [Act.put, List.setIfInBounds_toArray, List.set_cons_zero, List.set_cons_succ]
      refine takeL (i := 18) (v := ?_) rfl (by kernel_rfl) (by kernel_rfl) (by kernel_rfl) (fun _ _ _ h => h) (Or.inl ⟨by rfl, ?_⟩) Y4.out ?_
      rotate_left
      · intro w hw
        try dsimp only at hw
        go_simp
        try with_reducible rfl
      try simp only [Act.put, List.setIfInBounds_toArray, List.set_cons_zero, List.set_cons_succ]
      refine takeL (i := 19) (v := ?_) rfl (by kernel_rfl) (by kernel_rfl) (by kernel_rfl) (fun _ _ _ h => h) (Or.inl ⟨by rfl, ?_⟩) Y4.out ?_
      rotate_left
      · intro w hw
        try dsimp only at hw
        go_simp
        try with_reducible rfl
      try simp only [Act.put, List.setIfInBounds_toArray, List.set_cons_zero, List.set_cons_succ]
      refine takeL (i := 20) (v := ?_) rfl (by kernel_rfl) (by kernel_rfl) (by kernel_rfl) (fun _ _ _ h => h) (Or.inl ⟨by rfl, ?_⟩) Y4.out ?_
      rotate_left
      · intro w hw
        try dsimp only at hw
        go_simp
        try with_reducible rfl
      try simp only [Act.put, List.setIfInBounds_toArray, List.set_cons_zero, List.set_cons_succ]
      refine takeL (i := 21) (v := ?_) rfl (by kernel_rfl) (by kernel_rfl) (by kernel_rfl) (fun _ _ _ h => h) (Or.inl ⟨by rfl, ?_⟩) Y4.out ?_
      rotate_left
      · intro w hw
        try dsimp only at hw
        go_simp
        try with_reducible rfl
      try simp only [Act.put, List.setIfInBounds_toArray, List.set_cons_zero, List.set_cons_succ]
      refine takeL (i := 22) (v := ?_) rfl (by kernel_rfl) (by kernel_rfl) (by kernel_rfl) (fun _ _ _ h => h) (Or.inl ⟨by rfl, ?_⟩) Y4.out ?_
      rotate_left
      · intro w hw
        try dsimp only at hw
        go_simp
        try with_reducible rfl
      try simp only [Act.put, List.setIfInBounds_toArray, List.set_cons_zero, List.set_cons_succ]
      refine takeL (i := 24) (v := ?_) rfl (by kernel_rfl) (by kernel_rfl) (by kernel_rfl) (fun _ _ _ h => h) (Or.inl ⟨by rfl, ?_⟩) Y4.out ?_
      rotate_left
      · intro w hw
        try dsimp only at hw
        go_simp
        try with_reducible rfl
      try simp only [Act.put, List.setIfInBounds_toArray, List.set_cons_zero, List.set_cons_succ]
      refine takeL (i := 25) (v := ?_) rfl (by kernel_rfl) (by kernel_rfl) (by kernel_rfl) (fun _ _ _ h => h) (Or.inl ⟨by rfl, ?_⟩) Y4.out ?_
      rotate_left
      · intro w hw
        try dsimp only at hw
        go_simp
        try with_reducible rfl
      try simp only [Act.put, List.setIfInBounds_toArray, List.set_cons_zero, List.set_cons_succ]
      refine readyL (i := 23) rfl (by kernel_rfl) (by kernel_rfl) fun K hK => ?_
      go_simp
      refine (same13 sb mb cb db L M _ (PR.out.below (Y4.out)).s (PR.out.below (Y4.out)).c (by omega) (by omega)).mono ?_
      rintro e y5 ⟨rfl, hb⟩
      have Y5 := Lib.hid (show Below wc.heap.size wc y5 from (Y4.out).trans (hb.mono (Y4.out).size))
      clear hb
      refine hK.out _ _ Y5.out ?_
      clear hK K
      try simp only [Act.put, List.setIfInBounds_toArray, List.set_cons_zero, List.set_cons_succ]
      refine readyL (i := 26) rfl (by kernel_rfl) (by kernel_rfl) fun K hK => ?_
      go_simp
      refine (refSame13 pb qb w.heap.size w.heap.size v u L M _ (PR.out.below (Y5.out)).m (PR.out.below (Y5.out)).d (by omega) (by omega)).mono ?_
      rintro e y6 ⟨rfl, kd, rfl⟩
      have Y6 := Lib.hid (show Below wc.heap.size wc (y5.drewN kd) from (Y5.out).trans ⟨rfl, rfl, rfl, Nat.le_refl _, fun _ _ => rfl⟩)
      refine hK.out _ _ Y6.out ?_
      clear hK K
      try simp only [Act.put, List.setIfInBounds_toArray, List.set_cons_zero, List.set_cons_succ]
      refine takeL (i := 27) (v := ?_) rfl (by kernel_rfl) (by kernel_rfl) (by kernel_rfl) (fun _ _ _ h => h) (Or.inl ⟨by rfl, ?_⟩) Y6.out ?_
      rotate_left
      · intro w hw
        try dsimp only at hw
        go_simp
        try with_reducible rfl
      try simp only [Act.put, List.setIfInBounds_toArray, List.set_cons_zero, List.set_cons_succ]
      refine takeL (i := 28) (v := ?_) rfl (by kernel_rfl) (by kernel_rfl) (by kernel_rfl) (fun _ _ _ h => h) (Or.inl ⟨by rfl, ?_⟩) Y6.out ?_
      rotate_left
      · intro w hw
        try dsimp only at hw
        go_simp
        try with_reducible rfl
      try simp only [Act.put, List.setIfInBounds_toArray, List.set_cons_zero, List.set_cons_succ]
      refine takeL (i := 29) (v := ?_) rfl (by kernel_rfl) (by kernel_rfl) (by kernel_rfl) (fun _ _ _ h => h) (Or.inl ⟨by rfl, ?_⟩) Y6.out ?_
      rotate_left
      · intro w hw
        try dsimp only at hw
        go_simp
        try with_reducible rfl
      try simp only [Act.put, List.setIfInBounds_toArray, List.set_cons_zero, List.set_cons_succ]
      refine takeL (i := 30) (v := ?_) rfl (by kernel_rfl) (by kernel_rfl) (by kernel_rfl) (fun _ _ _ h => h) (Or.inl ⟨by rfl, ?_⟩) Y6.out ?_
      rotate_left
      · intro w hw
        try dsimp only at hw
        go_simp
        try with_reducible rfl
      try simp only [Act.put, List.setIfInBounds_toArray, List.set_cons_zero, List.set_cons_succ]
      refine takeL (i := 31) (v := ?_) rfl (by kernel_rfl) (by kernel_rfl) (by kernel_rfl) (fun _ _ _ h => h) (Or.inl ⟨by rfl, ?_⟩) Y6.out ?_
      rotate_left
      · intro w hw
        try dsimp only at hw
        go_simp
        try with_reducible rfl
      try simp only [Act.put, List.setIfInBounds_toArray, List.set_cons_zero, List.set_cons_succ]
      refine takeL (i := 33) (v := ?_) rfl (by kernel_rfl) (by kernel_rfl) (by kernel_rfl) (fun _ _ _ h => h) (Or.inl ⟨by rfl, ?_⟩) Y6.out ?_
      rotate_left
      · intro w hw
        try dsimp only at hw
        go_simp
        try with_reducible rfl
      try simp only [Act.put, List.setIfInBounds_toArray, List.set_cons_zero, List.set_cons_succ]
      refine takeL (i := 34) (v := ?_) rfl (by kernel_rfl) (by kernel_rfl) (by kernel_rfl) (fun _ _ _ h => h) (Or.inl ⟨by rfl, ?_⟩) Y6.out ?_
      rotate_left
      · intro w hw
        try dsimp only at hw
        go_simp
        try with_reducible rfl
      try simp only [Act.put, List.setIfInBounds_toArray, List.set_cons_zero, List.set_cons_succ]
      refine readyL (i := 32) rfl (by kernel_rfl) (by kernel_rfl) fun K hK => ?_
      go_simp
      refine (same13 cb db sb mb M L _ (PR.out.below (Y6.out)).c (PR.out.below (Y6.out)).s (by omega) (by omega)).mono ?_
      rintro e y7 ⟨rfl, hb⟩
      rw [HCM.out]
      have Y7 := Lib.hid (show Below wc.heap.size wc y7 from (Y6.out).trans (hb.mono (Y6.out).size))
      clear hb
      refine hK.out _ _ Y7.out ?_
      clear hK K
      try simp only [Act.put, List.setIfInBounds_toArray, List.set_cons_zero, List.set_cons_succ]
      refine readyL (i := 35) rfl (by kernel_rfl) (by kernel_rfl) fun K hK => ?_
      go_simp
      refine (refSame13 pb qb w.heap.size w.heap.size v u L M _ (PR.out.below (Y7.out)).m (PR.out.below (Y7.out)).d (by omega) (by omega)).mono ?_
      rintro e y8 ⟨rfl, kd, rfl⟩
      have Y8 := Lib.hid (show Below wc.heap.size wc (y7.drewN kd) from (Y7.out).trans ⟨rfl, rfl, rfl, Nat.le_refl _, fun _ _ => rfl⟩)
      refine hK.out _ _ Y8.out ?_
      clear hK K
      try simp only [Act.put, List.setIfInBounds_toArray, List.set_cons_zero, List.set_cons_succ]
      refine takeL (i := 36) (v := ?_) rfl (by kernel_rfl) (by kernel_rfl) (by kernel_rfl) (fun _ _ _ h => h) (Or.inl ⟨by rfl, ?_⟩) Y8.out ?_
      rotate_left
      · intro w hw
        try dsimp only at hw
        go_simp
        try with_reducible rfl
      try simp only [Act.put, List.setIfInBounds_toArray, List.set_cons_zero, List.set_cons_succ]
      refine takeL (i := 37) (v := ?_) rfl (by kernel_rfl) (by kernel_rfl) (by kernel_rfl) (fun _ _ _ h => h) (Or.inl ⟨by rfl, ?_⟩) Y8.out ?_
      rotate_left
      · intro w hw
        try dsimp only at hw
        go_simp
        try with_reducible rfl
      try simp only [Act.put, List.setIfInBounds_toArray, List.set_cons_zero, List.set_cons_succ]
      refine takeL (i := 38) (v := ?_) rfl (by kernel_rfl) (by kernel_rfl) (by kernel_rfl) (fun _ _ _ h => h) (Or.inl ⟨by rfl, ?_⟩) Y8.out ?_
      rotate_left
      · intro w hw
        try dsimp only at hw
        go_simp
        try with_reducible rfl
      try simp only [Act.put, List.setIfInBounds_toArray, List.set_cons_zero, List.set_cons_succ]
      refine takeL (i := 39) (v := ?_) rfl (by kernel_rfl) (by kernel_rfl) (by kernel_rfl) (fun _ _ _ h => h) (Or.inl ⟨by rfl, ?_⟩) Y8.out ?_
      rotate_left
      · intro w hw
        try dsimp only at hw
        go_simp
        try with_reducible rfl
      try simp only [Act.put, List.setIfInBounds_toArray, List.set_cons_zero, List.set_cons_succ]
      refine takeL (i := 40) (v := .agg (bv ask).toArray) rfl (by kernel_rfl) (by kernel_rfl) (by kernel_rfl) (fun _ _ _ h => h) (Or.inl ⟨by rfl, fun wz hwz => exec_load_at wz 24 (.tmp 3) rfl ⟨ga, 0, none⟩ (bv ask) _ Try.underlying24 rfl HSQ.out (fun j u hu => by rw [addr_row, Nat.zero_add]; exact ((PR.out.below hwz).a.cell j).trans hu) (by go_simp)⟩) Y8.out ?_
      try simp only [Act.put, List.setIfInBounds_toArray, List.set_cons_zero, List.set_cons_succ]
      refine takeL (i := 42) (v := ?_) rfl (by kernel_rfl) (by kernel_rfl) (by kernel_rfl) (fun _ _ _ h => h) (Or.inl ⟨by rfl, ?_⟩) Y8.out ?_
      rotate_left
      · intro w hw
        try dsimp only at hw
        go_simp
        try with_reducible rfl
      try simp only [Act.put, List.setIfInBounds_toArray, List.set_cons_zero, List.set_cons_succ]
      refine takeL (i := 43) (v := .agg (bv ask).toArray) rfl (by kernel_rfl) (by kernel_rfl) (by kernel_rfl) (fun _ _ _ h => h) (Or.inl ⟨by rfl, fun wz hwz => exec_load_at wz 24 (.tmp 3) rfl ⟨ga, 0, none⟩ (bv ask) _ Try.underlying24 rfl HSQ.out (fun j u hu => by rw [addr_row, Nat.zero_add]; exact ((PR.out.below hwz).a.cell j).trans hu) (by go_simp)⟩) Y8.out ?_
      try simp only [Act.put, List.setIfInBounds_toArray, List.set_cons_zero, List.set_cons_succ]
      refine readyL (i := 41) rfl (by kernel_rfl) (by kernel_rfl) fun K hK => ?_
      go_simp
      refine (get13 sb mb L ask _ (PR.out.below (Y8.out)).s HA.out).mono ?_
      rintro e y9 ⟨rfl, hb⟩
      have Y9 := Lib.hid (show Below wc.heap.size wc y9 from (Y8.out).trans (hb.mono (Y8.out).size))
      clear hb
      refine hK.out _ _ Y9.out ?_
      clear hK K
      try simp only [Act.put, List.setIfInBounds_toArray, List.set_cons_zero, List.set_cons_succ]
      refine readyL (i := 44) rfl (by kernel_rfl) (by kernel_rfl) fun K hK => ?_
      go_simp
      refine (refGet13 pb w.heap.size v L ask _ (PR.out.below (Y9.out)).m HA.out.1 (by omega)).mono ?_
      rintro e y10 ⟨rfl, hb⟩
      have Y10 := Lib.hid (show Below wc.heap.size wc y10 from (Y9.out).trans (hb.mono (Y9.out).size))
      clear hb
      refine hK.out _ _ Y10.out ?_
      clear hK K
      try simp only [Act.put, List.setIfInBounds_toArray, List.set_cons_zero, List.set_cons_succ]
      refine takeL (i := 45) (v := ?_) rfl (by kernel_rfl) (by kernel_rfl) (by kernel_rfl) (fun _ _ _ h => h) (Or.inl ⟨by rfl, ?_⟩) Y10.out ?_
      rotate_left
      · intro w hw
        try dsimp only at hw
        go_simp
        try with_reducible rfl
      try simp only [Act.put, List.setIfInBounds_toArray, List.set_cons_zero, List.set_cons_succ]
      refine takeL (i := 46) (v := ?_) rfl (by kernel_rfl) (by kernel_rfl) (by kernel_rfl) (fun _ _ _ h => h) (Or.inl ⟨by rfl, ?_⟩) Y10.out ?_
      rotate_left
      · intro w hw
        try dsimp only at hw
        go_simp
        try with_reducible rfl
      try simp only [Act.put, List.setIfInBounds_toArray, List.set_cons_zero, List.set_cons_succ]
      refine wpAnyH_done (by kernel_rfl) ?_ _
      clear NEX NEC NEA NBB
      have PE := Lib.hid (PR.out.below Y10.out)
      go_wp2_with fail
      go_roundw
      case rel => exact ⟨k + 1, _, _, _, _, _, _, _, by omega, by go_num, rfl, rfl, PE.out, by omega, by omega⟩
      case measure => simp [intOf]; omega
    · have hke : k = n := by omega
      have hlt' : ¬ (k : Int) < n := by omega
      go_wp2_with fail
      refine (list13 sb mb L wr P0.out.s (by omega)).mono ?_
      rintro e w5 ⟨Al, cl, rfl, ho, hb⟩
      have P5 := Lib.hid (P0.out.below hb)
      have O5 := Lib.hid ho
      have HVW : Hid (∀ g, v.ownBlock = some g → g < wr.heap.size) := Lib.hid fun g hg => (P0.out.m.own.lt g hg).2
      have HWR := Lib.hid P0.out.b.size
      clear ho hb P0
      go_wp2_with fail
      refine (coins13 sb mb L w5 P5.out.s (by omega)).mono ?_
      rintro e w6 ⟨rfl, hb⟩
      have P6 := Lib.hid (P5.out.below hb)
      have O6 := Lib.hid (O5.out.below hb)
      clear hb P5 O5
      go_wp2_with fail
      refine (refCoins13 pb w.heap.size v L w6 P6.out.m (by omega)).mono ?_
      rintro e w7 ⟨rfl, rfl⟩
      obtain ⟨Av, cv, hv, hhv, _, _⟩ := P6.out.m.form
      obtain ⟨Au, cu, hu, hhu, _, _⟩ := P6.out.d.form
      subst hv
      subst hu
      have HV := Lib.hid hhv
      have HU := Lib.hid hhu
      have HL := Lib.hid (O6.out.holds P6.out.s.sto.ok)
      clear hhv hhu hlt' hlt hke
      go_upto_region 29 with fail
      refine wp_region_held_drew (S := (fun V => Below w6.heap.size w6 V)) (by kernel_rfl) (Below.refl w6.heap.size w6).drew (fun _ => ?_)
      refine takeL (i := 0) (v := ?_) rfl (by kernel_rfl) (by kernel_rfl) (by kernel_rfl) (fun _ _ _ h => h) (Or.inl ⟨by rfl, ?_⟩) (Below.refl w6.heap.size w6).drew ?_
      rotate_left
      · intro w hw
        try dsimp only at hw
        go_simp
        try with_reducible rfl
      try simp only [Act.put, List.setIfInBounds_toArray, List.set_cons_zero, List.set_cons_succ]
      refine takeL (i := 1) (v := ?_) rfl (by kernel_rfl) (by kernel_rfl) (by kernel_rfl) (fun _ _ _ h => h) (Or.inl ⟨by rfl, ?_⟩) (Below.refl w6.heap.size w6).drew ?_
      rotate_left
      · intro w hw
        try dsimp only at hw
        go_simp
        try with_reducible rfl
      try simp only [Act.put, List.setIfInBounds_toArray, List.set_cons_zero, List.set_cons_succ]
      refine takeL (i := 2) (v := ?_) rfl (by kernel_rfl) (by kernel_rfl) (by kernel_rfl) (fun _ _ _ h => h) (Or.inl ⟨by rfl, ?_⟩) (Below.refl w6.heap.size w6).drew ?_
      rotate_left
      · intro w hw
        try dsimp only at hw
        go_simp
        try with_reducible rfl
      try simp only [Act.put, List.setIfInBounds_toArray, List.set_cons_zero, List.set_cons_succ]
      refine takeL (i := 3) (v := ?_) rfl (by kernel_rfl) (by kernel_rfl) (by kernel_rfl) (fun _ _ _ h => h) (Or.inl ⟨by rfl, ?_⟩) (Below.refl w6.heap.size w6).drew ?_
      rotate_left
      · intro w hw
        try dsimp only at hw
        go_simp
        try with_reducible rfl
      try simp only [Act.put, List.setIfInBounds_toArray, List.set_cons_zero, List.set_cons_succ]
      refine takeL (i := 4) (v := ?_) rfl (by kernel_rfl) (by kernel_rfl) (by kernel_rfl) (fun _ _ _ h => h) (Or.inl ⟨by rfl, ?_⟩) (Below.refl w6.heap.size w6).drew ?_
      rotate_left
      · intro w hw
        try dsimp only at hw
        have hc := (P6.out.below hw).m.row.cell 0
        go_simp
        try with_reducible rfl
      try simp only [Act.put, List.setIfInBounds_toArray, List.set_cons_zero, List.set_cons_succ]
      refine readyL (i := 5) rfl (by kernel_rfl) (by kernel_rfl) fun K hK => ?_
      go_simp
      refine (sameHolds _ _ _ _ _ L _ _ _ (HL.out.below (Below.refl w6.heap.size w6).drew) (HV.out.below (Below.refl w6.heap.size w6).drew) (by unfold maxLen; omega)).mono ?_
      rintro e y1 ⟨rfl, kd, rfl⟩
      have Z1 := Lib.hid (show Below w6.heap.size w6 (w6.drew.drewN kd) from ((Below.refl w6.heap.size w6).drew).trans ⟨rfl, rfl, rfl, Nat.le_refl _, fun _ _ => rfl⟩)
      generalize World.drewN _ kd = wA at *
      refine hK.out _ _ Z1.out ?_
      clear hK K
      try simp only [Act.put, List.setIfInBounds_toArray, List.set_cons_zero, List.set_cons_succ]
      refine takeL (i := 6) (v := ?_) rfl (by kernel_rfl) (by kernel_rfl) (by kernel_rfl) (fun _ _ _ h => h) (Or.inl ⟨by rfl, ?_⟩) Z1.out ?_
      rotate_left
      · intro w hw
        try dsimp only at hw
        go_simp
        try with_reducible rfl
      try simp only [Act.put, List.setIfInBounds_toArray, List.set_cons_zero, List.set_cons_succ]
      refine takeL (i := 7) (v := ?_) rfl (by kernel_rfl) (by kernel_rfl) (by kernel_rfl) (fun _ _ _ h => h) (Or.inl ⟨by rfl, ?_⟩) Z1.out ?_
      rotate_left
      · intro w hw
        try dsimp only at hw
        go_simp
        try with_reducible rfl
      try simp only [Act.put, List.setIfInBounds_toArray, List.set_cons_zero, List.set_cons_succ]
      refine takeL (i := 8) (v := ?_) rfl (by kernel_rfl) (by kernel_rfl) (by kernel_rfl) (fun _ _ _ h => h) (Or.inl ⟨by rfl, ?_⟩) Z1.out ?_
      rotate_left
      · intro w hw
        try dsimp only at hw
        go_simp
        try with_reducible rfl
      try simp only [Act.put, List.setIfInBounds_toArray, List.set_cons_zero, List.set_cons_succ]
      refine takeL (i := 10) (v := ?_) rfl (by kernel_rfl) (by kernel_rfl) (by kernel_rfl) (fun _ _ _ h => h) (Or.inl ⟨by rfl, ?_⟩) Z1.out ?_
      rotate_left
      · intro w hw
        try dsimp only at hw
        go_simp
        try with_reducible rfl
      try simp only [Act.put, List.setIfInBounds_toArray, List.set_cons_zero, List.set_cons_succ]
      refine takeL (i := 11) (v := ?_) rfl (by kernel_rfl) (by kernel_rfl) (by kernel_rfl) (fun _ _ _ h => h) (Or.inl ⟨by rfl, ?_⟩) Z1.out ?_
      rotate_left
      · intro w hw
        try dsimp only at hw
        go_simp
        try with_reducible rfl
      try simp only [Act.put, List.setIfInBounds_toArray, List.set_cons_zero, List.set_cons_succ]
      refine takeL (i := 12) (v := ?_) rfl (by kernel_rfl) (by kernel_rfl) (by kernel_rfl) (fun _ _ _ h => h) (Or.inl ⟨by rfl, ?_⟩) Z1.out ?_
      rotate_left
      · intro w hw
        try dsimp only at hw
        go_simp
        try with_reducible rfl
      try simp only [Act.put, List.setIfInBounds_toArray, List.set_cons_zero, List.set_cons_succ]
      refine takeL (i := 13) (v := ?_) rfl (by kernel_rfl) (by kernel_rfl) (by kernel_rfl) (fun _ _ _ h => h) (Or.inl ⟨by rfl, ?_⟩) Z1.out ?_
      rotate_left
      · intro w hw
        try dsimp only at hw
        have hc := (P6.out.below hw).d.row.cell 0
        go_simp
        try with_reducible rfl
      try simp only [Act.put, List.setIfInBounds_toArray, List.set_cons_zero, List.set_cons_succ]
      refine readyL (i := 9) rfl (by kernel_rfl) (by kernel_rfl) fun K hK => ?_
      go_simp
      refine (list13 cb db M _ (P6.out.below Z1.out).c (by omega)).mono ?_
      rintro e w8 ⟨Al2, cl2, rfl, ho, hb⟩
      have HC := Lib.hid (ho.holds P6.out.c.sto.ok)
      have Z2 := Lib.hid (Z1.out.trans (hb.mono Z1.out.size))
      clear ho hb
      refine hK.out _ _ Z2.out ?_
      clear hK K
      try simp only [Act.put, List.setIfInBounds_toArray, List.set_cons_zero, List.set_cons_succ]
      refine readyL (i := 14) rfl (by kernel_rfl) (by kernel_rfl) fun K hK => ?_
      go_simp
      refine (sameHolds _ _ _ _ _ M _ _ _ HC.out (HU.out.below Z2.out) (by unfold maxLen; omega)).mono ?_
      rintro e y3 ⟨rfl, kd2, rfl⟩
      have Z3 := Lib.hid (show Below w6.heap.size w6 (w8.drewN kd2) from Z2.out.trans ⟨rfl, rfl, rfl, Nat.le_refl _, fun _ _ => rfl⟩)
      generalize World.drewN _ kd2 = w9 at *
      refine hK.out _ _ Z3.out ?_
      clear hK K
      try simp only [Act.put, List.setIfInBounds_toArray, List.set_cons_zero, List.set_cons_succ]
      refine takeL (i := 15) (v := ?_) rfl (by kernel_rfl) (by kernel_rfl) (by kernel_rfl) (fun _ _ _ h => h) (Or.inl ⟨by rfl, ?_⟩) Z3.out ?_
      rotate_left
      · intro w hw
        try dsimp only at hw
        go_simp
        try with_reducible rfl
      try simp only [Act.put, List.setIfInBounds_toArray, List.set_cons_zero, List.set_cons_succ]
      refine takeL (i := 16) (v := ?_) rfl (by kernel_rfl) (by kernel_rfl) (by kernel_rfl) (fun _ _ _ h => h) (Or.inl ⟨by rfl, ?_⟩) Z3.out ?_
      rotate_left
      · intro w hw
        try dsimp only at hw
        go_simp
        try with_reducible rfl
      try simp only [Act.put, List.setIfInBounds_toArray, List.set_cons_zero, List.set_cons_succ]
      refine takeL (i := 17) (v := ?_) rfl (by kernel_rfl) (by kernel_rfl) (by kernel_rfl) (fun _ _ _ h => h) (Or.inl ⟨by rfl, ?_⟩) Z3.out ?_
      rotate_left
      · intro w hw
        try dsimp only at hw
        go_simp
        try with_reducible rfl
      try simp only [Act.put, List.setIfInBounds_toArray, List.set_cons_zero, List.set_cons_succ]
      refine takeL (i := 18) (v := ?_) rfl (by kernel_rfl) (by kernel_rfl) (by kernel_rfl) (fun _ _ _ h => h) (Or.inl ⟨by rfl, ?_⟩) Z3.out ?_
      rotate_left
      · intro w hw
        try dsimp only at hw
        go_simp
        try with_reducible rfl
      try simp only [Act.put, List.setIfInBounds_toArray, List.set_cons_zero, List.set_cons_succ]
      refine takeL (i := 19) (v := ?_) rfl (by kernel_rfl) (by kernel_rfl) (by kernel_rfl) (fun _ _ _ h => h) (Or.inl ⟨by rfl, ?_⟩) Z3.out ?_
      rotate_left
      · intro w hw
        try dsimp only at hw
        go_simp
        try with_reducible rfl
      try simp only [Act.put, List.setIfInBounds_toArray, List.set_cons_zero, List.set_cons_succ]
      refine takeL (i := 20) (v := ?_) rfl (by kernel_rfl) (by kernel_rfl) (by kernel_rfl) (fun _ _ _ h => h) (Or.inl ⟨by rfl, ?_⟩) Z3.out ?_
      rotate_left
      · intro w hw
        try dsimp only at hw
        go_simp
        try with_reducible rfl
      try simp only [Act.put, List.setIfInBounds_toArray, List.set_cons_zero, List.set_cons_succ]
      refine takeL (i := 21) (v := ?_) rfl (by kernel_rfl) (by kernel_rfl) (by kernel_rfl) (fun _ _ _ h => h) (Or.inl ⟨by rfl, ?_⟩) Z3.out ?_
      rotate_left
      · intro w hw
        try dsimp only at hw
        go_simp
        try with_reducible rfl
      try simp only [Act.put, List.setIfInBounds_toArray, List.set_cons_zero, List.set_cons_succ]
      refine takeL (i := 22) (v := ?_) rfl (by kernel_rfl) (by kernel_rfl) (by kernel_rfl) (fun _ _ _ h => h) (Or.inl ⟨by rfl, ?_⟩) Z3.out ?_
      rotate_left
      · intro w hw
        try dsimp only at hw
        go_simp
        try with_reducible rfl
      try simp only [Act.put, List.setIfInBounds_toArray, List.set_cons_zero, List.set_cons_succ]
      refine takeL (i := 23) (v := ?_) rfl (by kernel_rfl) (by kernel_rfl) (by kernel_rfl) (fun _ _ _ h => h) (Or.inl ⟨by rfl, ?_⟩) Z3.out ?_
      rotate_left
      · intro w hw
        try dsimp only at hw
        go_simp
        try with_reducible rfl
      try simp only [Act.put, List.setIfInBounds_toArray, List.set_cons_zero, List.set_cons_succ]
      refine takeL (i := 24) (v := ?_) rfl (by kernel_rfl) (by kernel_rfl) (by kernel_rfl) (fun _ _ _ h => h) (Or.inl ⟨by rfl, ?_⟩) Z3.out ?_
      rotate_left
      · intro w hw
        try dsimp only at hw
        go_simp
        try with_reducible rfl
      try simp only [Act.put, List.setIfInBounds_toArray, List.set_cons_zero, List.set_cons_succ]
      refine takeL (i := 25) (v := ?_) rfl (by kernel_rfl) (by kernel_rfl) (by kernel_rfl) (fun _ _ _ h => h) (Or.inl ⟨by rfl, ?_⟩) Z3.out ?_
      rotate_left
      · intro w hw
        try dsimp only at hw
        go_simp
        try with_reducible rfl
      try simp only [Act.put, List.setIfInBounds_toArray, List.set_cons_zero, List.set_cons_succ]
      refine takeL (i := 26) (v := ?_) rfl (by kernel_rfl) (by kernel_rfl) (by kernel_rfl) (fun _ _ _ h => h) (Or.inl ⟨by rfl, ?_⟩) Z3.out ?_
      rotate_left
      · intro w hw
        try dsimp only at hw
        go_simp
        try with_reducible rfl
      try simp only [Act.put, List.setIfInBounds_toArray, List.set_cons_zero, List.set_cons_succ]
      refine wpAnyH_done (by kernel_rfl) ?_ _
      have P8 := Lib.hid (P6.out.below Z3.out)
      have O8 := Lib.hid (O6.out.below Z3.out)
      clear P6 O6 HV HU HL HC Z1 Z2 Z3
      go_upto_region 32 with (first
          | ((with_reducible show wpList _ _ _ ({ dst := some 163, op := Op.build _ _, type := _, pos := _, after := _, guard := _ } :: _) _ _); go_must (refine wpList_plain rfl fun K hK => wp_built _ _ _ rfl (by simp only [List.map_toArray, List.map_nil]; exact built_bk0) (hK _ _ ?_)))
          | ((with_reducible show wpList _ _ _ ({ dst := some 16, op := Op.alloc _, type := _, pos := _, after := _, guard := _ } :: _) _ _); go_must (refine wpList_alloc_zero rfl 50 rfl [.slice none 0 0] zero_bk ?_))
          | ((with_reducible show wpList _ _ _ ({ dst := none, op := Op.store 50 _ _, type := _, pos := _, after := _, guard := _ } :: _) _ _); go_must (refine wpList_store_new rfl 50 (.tmp 16) (.tmp 163) rfl [.slice none 0 0] size_bk (by intro u hu; obtain rfl := List.mem_singleton.1 hu; rfl) rfl ?_ ?_ ?_; go_simp; go_simp; intro wb hr hb hz; have RB := Lib.hid hr; have P9 := Lib.hid (P8.out.below hb); have O9 := Lib.hid (O8.out.below hb); clear hr hb hz)))
      obtain ⟨p, hp⟩ : ∃ p, p = w9.heap.size := ⟨_, rfl⟩
      have HNP : Hid ((sb ≠ p ∧ mb ≠ p) ∧ pb ≠ p ∧ w.heap.size ≤ p ∧ (∀ g, (Value.slice Av L.length cv).ownBlock = some g → g ≠ p) ∧ (∀ g, (Value.slice Al L.length cl).ownBlock = some g → g < p)) := Lib.hid (by
        have l1 := P8.out.s.lt
        have l2 := P8.out.m.row.lt
        have l3 := P8.out.b.size
        refine ⟨by omega, by omega, by omega, fun g hg => ?_, fun g hg => ?_⟩
        · have := (P8.out.m.own.lt g hg).2
          omega
        · have := (O8.out.lt g hg).2
          omega)
      rw [← hp] at RB ⊢
      clear hp P8 O8
      obtain ⟨X1, hX1⟩ := ol_sl O9.out
      have HX1 := Lib.hid hX1
      have HB1 := Lib.hid (bkHoldings p p [] X1 wb wb (Bk.at13 RB.out) (by simp))
      rw [← hX1] at HB1
      clear hX1
      go_wp2_with fail
      refine HB1.out.mono ?_
      rintro e wc ⟨rfl, hbk⟩
      have K1 := Lib.hid hbk
      have S11 := Lib.hid (hbk.store P9.out.s HNP.out.1)
      have M11 := Lib.hid (hbk.ref P9.out.m HNP.out.2.1 HNP.out.2.2.2.1)
      have O11 := Lib.hid (hbk.ol13 O9.out (fun g hg => Nat.ne_of_lt (HNP.out.2.2.2.2 g hg)))
      have B11 := Lib.hid (P9.out.b.trans (hbk.bel13 ⟨HNP.out.2.2.1, HNP.out.2.2.1, P9.out.b.size⟩))
      have HPC := Lib.hid hbk.plt
      have HVC : Hid (∀ g, (Value.slice Av L.length cv).ownBlock = some g → g < wc.heap.size) := Lib.hid fun g hg => (M11.out.own.lt g hg).2
      clear hbk HB1 P9 O9 RB
      go_wp2_with fail
      refine (list13 sb mb L wc S11.out (by omega)).mono ?_
      rintro e wd ⟨Al3, cl3, rfl, ho, hb⟩
      have K2 := Lib.hid (K1.out.below13 hb).start
      have S12 := Lib.hid (S11.out.below hb)
      have M12 := Lib.hid (M11.out.below hb)
      have O12 := Lib.hid (O11.out.below hb)
      have Q12 := Lib.hid ho
      have B12 := Lib.hid (B11.out.trans (hb.mono B11.out.size))
      have HQL : Hid (∀ g, (Value.slice Al3 L.length cl3).ownBlock = some g → wc.heap.size ≤ g) := Lib.hid fun g hg => (ho.lt g hg).1
      have HOL : Hid (∀ g, (Value.slice Al L.length cl).ownBlock = some g → g < wc.heap.size) := Lib.hid fun g hg => (O11.out.lt g hg).2
      clear ho hb K1 S11 M11 O11 B11
      obtain ⟨X3, hX3⟩ := ol_sl Q12.out
      have HX3 := Lib.hid hX3
      have HB3 := Lib.hid (bkHoldings p p _ X3 wd wd K2.out (by simp))
      rw [← hX3] at HB3
      clear hX3
      go_wp2_with fail
      refine HB3.out.mono ?_
      rintro e we ⟨rfl, hbk⟩
      have K3 := Lib.hid hbk
      have S13 := Lib.hid (hbk.store S12.out HNP.out.1)
      have M13 := Lib.hid (hbk.ref M12.out HNP.out.2.1 HNP.out.2.2.2.1)
      have O13 := Lib.hid (hbk.ol13 O12.out (fun g hg => Nat.ne_of_lt (HNP.out.2.2.2.2 g hg)))
      have Q13 := Lib.hid (hbk.ol13 Q12.out (fun g hg => by have := HQL.out g hg; have := HPC.out; omega))
      have B13 := Lib.hid (B12.out.trans (hbk.bel13 ⟨HNP.out.2.2.1, HNP.out.2.2.1, B12.out.size⟩))
      clear hbk HB3 K2 S12 M12 O12 Q12 B12
      have hbl : ∀ g ∈ blocks ([] ++ [(X1, Kd.ho)] ++ [(X3, Kd.ho)]), (Value.slice Al L.length cl).ownBlock = some g ∨ (Value.slice Al3 L.length cl3).ownBlock = some g := fun g hg => by
        rw [List.nil_append, blocks_app] at hg
        rcases List.mem_append.1 hg with hg | hg
        · exact .inl (by rw [HX1.out]; exact sl_own (blocks_one _ g hg))
        · exact .inr (by rw [HX3.out]; exact sl_own (blocks_one _ g hg))
      have HBL := Lib.hid hbl
      have HFT : Hid (∀ y ∈ ([] ++ [(X1, Kd.ho)] ++ [(X3, Kd.ho)] : List (Sl × Kd)), SlFit we.drew y) := Lib.hid fun y hy => by
        rcases List.mem_append.1 hy with hy | hy
        · obtain rfl := List.mem_singleton.1 (by simpa using hy)
          exact ol_fit13 (by rw [← HX1.out]; exact O13.out.below (Below.refl _ _).drew)
        · obtain rfl := List.mem_singleton.1 hy
          exact ol_fit13 (by rw [← HX3.out]; exact Q13.out.below (Below.refl _ _).drew)
      have HPW : Hid ((blocks ([] ++ [(X1, Kd.ho)] ++ [(X3, Kd.ho)])).Pairwise (· ≠ ·)) := Lib.hid (by
        rw [List.nil_append, blocks_app]
        refine List.pairwise_append.2 ⟨(pair_one _).imp Nat.ne_of_lt, (pair_one _).imp Nat.ne_of_lt, fun x hx y hy => ?_⟩
        have h1 := HOL.out x (by rw [HX1.out]; exact sl_own (blocks_one _ x hx))
        have h2 := HQL.out y (by rw [HX3.out]; exact sl_own (blocks_one _ y hy))
        omega)
      have KD := Lib.hid (K3.out.below13 (Below.refl we.heap.size we).drew)
      clear hbl
      go_upto_region 34 with fail
      refine wp_region_held_drew (S := (fun V => Row V pb 31 [.slice Av L.length cv])) (by kernel_rfl) (M13.out.below (Below.refl _ _).drew).row (fun _ => ?_)
      refine readyL (i := 0) rfl (by kernel_rfl) (by kernel_rfl) fun K hK => ?_
      go_simp
      refine (apartAt p p _ wd we.drew KD.out HFT.out HPW.out).mono ?_
      rintro e wf ⟨rfl, hot⟩
      have HAB : Hid (∀ k, k < we.heap.size → (∀ g, (Value.slice Al L.length cl).ownBlock = some g → g ≠ k) → (∀ g, (Value.slice Al3 L.length cl3).ownBlock = some g → g ≠ k) → wf.heap[k]? = we.heap[k]?) := Lib.hid fun k hk h1 h2 => hot.block k hk fun hm => by
        rcases HBL.out k hm with h | h
        · exact h1 k h rfl
        · exact h2 k h rfl
      have S14 : Hid (StIn wf sb mb L) := Lib.hid (by
        have hr := S13.out.row
        exact S13.out.keep (HAB.out sb S13.out.lt.1 (fun g hg e => O13.out.row_ne hr (by decide) (by rw [hg, e])) (fun g hg e => Q13.out.row_ne hr (by decide) (by rw [hg, e]))) (HAB.out mb S13.out.lt.2 (S13.out.ol_ne O13.out) (S13.out.ol_ne Q13.out)))
      have M14 : Hid (RS13 wf pb w.heap.size (.slice Av L.length cv) L) := Lib.hid
        ⟨⟨(HAB.out pb M13.out.row.lt (fun g hg e => O13.out.row_ne M13.out.row (by decide) (by rw [hg, e])) (fun g hg e => Q13.out.row_ne M13.out.row (by decide) (by rw [hg, e]))).trans M13.out.row.is⟩,
          own_keep M13.out.own fun g hg => HAB.out g (M13.out.own.lt g hg).2 (fun g' hg' e => by have := (O13.out.lt g' hg').1; have := HVW.out g hg; omega) (fun g' hg' e => by have := HQL.out g' hg'; have := HVC.out g hg; omega), M13.out.sto⟩
      have B14 : Hid (Below w.heap.size w wf) := Lib.hid (B13.out.trans ⟨hot.os, hot.tape, hot.output, hot.size, fun k hk => HAB.out k (Nat.lt_of_lt_of_le hk B13.out.size) (fun g hg e => by have := (O13.out.lt g hg).1; have := HWR.out; omega) (fun g hg e => by have := HQL.out g hg; have := HPC.out; have := HNP.out.2.2.1; omega)⟩)
      clear hot HAB
      refine hK.out _ _ M14.out.row ?_
      clear hK K
      try simp only [Act.put, List.setIfInBounds_toArray, List.set_cons_zero, List.set_cons_succ]
      refine takeL (i := 1) (v := ?_) rfl (by kernel_rfl) (by kernel_rfl) (by kernel_rfl) (fun _ _ _ h => h) (Or.inl ⟨by rfl, ?_⟩) M14.out.row ?_
      rotate_left
      · intro w hw
        try dsimp only at hw
        go_simp
        try with_reducible rfl
      try simp only [Act.put, List.setIfInBounds_toArray, List.set_cons_zero, List.set_cons_succ]
      refine takeL (i := 2) (v := ?_) rfl (by kernel_rfl) (by kernel_rfl) (by kernel_rfl) (fun _ _ _ h => h) (Or.inl ⟨by rfl, ?_⟩) M14.out.row ?_
      rotate_left
      · intro w hw
        try dsimp only at hw
        go_simp
        try with_reducible rfl
      try simp only [Act.put, List.setIfInBounds_toArray, List.set_cons_zero, List.set_cons_succ]
      refine takeL (i := 4) (v := ?_) rfl (by kernel_rfl) (by kernel_rfl) (by kernel_rfl) (fun _ _ _ h => h) (Or.inl ⟨by rfl, ?_⟩) M14.out.row ?_
      rotate_left
      · intro w hw
        try dsimp only at hw
        go_simp
        try with_reducible rfl
      try simp only [Act.put, List.setIfInBounds_toArray, List.set_cons_zero, List.set_cons_succ]
      refine takeL (i := 5) (v := ?_) rfl (by kernel_rfl) (by kernel_rfl) (by kernel_rfl) (fun _ _ _ h => h) (Or.inl ⟨by rfl, ?_⟩) M14.out.row ?_
      rotate_left
      · intro w hw
        try dsimp only at hw
        go_simp
        try with_reducible rfl
      try simp only [Act.put, List.setIfInBounds_toArray, List.set_cons_zero, List.set_cons_succ]
      refine takeL (i := 6) (v := ?_) rfl (by kernel_rfl) (by kernel_rfl) (by kernel_rfl) (fun _ _ _ h => h) (Or.inl ⟨by rfl, ?_⟩) M14.out.row ?_
      rotate_left
      · intro w hw
        try dsimp only at hw
        go_simp
        try with_reducible rfl
      try simp only [Act.put, List.setIfInBounds_toArray, List.set_cons_zero, List.set_cons_succ]
      refine takeL (i := 7) (v := ?_) rfl (by kernel_rfl) (by kernel_rfl) (by kernel_rfl) (fun _ _ _ h => h) (Or.inl ⟨by rfl, ?_⟩) M14.out.row ?_
      rotate_left
      · intro w hw
        try dsimp only at hw
        have hc := hw.cell 0
        go_simp
        try with_reducible rfl
      try simp only [Act.put, List.setIfInBounds_toArray, List.set_cons_zero, List.set_cons_succ]
      refine readyL (i := 3) rfl (by kernel_rfl) (by kernel_rfl) fun K hK => ?_
      go_simp
      refine (list13 sb mb L wf S14.out (by omega)).mono ?_
      rintro e wg ⟨Al4, cl4, rfl, ho, hb⟩
      have H4 := Lib.hid (ho.holds S14.out.sto.ok)
      have M15 := Lib.hid (M14.out.below hb)
      have B15 := Lib.hid (B14.out.trans (hb.mono B14.out.size))
      clear ho hb
      refine hK.out _ _ M15.out.row ?_
      clear hK K
      try simp only [Act.put, List.setIfInBounds_toArray, List.set_cons_zero, List.set_cons_succ]
      refine readyL (i := 8) rfl (by kernel_rfl) (by kernel_rfl) fun K hK => ?_
      go_simp
      refine (sameHolds _ _ _ _ _ L _ _ _ H4.out M15.out.holds (by unfold maxLen; omega)).mono ?_
      rintro e y5 ⟨rfl, kd5, rfl⟩
      have M16 := Lib.hid (M15.out.below (show Below wg.heap.size wg (wg.drewN kd5) from ⟨rfl, rfl, rfl, Nat.le_refl _, fun _ _ => rfl⟩))
      have B16 := Lib.hid (show Below w.heap.size w (wg.drewN kd5) from B15.out.trans ⟨rfl, rfl, rfl, Nat.le_refl _, fun _ _ => rfl⟩)
      generalize World.drewN _ kd5 = wi at *
      refine hK.out _ _ M16.out.row ?_
      clear hK K
      try simp only [Act.put, List.setIfInBounds_toArray, List.set_cons_zero, List.set_cons_succ]
      refine takeL (i := 9) (v := ?_) rfl (by kernel_rfl) (by kernel_rfl) (by kernel_rfl) (fun _ _ _ h => h) (Or.inl ⟨by rfl, ?_⟩) M16.out.row ?_
      rotate_left
      · intro w hw
        try dsimp only at hw
        go_simp
        try with_reducible rfl
      try simp only [Act.put, List.setIfInBounds_toArray, List.set_cons_zero, List.set_cons_succ]
      refine takeL (i := 10) (v := ?_) rfl (by kernel_rfl) (by kernel_rfl) (by kernel_rfl) (fun _ _ _ h => h) (Or.inl ⟨by rfl, ?_⟩) M16.out.row ?_
      rotate_left
      · intro w hw
        try dsimp only at hw
        go_simp
        try with_reducible rfl
      try simp only [Act.put, List.setIfInBounds_toArray, List.set_cons_zero, List.set_cons_succ]
      refine readyL (i := 11) rfl (by kernel_rfl) (by kernel_rfl) fun K hK => ?_
      go_simp
      refine (lives13 _).mono ?_
      rintro e wj ⟨rfl, hb⟩
      have M17 := Lib.hid (M16.out.below hb)
      have B17 := Lib.hid (B16.out.trans (hb.mono B16.out.size))
      clear hb
      refine hK.out _ _ M17.out.row ?_
      clear hK K
      try simp only [Act.put, List.setIfInBounds_toArray, List.set_cons_zero, List.set_cons_succ]
      refine takeL (i := 12) (v := ?_) rfl (by kernel_rfl) (by kernel_rfl) (by kernel_rfl) (fun _ _ _ h => h) (Or.inl ⟨by rfl, ?_⟩) M17.out.row ?_
      rotate_left
      · intro w hw
        try dsimp only at hw
        go_simp
        try with_reducible rfl
      try simp only [Act.put, List.setIfInBounds_toArray, List.set_cons_zero, List.set_cons_succ]
      refine takeL (i := 13) (v := ?_) rfl (by kernel_rfl) (by kernel_rfl) (by kernel_rfl) (fun _ _ _ h => h) (Or.inl ⟨by rfl, ?_⟩) M17.out.row ?_
      rotate_left
      · intro w hw
        try dsimp only at hw
        go_simp
        try with_reducible rfl
      try simp only [Act.put, List.setIfInBounds_toArray, List.set_cons_zero, List.set_cons_succ]
      refine wpAnyH_done (by kernel_rfl) ?_ _
      go_wp2_with fail
      go_ret
      exact ⟨rfl, B17.out⟩
end Go.Proofs.Ytpkkgmmcindfgaa

/-
  Of part NoneWalk13: what is needed here.
-/
namespace Go.Proofs.Ytpkkgmmcindfgaa
open Go.RowKit Go.Maps
set_option linter.unusedVariables false
set_option maxRecDepth 100000
set_option maxHeartbeats 1000000 in
theorem list_nq13 (v : Value) (V : World) (hv : NoSt V v) : Calls Try.prog 18 #[v] V fun e w' => e = .returned (.slice none 0 0) ∧ V = w' := by
  have HT0 := Lib.hid (noth13 v V hv)
  clear hv
  go_enter Try.func18, Try.ntmps18
  go_wp2_with fail
  refine HT0.out.mono ?_
  rintro e w' ⟨rfl, rfl⟩
  go_wp2_with fail
  go_ret
  exact ⟨rfl, rfl⟩
set_option maxHeartbeats 1000000 in
theorem coins_nq13 (v : Value) (V : World) (hv : NoSt V v) : Calls Try.prog 19 #[v] V fun e w' => e = .returned (.tuple #[.int .u64 0, .int .u64 0]) ∧ V = w' := by
  have HT0 := Lib.hid (noth13 v V hv)
  clear hv
  go_enter Try.func19, Try.ntmps19
  go_wp2_with fail
  refine HT0.out.mono ?_
  rintro e w' ⟨rfl, rfl⟩
  go_wp2_with fail
  go_ret2
  exact ⟨rfl, rfl⟩
set_option maxHeartbeats 1000000 in
theorem copy_nq13 (v : Value) (V : World) (hv : NoSt V v) : Calls Try.prog 10 #[v] V fun e w' => e = .returned (.pointer none) ∧ V = w' := by
  have HT0 := Lib.hid (noth13 v V hv)
  clear hv
  go_enter Try.func10, Try.ntmps10
  go_wp2_with fail
  refine HT0.out.mono ?_
  rintro e w' ⟨rfl, rfl⟩
  go_wp2_with fail
  go_ret
  exact ⟨rfl, rfl⟩
set_option maxHeartbeats 1000000 in
theorem same_nn13 (v : Value) (V : World) (hv : NoSt V v) : Calls Try.prog 16 #[v, .pointer none] V fun e w' => e = .returned (.bool true) ∧ V = w' := by
  have HT0 := Lib.hid (noth13 v V hv)
  have HT1 := Lib.hid (noth13 v V hv)
  have HT2 := Lib.hid (noth13 (.pointer none) V (.inl rfl))
  clear hv
  go_enter Try.func16, Try.ntmps16
  go_wp2_with fail
  refine HT0.out.mono ?_
  rintro e w' ⟨rfl, rfl⟩
  go_wp2_with fail
  refine HT1.out.mono ?_
  rintro e w' ⟨rfl, rfl⟩
  go_wp2_with fail
  refine HT2.out.mono ?_
  rintro e w' ⟨rfl, rfl⟩
  go_wp2_with fail
  go_ret
  exact ⟨rfl, rfl⟩
set_option maxHeartbeats 1000000 in
theorem same_ny13 (v : Value) (sb mb : Nat) (L : List LHold) (V : World) (hv : NoSt V v) (hs : StIn V sb mb L) : Calls Try.prog 16 #[v, .pointer (some ⟨sb, 0, none⟩)] V fun e w' => e = .returned (.bool false) ∧ V = w' := by
  have HT0 := Lib.hid (noth13 v V hv)
  have HT1 := Lib.hid (noth13 v V hv)
  have HT2 := Lib.hid (there13 sb mb L V hs)
  clear hv hs
  go_enter Try.func16, Try.ntmps16
  go_wp2_with fail
  refine HT0.out.mono ?_
  rintro e w' ⟨rfl, rfl⟩
  go_wp2_with fail
  refine HT1.out.mono ?_
  rintro e w' ⟨rfl, rfl⟩
  go_wp2_with fail
  refine HT2.out.mono ?_
  rintro e w' ⟨rfl, rfl⟩
  go_wp2_with fail
  go_ret
  exact ⟨rfl, rfl⟩
set_option maxHeartbeats 1000000 in
theorem same_yn13 (v : Value) (sb mb : Nat) (L : List LHold) (V : World) (hv : NoSt V v) (hs : StIn V sb mb L) : Calls Try.prog 16 #[.pointer (some ⟨sb, 0, none⟩), v] V fun e w' => e = .returned (.bool false) ∧ V = w' := by
  have HT0 := Lib.hid (there13 sb mb L V hs)
  have HT1 := Lib.hid (noth13 v V hv)
  have HT2 := Lib.hid (there13 sb mb L V hs)
  have HT3 := Lib.hid (noth13 v V hv)
  clear hv hs
  go_enter Try.func16, Try.ntmps16
  go_wp2_with fail
  refine HT0.out.mono ?_
  rintro e w' ⟨rfl, rfl⟩
  go_wp2_with fail
  refine HT1.out.mono ?_
  rintro e w' ⟨rfl, rfl⟩
  go_wp2_with fail
  refine HT2.out.mono ?_
  rintro e w' ⟨rfl, rfl⟩
  go_wp2_with fail
  refine HT3.out.mono ?_
  rintro e w' ⟨rfl, rfl⟩
  go_wp2_with fail
  go_ret
  exact ⟨rfl, rfl⟩
set_option maxHeartbeats 1000000 in
theorem put_nq13 (v : Value) (k : List Int) (a : LAcc) (V : World) (hv : NoSt V v) : Calls Try.prog 12 #[v, .agg (bv k).toArray, .agg a.cells.toArray] V fun e w' => e = .returned (.int .i64 2) ∧ Below V.heap.size V w' := by
  have hbw := ((Below.refl V.heap.size V).alloc (Nat.le_refl _) (.cells (bv k).toArray 24)).alloc (by simp) (.cells a.cells.toArray 35)
  have HT := Lib.hid (noth13 v _ (hv.below hbw))
  have HB := Lib.hid hbw
  clear hv hbw
  go_enter Try.func12, Try.ntmps12
  go_wp2_with fail
  refine HT.out.mono ?_
  rintro e w' ⟨rfl, rfl⟩
  go_wp2_with fail
  go_ret
  exact ⟨rfl, HB.out⟩
set_option maxHeartbeats 1000000 in
theorem get_nq13 (v : Value) (k : List Int) (V : World) (hv : NoSt V v) : Calls Try.prog 14 #[v, .agg (bv k).toArray] V fun e w' => e = .returned (.agg blank13.cells.toArray) ∧ Below V.heap.size V w' := by
  have hbw := ((Below.refl V.heap.size V).alloc (Nat.le_refl _) (.cells (bv k).toArray 24)).alloc (by simp) (.cells blank13.cells.toArray 35)
  have HT := Lib.hid (noth13 v _ (hv.below hbw))
  have RF0 := Lib.hid (Row.new' (V.alloc (.cells (bv k).toArray 24)) 35 blank13.cells (g := V.heap.size + 1) (by simp))
  have HBL := Lib.hid (size_acc (a := blank13) rfl)
  have HB := Lib.hid hbw
  clear hv hbw
  obtain ⟨f, hf⟩ : ∃ f, f = V.heap.size + 1 := ⟨_, rfl⟩
  have HF : Hid (V.heap.size + 1 = f) := Lib.hid hf.symm
  have HFG : Hid (V.heap.size ≤ f) := Lib.hid (by omega)
  rw [← hf] at RF0
  clear hf
  generalize hWW : (V.alloc (.cells (bv k).toArray 24)).alloc (.cells blank13.cells.toArray 35) = W at *
  have HWW := Lib.hid hWW
  clear hWW
  go_enter Try.func14, Try.ntmps14
  go_wp2_with ((with_reducible show wpList _ _ _ ({ dst := some 4, op := Op.alloc _, type := _, pos := _, after := _, guard := _ } :: _) _ _); go_must (refine wpList_alloc_zero rfl 35 rfl blank13.cells zero_acc ?_))
  rw [HF.out, HWW.out]
  clear HF HWW
  refine HT.out.mono ?_
  rintro e w' ⟨rfl, rfl⟩
  go_wp2_with (first
    | ((with_reducible show wpList _ _ _ ({ dst := some 8, op := Op.build _ _, type := _, pos := _, after := _, guard := _ } :: _) _ _); go_must (refine wpList_plain rfl fun K hK => wp_built _ _ _ rfl (by simp only [List.map_toArray, List.map_nil]; exact built_blank) (hK _ _ ?_)))
    | ((with_reducible show wpList _ _ _ ({ dst := none, op := Op.store 35 _ _, type := _, pos := _, after := _, guard := _ } :: _) _ _); go_must (refine wpList_store_whole rfl 35 (.tmp 4) (.tmp 8) rfl f blank13.cells blank13.cells RF0.out HBL.out rfl (acc_one _) ?_ ?_ ?_; go_simp; go_simp; intro w5 hr1 ht1; have R5 := Lib.hid hr1; have T5 := Lib.hid ht1; clear hr1 ht1)))
  refine bodyPost_ret (results_cell_row (h := rfl) _ w5 f 35 _ (0, 0) _ (by rfl) R5.out.is Try.underlying35 rfl HBL.out) rfl ?_
  exact ⟨rfl, HB.out.trans (T5.out.below HFG.out)⟩
/-- what stays while the call works -/
structure NS13 (w V : World) (gs g : Nat) (x : LAct13) (v1 : Value) : Prop where
  b : Below w.heap.size w V
  row : Row V gs 26 [.pointer none, v1]
  hr : Row V g 37 x.cells
  nq : NoSt V v1
theorem NS13.below {w V V' : World} {gs g : Nat} {x : LAct13} {v1 : Value} (n : NS13 w V gs g x v1) (hb : Below V.heap.size V V') : NS13 w V' gs g x v1 :=
  ⟨n.b.trans (hb.mono n.b.size), n.row.below hb n.row.lt, n.hr.below hb n.hr.lt, n.nq.below hb⟩
theorem NS13.at_ {w : World} {gs g k : Nat} {x : LAct13} {v1 : Value} (hk : k < 2) : ∃ v, ∀ V, NS13 w V gs g x v1 → V.cell? ⟨gs, k, none⟩ = some v ∧ NoSt V v := by
  match k, hk with
  | 0, _ => exact ⟨_, fun V n => ⟨n.row.cell 0, .inl rfl⟩⟩
  | 1, _ => exact ⟨_, fun V n => ⟨n.row.cell 1, n.nq⟩⟩
set_option maxHeartbeats 16000000 in
theorem none_walk13 (x : LAct13) (w : World) (hx : ActOk13 x) : Calls Try.prog 4 #[.agg x.cells.toArray] w fun e w' => e = .returned (.bool true) ∧ Below w.heap.size w w' := by
  have HX := Lib.hid hx
  have HSK : Hid ((Try.prog.info? 24).map (·.size) = some (bv x.k).length) := Lib.hid (by rw [size_key, bv_length, hx.k.1])
  have HSA := Lib.hid (size_acc hx.a.o.1)
  have HNB := Lib.hid (show ∀ w, (binOp .neq 35 (.agg blank13.cells.toArray) (.agg blank13.cells.toArray)).run Try.prog w = .ok (.bool false) w from fun w => by rw [acc_neq rfl rfl, decide_eq_true rfl]; rfl)
  have r0 := ((Row.new w 37 x.cells).alloc (.cells ([.map none] : List Value).toArray 55)).alloc (.cells ([.pointer none, .pointer (some ⟨w.heap.size + 1, 0, none⟩)] : List Value).toArray 26)
  have r1 := (Row.new' (w.alloc (.cells x.cells.toArray 37)) 55 [.map none] (g := w.heap.size + 1) (by simp)).alloc (.cells ([.pointer none, .pointer (some ⟨w.heap.size + 1, 0, none⟩)] : List Value).toArray 26)
  have r2 := Row.new' ((w.alloc (.cells x.cells.toArray 37)).alloc (.cells ([.map none] : List Value).toArray 55)) 26 [.pointer none, .pointer (some ⟨w.heap.size + 1, 0, none⟩)] (g := w.heap.size + 1 + 1) (by simp)
  have hbw := (((Below.refl w.heap.size w).alloc (Nat.le_refl _) (.cells x.cells.toArray 37)).alloc (by simp) (.cells ([.map none] : List Value).toArray 55)).alloc (by simp; omega) (.cells ([.pointer none, .pointer (some ⟨w.heap.size + 1, 0, none⟩)] : List Value).toArray 26)
  have N0 := Lib.hid (show NS13 w _ (w.heap.size + 1 + 1) w.heap.size x (.pointer (some ⟨w.heap.size + 1, 0, none⟩)) from ⟨hbw, r2, r0, .inr ⟨_, rfl, r1⟩⟩)
  clear r0 r1 r2 hbw hx
  go_enter Try.func4, Try.ntmps4
  go_upto_region 3 with fail
  try rw [show (Obj.cells #[Value.map none] 55) = Obj.cells ([.map none] : List Value).toArray 55 from rfl]
  generalize hW : ((w.alloc (.cells x.cells.toArray 37)).alloc (.cells ([.map none] : List Value).toArray 55)).alloc (.cells ([.pointer none, .pointer (some ⟨w.heap.size + 1, 0, none⟩)] : List Value).toArray 26) = W at *
  generalize hv1 : Value.pointer (some ⟨w.heap.size + 1, 0, none⟩) = v1 at *
  generalize hgs : w.heap.size + 1 + 1 = gs at *
  clear hW hv1 hgs
  obtain ⟨g, hg⟩ : ∃ g, g = w.heap.size := ⟨_, rfl⟩
  have N1 : Hid (NS13 w W gs g x v1) := Lib.hid (by rw [hg]; exact N0.out)
  rw [← hg]
  clear hg N0
  go_loopw [4] (fun i wr => ∃ k : Nat, k ≤ 2 ∧ i = .int .i64 k ∧ NS13 w wr gs g x v1) (fun i _ => 2 - (intOf i).toNat)
  case atStart => exact ⟨0, by omega, rfl, N1.out⟩
  case round =>
    obtain ⟨k, hk, rfl, hn⟩ := hrel
    have N2 := Lib.hid hn
    clear hn N1
    by_cases hlt : k < 2
    · have hlt' : (k : Int) < 2 := by omega
      obtain ⟨v, hv⟩ := NS13.at_ (w := w) (gs := gs) (g := g) (x := x) (v1 := v1) hlt
      have HV := Lib.hid hv
      have hcw := (hv _ N2.out).1
      clear hv
      go_wp2_with fail
      refine (coins_nq13 v _ (HV.out _ N2.out).2).mono ?_
      rintro e w' ⟨rfl, rfl⟩
      go_upto_region 6 with fail
      clear hcw
      have NBL := HNB.out
      have M0 := Lib.hid (N2.out.below (Below.refl _ _).drew)
      refine wp_region_held_drew (S := (fun V => NS13 w V gs g x v1)) (by kernel_rfl) M0.out (fun _ => ?_)
      try dsimp only [List.append]
      refine takeL (i := 0) (v := ?_) rfl (by kernel_rfl) (by kernel_rfl) (by kernel_rfl) (fun _ _ _ h => h) (Or.inl ⟨by rfl, ?_⟩) M0.out ?_
      rotate_left
      · intro w hw
        try dsimp only at hw
        have hc := (HV.out _ hw).1
        go_simp
        try with_reducible rfl
      try simp only [Act.put, List.setIfInBounds_toArray, List.set_cons_zero, List.set_cons_succ]
      refine takeL (i := 1) (v := ?_) rfl (by kernel_rfl) (by kernel_rfl) (by kernel_rfl) (fun _ _ _ h => h) (Or.inl ⟨by rfl, ?_⟩) M0.out ?_
      rotate_left
      · intro w hw
        try dsimp only at hw
        have hc := (HV.out _ hw).1
        go_simp
        try with_reducible rfl
      try simp only [Act.put, List.setIfInBounds_toArray, List.set_cons_zero, List.set_cons_succ]
      refine takeL (i := 2) (v := ?_) rfl (by kernel_rfl) (by kernel_rfl) (by kernel_rfl) (fun _ _ _ h => h) (Or.inl ⟨by rfl, ?_⟩) M0.out ?_
      rotate_left
      · intro w hw
        try dsimp only at hw
        have hc := (HV.out _ hw).1
        go_simp
        try with_reducible rfl
      try simp only [Act.put, List.setIfInBounds_toArray, List.set_cons_zero, List.set_cons_succ]
      refine takeL (i := 3) (v := ?_) rfl (by kernel_rfl) (by kernel_rfl) (by kernel_rfl) (fun _ _ _ h => h) (Or.inl ⟨by rfl, ?_⟩) M0.out ?_
      rotate_left
      · intro w hw
        try dsimp only at hw
        have hc := (HV.out _ hw).1
        go_simp
        try with_reducible rfl
      try simp only [Act.put, List.setIfInBounds_toArray, List.set_cons_zero, List.set_cons_succ]
      refine takeL (i := 4) (v := ?_) rfl (by kernel_rfl) (by kernel_rfl) (by kernel_rfl) (fun _ _ _ h => h) (Or.inl ⟨by rfl, ?_⟩) M0.out ?_
      rotate_left
      · intro w hw
        try dsimp only at hw
        have hc := (HV.out _ hw).1
        go_simp
        try with_reducible rfl
      try simp only [Act.put, List.setIfInBounds_toArray, List.set_cons_zero, List.set_cons_succ]
      refine takeL (i := 5) (v := .agg (bv x.k).toArray) rfl (by kernel_rfl) (by kernel_rfl) (by kernel_rfl) (fun _ _ _ h => h) (Or.inl ⟨by rfl, fun wz hwz => exec_load_at wz 24 (.tmp 28) rfl ⟨g, 1, none⟩ (bv x.k) _ Try.underlying24 rfl HSK.out (fun j u hu => by rw [addr_row]; exact (hwz.hr.cell _).trans (act13_k hu)) (by go_simp)⟩) M0.out ?_
      try simp only [Act.put, List.setIfInBounds_toArray, List.set_cons_zero, List.set_cons_succ]
      refine takeL (i := 6) (v := ?_) rfl (by kernel_rfl) (by kernel_rfl) (by kernel_rfl) (fun _ _ _ h => h) (Or.inl ⟨by rfl, ?_⟩) M0.out ?_
      rotate_left
      · intro w hw
        try dsimp only at hw
        have hc := (HV.out _ hw).1
        go_simp
        try with_reducible rfl
      try simp only [Act.put, List.setIfInBounds_toArray, List.set_cons_zero, List.set_cons_succ]
      refine takeL (i := 7) (v := .agg x.a.cells.toArray) rfl (by kernel_rfl) (by kernel_rfl) (by kernel_rfl) (fun _ _ _ h => h) (Or.inl ⟨by rfl, fun wz hwz => exec_load_at wz 35 (.tmp 30) rfl ⟨g, 33, none⟩ x.a.cells _ Try.underlying35 rfl HSA.out (fun j u hu => by rw [addr_row]; exact (hwz.hr.cell _).trans (act13_a HX.out.k.1 hu)) (by go_simp)⟩) M0.out ?_
      try simp only [Act.put, List.setIfInBounds_toArray, List.set_cons_zero, List.set_cons_succ]
      refine readyL (i := 8) rfl (by kernel_rfl) (by kernel_rfl) fun K hK => ?_
      go_simp
      refine (put_nq13 v x.k x.a _ (HV.out _ M0.out).2).mono ?_
      rintro e y1 ⟨rfl, hb⟩
      have M1 := Lib.hid (M0.out.below hb)
      clear hb
      refine hK.out _ _ M1.out ?_
      clear hK K
      try simp only [Act.put, List.setIfInBounds_toArray, List.set_cons_zero, List.set_cons_succ]
      refine takeL (i := 9) (v := ?_) rfl (by kernel_rfl) (by kernel_rfl) (by kernel_rfl) (fun _ _ _ h => h) (Or.inl ⟨by rfl, ?_⟩) M1.out ?_
      rotate_left
      · intro w hw
        try dsimp only at hw
        have hc := (HV.out _ hw).1
        go_simp
        try with_reducible rfl
      try simp only [Act.put, List.setIfInBounds_toArray, List.set_cons_zero, List.set_cons_succ]
      refine takeL (i := 10) (v := ?_) rfl (by kernel_rfl) (by kernel_rfl) (by kernel_rfl) (fun _ _ _ h => h) (Or.inl ⟨by rfl, ?_⟩) M1.out ?_
      rotate_left
      · intro w hw
        try dsimp only at hw
        have hc := (HV.out _ hw).1
        go_simp
        try with_reducible rfl
      try simp only [Act.put, List.setIfInBounds_toArray, List.set_cons_zero, List.set_cons_succ]
      refine takeL (i := 11) (v := ?_) rfl (by kernel_rfl) (by kernel_rfl) (by kernel_rfl) (fun _ _ _ h => h) (Or.inl ⟨by rfl, ?_⟩) M1.out ?_
      rotate_left
      · intro w hw
        try dsimp only at hw
        have hc := (HV.out _ hw).1
        go_simp
        try with_reducible rfl
      try simp only [Act.put, List.setIfInBounds_toArray, List.set_cons_zero, List.set_cons_succ]
      refine takeL (i := 12) (v := ?_) rfl (by kernel_rfl) (by kernel_rfl) (by kernel_rfl) (fun _ _ _ h => h) (Or.inl ⟨by rfl, ?_⟩) M1.out ?_
      rotate_left
      · intro w hw
        try dsimp only at hw
        have hc := (HV.out _ hw).1
        go_simp
        try with_reducible rfl
      try simp only [Act.put, List.setIfInBounds_toArray, List.set_cons_zero, List.set_cons_succ]
      refine takeL (i := 13) (v := ?_) rfl (by kernel_rfl) (by kernel_rfl) (by kernel_rfl) (fun _ _ _ h => h) (Or.inl ⟨by rfl, ?_⟩) M1.out ?_
      rotate_left
      · intro w hw
        try dsimp only at hw
        have hc := (HV.out _ hw).1
        go_simp
        try with_reducible rfl
      try simp only [Act.put, List.setIfInBounds_toArray, List.set_cons_zero, List.set_cons_succ]
      refine takeL (i := 14) (v := ?_) rfl (by kernel_rfl) (by kernel_rfl) (by kernel_rfl) (fun _ _ _ h => h) (Or.inl ⟨by rfl, ?_⟩) M1.out ?_
      rotate_left
      · intro w hw
        try dsimp only at hw
        have hc := (HV.out _ hw).1
        go_simp
        try with_reducible rfl
      try simp only [Act.put, List.setIfInBounds_toArray, List.set_cons_zero, List.set_cons_succ]
      refine takeL (i := 15) (v := ?_) rfl (by kernel_rfl) (by kernel_rfl) (by kernel_rfl) (fun _ _ _ h => h) (Or.inl ⟨by rfl, ?_⟩) M1.out ?_
      rotate_left
      · intro w hw
        try dsimp only at hw
        have hc := (HV.out _ hw).1
        go_simp
        try with_reducible rfl
      try simp only [Act.put, List.setIfInBounds_toArray, List.set_cons_zero, List.set_cons_succ]
      refine takeL (i := 16) (v := .agg (bv x.k).toArray) rfl (by kernel_rfl) (by kernel_rfl) (by kernel_rfl) (fun _ _ _ h => h) (Or.inl ⟨by rfl, fun wz hwz => exec_load_at wz 24 (.tmp 39) rfl ⟨g, 1, none⟩ (bv x.k) _ Try.underlying24 rfl HSK.out (fun j u hu => by rw [addr_row]; exact (hwz.hr.cell _).trans (act13_k hu)) (by go_simp)⟩) M1.out ?_
      try simp only [Act.put, List.setIfInBounds_toArray, List.set_cons_zero, List.set_cons_succ]
      refine takeL (i := 18) (v := .agg blank13.cells.toArray) rfl (by kernel_rfl) (by kernel_rfl) (by kernel_rfl) (fun _ _ _ h => h) (Or.inl ⟨by rfl, fun wz hwz => exec_built wz 35 _ _ rfl (by simp only [List.map_toArray, List.map_nil]; exact built_blank)⟩) M1.out ?_
      try simp only [Act.put, List.setIfInBounds_toArray, List.set_cons_zero, List.set_cons_succ]
      refine readyL (i := 17) rfl (by kernel_rfl) (by kernel_rfl) fun K hK => ?_
      go_simp
      refine (get_nq13 v x.k _ (HV.out _ M1.out).2).mono ?_
      rintro e y2 ⟨rfl, hb⟩
      have M2 := Lib.hid (M1.out.below hb)
      clear hb
      refine hK.out _ _ M2.out ?_
      clear hK K
      try simp only [Act.put, List.setIfInBounds_toArray, List.set_cons_zero, List.set_cons_succ]
      refine takeL (i := 19) (v := ?_) rfl (by kernel_rfl) (by kernel_rfl) (by kernel_rfl) (fun _ _ _ h => h) (Or.inl ⟨by rfl, ?_⟩) M2.out ?_
      rotate_left
      · intro w hw
        try dsimp only at hw
        have hc := (HV.out _ hw).1
        go_simp
        try with_reducible rfl
      try simp only [Act.put, List.setIfInBounds_toArray, List.set_cons_zero, List.set_cons_succ]
      refine takeL (i := 20) (v := ?_) rfl (by kernel_rfl) (by kernel_rfl) (by kernel_rfl) (fun _ _ _ h => h) (Or.inl ⟨by rfl, ?_⟩) M2.out ?_
      rotate_left
      · intro w hw
        try dsimp only at hw
        have hc := (HV.out _ hw).1
        go_simp
        try with_reducible rfl
      try simp only [Act.put, List.setIfInBounds_toArray, List.set_cons_zero, List.set_cons_succ]
      refine takeL (i := 21) (v := ?_) rfl (by kernel_rfl) (by kernel_rfl) (by kernel_rfl) (fun _ _ _ h => h) (Or.inl ⟨by rfl, ?_⟩) M2.out ?_
      rotate_left
      · intro w hw
        try dsimp only at hw
        have hc := (HV.out _ hw).1
        go_simp
        try with_reducible rfl
      try simp only [Act.put, List.setIfInBounds_toArray, List.set_cons_zero, List.set_cons_succ]
      refine takeL (i := 22) (v := ?_) rfl (by kernel_rfl) (by kernel_rfl) (by kernel_rfl) (fun _ _ _ h => h) (Or.inl ⟨by rfl, ?_⟩) M2.out ?_
      rotate_left
      · intro w hw
        try dsimp only at hw
        have hc := (HV.out _ hw).1
        go_simp
        try with_reducible rfl
      try simp only [Act.put, List.setIfInBounds_toArray, List.set_cons_zero, List.set_cons_succ]
      refine takeL (i := 23) (v := ?_) rfl (by kernel_rfl) (by kernel_rfl) (by kernel_rfl) (fun _ _ _ h => h) (Or.inl ⟨by rfl, ?_⟩) M2.out ?_
      rotate_left
      · intro w hw
        try dsimp only at hw
        have hc := (HV.out _ hw).1
        go_simp
        try with_reducible rfl
      try simp only [Act.put, List.setIfInBounds_toArray, List.set_cons_zero, List.set_cons_succ]
      refine takeL (i := 24) (v := ?_) rfl (by kernel_rfl) (by kernel_rfl) (by kernel_rfl) (fun _ _ _ h => h) (Or.inl ⟨by rfl, ?_⟩) M2.out ?_
      rotate_left
      · intro w hw
        try dsimp only at hw
        have hc := (HV.out _ hw).1
        go_simp
        try with_reducible rfl
      try simp only [Act.put, List.setIfInBounds_toArray, List.set_cons_zero, List.set_cons_succ]
      refine takeL (i := 25) (v := ?_) rfl (by kernel_rfl) (by kernel_rfl) (by kernel_rfl) (fun _ _ _ h => h) (Or.inl ⟨by rfl, ?_⟩) M2.out ?_
      rotate_left
      · intro w hw
        try dsimp only at hw
        have hc := (HV.out _ hw).1
        go_simp
        try with_reducible rfl
      try simp only [Act.put, List.setIfInBounds_toArray, List.set_cons_zero, List.set_cons_succ]
      refine readyL (i := 26) rfl (by kernel_rfl) (by kernel_rfl) fun K hK => ?_
      go_simp
      refine (list_nq13 v _ (HV.out _ M2.out).2).mono ?_
      rintro e y3 ⟨rfl, rfl⟩
      have M3 := M2
      refine hK.out _ _ M3.out ?_
      clear hK K
      try simp only [Act.put, List.setIfInBounds_toArray, List.set_cons_zero, List.set_cons_succ]
      refine takeL (i := 27) (v := ?_) rfl (by kernel_rfl) (by kernel_rfl) (by kernel_rfl) (fun _ _ _ h => h) (Or.inl ⟨by rfl, ?_⟩) M3.out ?_
      rotate_left
      · intro w hw
        try dsimp only at hw
        have hc := (HV.out _ hw).1
        go_simp
        try with_reducible rfl
      try simp only [Act.put, List.setIfInBounds_toArray, List.set_cons_zero, List.set_cons_succ]
      refine takeL (i := 28) (v := ?_) rfl (by kernel_rfl) (by kernel_rfl) (by kernel_rfl) (fun _ _ _ h => h) (Or.inl ⟨by rfl, ?_⟩) M3.out ?_
      rotate_left
      · intro w hw
        try dsimp only at hw
        have hc := (HV.out _ hw).1
        go_simp
        try with_reducible rfl
      try simp only [Act.put, List.setIfInBounds_toArray, List.set_cons_zero, List.set_cons_succ]
      refine takeL (i := 29) (v := ?_) rfl (by kernel_rfl) (by kernel_rfl) (by kernel_rfl) (fun _ _ _ h => h) (Or.inl ⟨by rfl, ?_⟩) M3.out ?_
      rotate_left
      · intro w hw
        try dsimp only at hw
        have hc := (HV.out _ hw).1
        go_simp
        try with_reducible rfl
      try simp only [Act.put, List.setIfInBounds_toArray, List.set_cons_zero, List.set_cons_succ]
      refine takeL (i := 30) (v := ?_) rfl (by kernel_rfl) (by kernel_rfl) (by kernel_rfl) (fun _ _ _ h => h) (Or.inl ⟨by rfl, ?_⟩) M3.out ?_
      rotate_left
      · intro w hw
        try dsimp only at hw
        have hc := (HV.out _ hw).1
        go_simp
        try with_reducible rfl
      try simp only [Act.put, List.setIfInBounds_toArray, List.set_cons_zero, List.set_cons_succ]
      refine takeL (i := 31) (v := ?_) rfl (by kernel_rfl) (by kernel_rfl) (by kernel_rfl) (fun _ _ _ h => h) (Or.inl ⟨by rfl, ?_⟩) M3.out ?_
      rotate_left
      · intro w hw
        try dsimp only at hw
        have hc := (HV.out _ hw).1
        go_simp
        try with_reducible rfl
      try simp only [Act.put, List.setIfInBounds_toArray, List.set_cons_zero, List.set_cons_succ]
      refine takeL (i := 32) (v := ?_) rfl (by kernel_rfl) (by kernel_rfl) (by kernel_rfl) (fun _ _ _ h => h) (Or.inl ⟨by rfl, ?_⟩) M3.out ?_
      rotate_left
      · intro w hw
        try dsimp only at hw
        have hc := (HV.out _ hw).1
        go_simp
        try with_reducible rfl
      try simp only [Act.put, List.setIfInBounds_toArray, List.set_cons_zero, List.set_cons_succ]
      refine takeL (i := 33) (v := ?_) rfl (by kernel_rfl) (by kernel_rfl) (by kernel_rfl) (fun _ _ _ h => h) (Or.inl ⟨by rfl, ?_⟩) M3.out ?_
      rotate_left
      · intro w hw
        try dsimp only at hw
        have hc := (HV.out _ hw).1
        go_simp
        try with_reducible rfl
      try simp only [Act.put, List.setIfInBounds_toArray, List.set_cons_zero, List.set_cons_succ]
      refine takeL (i := 34) (v := ?_) rfl (by kernel_rfl) (by kernel_rfl) (by kernel_rfl) (fun _ _ _ h => h) (Or.inl ⟨by rfl, ?_⟩) M3.out ?_
      rotate_left
      · intro w hw
        try dsimp only at hw
        have hc := (HV.out _ hw).1
        go_simp
        try with_reducible rfl
      try simp only [Act.put, List.setIfInBounds_toArray, List.set_cons_zero, List.set_cons_succ]
      refine takeL (i := 35) (v := ?_) rfl (by kernel_rfl) (by kernel_rfl) (by kernel_rfl) (fun _ _ _ h => h) (Or.inl ⟨by rfl, ?_⟩) M3.out ?_
      rotate_left
      · intro w hw
        try dsimp only at hw
        have hc := (HV.out _ hw).1
        go_simp
        try with_reducible rfl
      try simp only [Act.put, List.setIfInBounds_toArray, List.set_cons_zero, List.set_cons_succ]
      refine takeL (i := 36) (v := ?_) rfl (by kernel_rfl) (by kernel_rfl) (by kernel_rfl) (fun _ _ _ h => h) (Or.inl ⟨by rfl, ?_⟩) M3.out ?_
      rotate_left
      · intro w hw
        try dsimp only at hw
        have hc := (HV.out _ hw).1
        go_simp
        try with_reducible rfl
      try simp only [Act.put, List.setIfInBounds_toArray, List.set_cons_zero, List.set_cons_succ]
      refine takeL (i := 37) (v := ?_) rfl (by kernel_rfl) (by kernel_rfl) (by kernel_rfl) (fun _ _ _ h => h) (Or.inl ⟨by rfl, ?_⟩) M3.out ?_
      rotate_left
      · intro w hw
        try dsimp only at hw
        have hc := (HV.out _ hw).1
        go_simp
        try with_reducible rfl
      try simp only [Act.put, List.setIfInBounds_toArray, List.set_cons_zero, List.set_cons_succ]
      refine takeL (i := 38) (v := ?_) rfl (by kernel_rfl) (by kernel_rfl) (by kernel_rfl) (fun _ _ _ h => h) (Or.inl ⟨by rfl, ?_⟩) M3.out ?_
      rotate_left
      · intro w hw
        try dsimp only at hw
        have hc := (HV.out _ hw).1
        go_simp
        try with_reducible rfl
      try simp only [Act.put, List.setIfInBounds_toArray, List.set_cons_zero, List.set_cons_succ]
      refine takeL (i := 39) (v := ?_) rfl (by kernel_rfl) (by kernel_rfl) (by kernel_rfl) (fun _ _ _ h => h) (Or.inl ⟨by rfl, ?_⟩) M3.out ?_
      rotate_left
      · intro w hw
        try dsimp only at hw
        have hc := (HV.out _ hw).1
        go_simp
        try with_reducible rfl
      try simp only [Act.put, List.setIfInBounds_toArray, List.set_cons_zero, List.set_cons_succ]
      refine takeL (i := 40) (v := ?_) rfl (by kernel_rfl) (by kernel_rfl) (by kernel_rfl) (fun _ _ _ h => h) (Or.inl ⟨by rfl, ?_⟩) M3.out ?_
      rotate_left
      · intro w hw
        try dsimp only at hw
        have hc := (HV.out _ hw).1
        go_simp
        try with_reducible rfl
      try simp only [Act.put, List.setIfInBounds_toArray, List.set_cons_zero, List.set_cons_succ]
      refine takeL (i := 41) (v := ?_) rfl (by kernel_rfl) (by kernel_rfl) (by kernel_rfl) (fun _ _ _ h => h) (Or.inl ⟨by rfl, ?_⟩) M3.out ?_
      rotate_left
      · intro w hw
        try dsimp only at hw
        have hc := (HV.out _ hw).1
        go_simp
        try with_reducible rfl
      try simp only [Act.put, List.setIfInBounds_toArray, List.set_cons_zero, List.set_cons_succ]
      refine takeL (i := 42) (v := ?_) rfl (by kernel_rfl) (by kernel_rfl) (by kernel_rfl) (fun _ _ _ h => h) (Or.inl ⟨by rfl, ?_⟩) M3.out ?_
      rotate_left
      · intro w hw
        try dsimp only at hw
        have hc := (HV.out _ hw).1
        go_simp
        try with_reducible rfl
      try simp only [Act.put, List.setIfInBounds_toArray, List.set_cons_zero, List.set_cons_succ]
      refine readyL (i := 43) rfl (by kernel_rfl) (by kernel_rfl) fun K hK => ?_
      go_simp
      refine (copy_nq13 v _ (HV.out _ M3.out).2).mono ?_
      rintro e y4 ⟨rfl, rfl⟩
      have M4 := M3
      refine hK.out _ _ M4.out ?_
      clear hK K
      try simp only [Act.put, List.setIfInBounds_toArray, List.set_cons_zero, List.set_cons_succ]
      refine takeL (i := 44) (v := ?_) rfl (by kernel_rfl) (by kernel_rfl) (by kernel_rfl) (fun _ _ _ h => h) (Or.inl ⟨by rfl, ?_⟩) M4.out ?_
      rotate_left
      · intro w hw
        try dsimp only at hw
        have hc := (HV.out _ hw).1
        go_simp
        try with_reducible rfl
      try simp only [Act.put, List.setIfInBounds_toArray, List.set_cons_zero, List.set_cons_succ]
      refine takeL (i := 45) (v := ?_) rfl (by kernel_rfl) (by kernel_rfl) (by kernel_rfl) (fun _ _ _ h => h) (Or.inl ⟨by rfl, ?_⟩) M4.out ?_
      rotate_left
      · intro w hw
        try dsimp only at hw
        have hc := (HV.out _ hw).1
        go_simp
        try with_reducible rfl
      try simp only [Act.put, List.setIfInBounds_toArray, List.set_cons_zero, List.set_cons_succ]
      refine takeL (i := 46) (v := ?_) rfl (by kernel_rfl) (by kernel_rfl) (by kernel_rfl) (fun _ _ _ h => h) (Or.inl ⟨by rfl, ?_⟩) M4.out ?_
      rotate_left
      · intro w hw
        try dsimp only at hw
        have hc := (HV.out _ hw).1
        go_simp
        try with_reducible rfl
      try simp only [Act.put, List.setIfInBounds_toArray, List.set_cons_zero, List.set_cons_succ]
      refine takeL (i := 47) (v := ?_) rfl (by kernel_rfl) (by kernel_rfl) (by kernel_rfl) (fun _ _ _ h => h) (Or.inl ⟨by rfl, ?_⟩) M4.out ?_
      rotate_left
      · intro w hw
        try dsimp only at hw
        have hc := (HV.out _ hw).1
        go_simp
        try with_reducible rfl
      try simp only [Act.put, List.setIfInBounds_toArray, List.set_cons_zero, List.set_cons_succ]
      refine takeL (i := 48) (v := ?_) rfl (by kernel_rfl) (by kernel_rfl) (by kernel_rfl) (fun _ _ _ h => h) (Or.inl ⟨by rfl, ?_⟩) M4.out ?_
      rotate_left
      · intro w hw
        try dsimp only at hw
        have hc := (HV.out _ hw).1
        go_simp
        try with_reducible rfl
      try simp only [Act.put, List.setIfInBounds_toArray, List.set_cons_zero, List.set_cons_succ]
      refine takeL (i := 49) (v := ?_) rfl (by kernel_rfl) (by kernel_rfl) (by kernel_rfl) (fun _ _ _ h => h) (Or.inl ⟨by rfl, ?_⟩) M4.out ?_
      rotate_left
      · intro w hw
        try dsimp only at hw
        have hc := (HV.out _ hw).1
        go_simp
        try with_reducible rfl
      try simp only [Act.put, List.setIfInBounds_toArray, List.set_cons_zero, List.set_cons_succ]
      refine takeL (i := 50) (v := ?_) rfl (by kernel_rfl) (by kernel_rfl) (by kernel_rfl) (fun _ _ _ h => h) (Or.inl ⟨by rfl, ?_⟩) M4.out ?_
      rotate_left
      · intro w hw
        try dsimp only at hw
        have hc := (HV.out _ hw).1
        go_simp
        try with_reducible rfl
      try simp only [Act.put, List.setIfInBounds_toArray, List.set_cons_zero, List.set_cons_succ]
      refine readyL (i := 51) rfl (by kernel_rfl) (by kernel_rfl) fun K hK => ?_
      go_simp
      refine (same_nn13 v _ (HV.out _ M4.out).2).mono ?_
      rintro e y5 ⟨rfl, rfl⟩
      have M5 := M4
      refine hK.out _ _ M5.out ?_
      clear hK K
      try simp only [Act.put, List.setIfInBounds_toArray, List.set_cons_zero, List.set_cons_succ]
      refine takeL (i := 52) (v := ?_) rfl (by kernel_rfl) (by kernel_rfl) (by kernel_rfl) (fun _ _ _ h => h) (Or.inl ⟨by rfl, ?_⟩) M5.out ?_
      rotate_left
      · intro w hw
        try dsimp only at hw
        have hc := (HV.out _ hw).1
        go_simp
        try with_reducible rfl
      try simp only [Act.put, List.setIfInBounds_toArray, List.set_cons_zero, List.set_cons_succ]
      refine takeL (i := 53) (v := ?_) rfl (by kernel_rfl) (by kernel_rfl) (by kernel_rfl) (fun _ _ _ h => h) (Or.inl ⟨by rfl, ?_⟩) M5.out ?_
      rotate_left
      · intro w hw
        try dsimp only at hw
        have hc := (HV.out _ hw).1
        go_simp
        try with_reducible rfl
      try simp only [Act.put, List.setIfInBounds_toArray, List.set_cons_zero, List.set_cons_succ]
      refine takeL (i := 54) (v := ?_) rfl (by kernel_rfl) (by kernel_rfl) (by kernel_rfl) (fun _ _ _ h => h) (Or.inl ⟨by rfl, ?_⟩) M5.out ?_
      rotate_left
      · intro w hw
        try dsimp only at hw
        have hc := (HV.out _ hw).1
        go_simp
        try with_reducible rfl
      try simp only [Act.put, List.setIfInBounds_toArray, List.set_cons_zero, List.set_cons_succ]
      refine takeL (i := 55) (v := ?_) rfl (by kernel_rfl) (by kernel_rfl) (by kernel_rfl) (fun _ _ _ h => h) (Or.inl ⟨by rfl, ?_⟩) M5.out ?_
      rotate_left
      · intro w hw
        try dsimp only at hw
        have hc := (HV.out _ hw).1
        go_simp
        try with_reducible rfl
      try simp only [Act.put, List.setIfInBounds_toArray, List.set_cons_zero, List.set_cons_succ]
      refine takeL (i := 56) (v := ?_) rfl (by kernel_rfl) (by kernel_rfl) (by kernel_rfl) (fun _ _ _ h => h) (Or.inl ⟨by rfl, ?_⟩) M5.out ?_
      rotate_left
      · intro w hw
        try dsimp only at hw
        have hc := (HV.out _ hw).1
        go_simp
        try with_reducible rfl
      try simp only [Act.put, List.setIfInBounds_toArray, List.set_cons_zero, List.set_cons_succ]
      refine takeL (i := 57) (v := ?_) rfl (by kernel_rfl) (by kernel_rfl) (by kernel_rfl) (fun _ _ _ h => h) (Or.inl ⟨by rfl, ?_⟩) M5.out ?_
      rotate_left
      · intro w hw
        try dsimp only at hw
        have hc := (HV.out _ hw).1
        go_simp
        try with_reducible rfl
      try simp only [Act.put, List.setIfInBounds_toArray, List.set_cons_zero, List.set_cons_succ]
      refine takeL (i := 58) (v := ?_) rfl (by kernel_rfl) (by kernel_rfl) (by kernel_rfl) (fun _ _ _ h => h) (Or.inl ⟨by rfl, ?_⟩) M5.out ?_
      rotate_left
      · intro w hw
        try dsimp only at hw
        have hc := (HV.out _ hw).1
        go_simp
        try with_reducible rfl
      try simp only [Act.put, List.setIfInBounds_toArray, List.set_cons_zero, List.set_cons_succ]
      refine readyL (i := 59) rfl (by kernel_rfl) (by kernel_rfl) fun K hK => ?_
      go_simp
      refine (new13 _).mono ?_
      rintro e y6 ⟨ob, nb, rfl, hs, _, _, hb⟩
      have M6 := Lib.hid (M5.out.below hb)
      have O6 := Lib.hid hs
      clear hb hs
      refine hK.out _ _ M6.out ?_
      clear hK K
      try simp only [Act.put, List.setIfInBounds_toArray, List.set_cons_zero, List.set_cons_succ]
      refine readyL (i := 60) rfl (by kernel_rfl) (by kernel_rfl) fun K hK => ?_
      go_simp
      refine (same_ny13 v ob nb [] _ (HV.out _ M6.out).2 O6.out).mono ?_
      rintro e y7 ⟨rfl, rfl⟩
      have M7 := M6
      refine hK.out _ _ M7.out ?_
      clear hK K
      try simp only [Act.put, List.setIfInBounds_toArray, List.set_cons_zero, List.set_cons_succ]
      refine takeL (i := 61) (v := ?_) rfl (by kernel_rfl) (by kernel_rfl) (by kernel_rfl) (fun _ _ _ h => h) (Or.inl ⟨by rfl, ?_⟩) M7.out ?_
      rotate_left
      · intro w hw
        try dsimp only at hw
        have hc := (HV.out _ hw).1
        go_simp
        try with_reducible rfl
      try simp only [Act.put, List.setIfInBounds_toArray, List.set_cons_zero, List.set_cons_succ]
      refine takeL (i := 62) (v := ?_) rfl (by kernel_rfl) (by kernel_rfl) (by kernel_rfl) (fun _ _ _ h => h) (Or.inl ⟨by rfl, ?_⟩) M7.out ?_
      rotate_left
      · intro w hw
        try dsimp only at hw
        have hc := (HV.out _ hw).1
        go_simp
        try with_reducible rfl
      try simp only [Act.put, List.setIfInBounds_toArray, List.set_cons_zero, List.set_cons_succ]
      refine takeL (i := 64) (v := ?_) rfl (by kernel_rfl) (by kernel_rfl) (by kernel_rfl) (fun _ _ _ h => h) (Or.inl ⟨by rfl, ?_⟩) M7.out ?_
      rotate_left
      · intro w hw
        try dsimp only at hw
        have hc := (HV.out _ hw).1
        go_simp
        try with_reducible rfl
      try simp only [Act.put, List.setIfInBounds_toArray, List.set_cons_zero, List.set_cons_succ]
      refine takeL (i := 65) (v := ?_) rfl (by kernel_rfl) (by kernel_rfl) (by kernel_rfl) (fun _ _ _ h => h) (Or.inl ⟨by rfl, ?_⟩) M7.out ?_
      rotate_left
      · intro w hw
        try dsimp only at hw
        have hc := (HV.out _ hw).1
        go_simp
        try with_reducible rfl
      try simp only [Act.put, List.setIfInBounds_toArray, List.set_cons_zero, List.set_cons_succ]
      refine takeL (i := 66) (v := ?_) rfl (by kernel_rfl) (by kernel_rfl) (by kernel_rfl) (fun _ _ _ h => h) (Or.inl ⟨by rfl, ?_⟩) M7.out ?_
      rotate_left
      · intro w hw
        try dsimp only at hw
        have hc := (HV.out _ hw).1
        go_simp
        try with_reducible rfl
      try simp only [Act.put, List.setIfInBounds_toArray, List.set_cons_zero, List.set_cons_succ]
      refine takeL (i := 67) (v := ?_) rfl (by kernel_rfl) (by kernel_rfl) (by kernel_rfl) (fun _ _ _ h => h) (Or.inl ⟨by rfl, ?_⟩) M7.out ?_
      rotate_left
      · intro w hw
        try dsimp only at hw
        have hc := (HV.out _ hw).1
        go_simp
        try with_reducible rfl
      try simp only [Act.put, List.setIfInBounds_toArray, List.set_cons_zero, List.set_cons_succ]
      refine readyL (i := 63) rfl (by kernel_rfl) (by kernel_rfl) fun K hK => ?_
      go_simp
      refine (new13 _).mono ?_
      rintro e y8 ⟨pb, qb, rfl, hs, _, _, hb⟩
      have M8 := Lib.hid (M7.out.below hb)
      have O8 := Lib.hid hs
      clear hb hs
      refine hK.out _ _ M8.out ?_
      clear hK K
      try simp only [Act.put, List.setIfInBounds_toArray, List.set_cons_zero, List.set_cons_succ]
      refine readyL (i := 68) rfl (by kernel_rfl) (by kernel_rfl) fun K hK => ?_
      go_simp
      refine (same_yn13 v pb qb [] _ (HV.out _ M8.out).2 O8.out).mono ?_
      rintro e y9 ⟨rfl, rfl⟩
      have M9 := M8
      refine hK.out _ _ M9.out ?_
      clear hK K
      try simp only [Act.put, List.setIfInBounds_toArray, List.set_cons_zero, List.set_cons_succ]
      refine takeL (i := 69) (v := ?_) rfl (by kernel_rfl) (by kernel_rfl) (by kernel_rfl) (fun _ _ _ h => h) (Or.inl ⟨by rfl, ?_⟩) M9.out ?_
      rotate_left
      · intro w hw
        try dsimp only at hw
        have hc := (HV.out _ hw).1
        go_simp
        try with_reducible rfl
      try simp only [Act.put, List.setIfInBounds_toArray, List.set_cons_zero, List.set_cons_succ]
      refine wpAnyH_done (by kernel_rfl) ?_ _
      go_wp2_with fail
      go_roundw
      case rel => exact ⟨k + 1, by omega, by go_num, M9.out⟩
      case measure => simp [intOf]; omega
    · have hlt' : ¬ (k : Int) < 2 := by omega
      go_wp2_with fail
      refine (lives13 _).mono ?_
      rintro e w9 ⟨rfl, hb9⟩
      have B9 := Lib.hid (N2.out.b.trans (hb9.mono N2.out.b.size))
      clear hb9
      go_wp2_with fail
      go_ret
      exact ⟨rfl, B9.out⟩
end Go.Proofs.Ytpkkgmmcindfgaa
