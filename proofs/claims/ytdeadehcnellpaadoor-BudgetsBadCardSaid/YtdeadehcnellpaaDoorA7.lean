/-
  Parts joined: RefOf8 OfWalk8 PutN Num8 Told8.
-/
import Derived.Below
import Derived.Laws.OwnMore
import Derived.Deep.AppendLies
import Derived.Deep.Draws
import Derived.Lib.Hide
import Derived.Laws.MakeOwn
import Derived.Laws.CopyOwn
import Derived.Laws.Rows
import Derived.Maps.AppendAt
import Derived.OwnWalk
import Derived.Laws.BitsAllLaws
import Derived.WalkKit
import Derived.Test.YtdeadehcnellpaaDoorRows
import Derived.WalkSpells
import Derived.WalkLawsBesides
import Derived.IntWalk
import Derived.Deep.MidRow
import Derived.Deep.WholeRow
import Derived.Great.BuildSlice
import Derived.Recover
import Derived.Deep.RegionHeld
import Derived.Deep.QuietTactic
import Derived.BigQuiet
import Derived.ChangeKeysEq
import Derived.Deep.RegionHeld2
import Derived.Deep.CutBlock
import Derived.Laws.Tables
import Derived.ProofKit
import Derived.OpenShut
import Derived.ShutString
import Derived.ChangeOld
import Derived.Lib.SmallJoins
import Derived.Deep.Slices
import Derived.Deep.Strs
import Derived.SizedLaws
import Derived.Laws.StructEq
import Derived.Deep.DeepCutAuto
import Derived.Laws.Slices
import Derived.Laws.EntriesVeiled
import Derived.Deep.RegionHeld3
import Derived.Maps.OwnSet
import Derived.DeepKeys4
import Derived.WideKeyArr
import Derived.WideKeyEntry
import Derived.Shelf.SlMaps.Clone
import Derived.LaidMore
import Derived.Laws.Append
import Derived.Laws.AppendOwn
import Derived.Test.YtdeadehcnellpaaDoorA1
import Derived.Test.YtdeadehcnellpaaDoorA2
import Derived.Test.YtdeadehcnellpaaDoorA3
import Derived.Test.YtdeadehcnellpaaDoorA4
import Derived.Test.YtdeadehcnellpaaDoorA5
import Derived.Test.YtdeadehcnellpaaDoorA6
/-
  Of part RefOf8: what is needed here.
-/
namespace Go.Proofs.YtdeadehcnellpaaDoor
open Go.RowKit
set_option linter.unusedVariables false
theorem built_b0 : Tryd.prog.built 36 [(2, .int .i64 (-1))] = some ([.int .u64 0, .int .u64 0, .int .i64 (-1)] : List Value).toArray := by kernel_rfl
/-- the reference's cells on its way -/
def rcells8 (s : BS) : List Value := [.int .u64 (s.u.getD 0), .int .u64 (s.p.getD 0), .int .i64 s.bad]
theorem bv_drop1 (l : List Int) : (bv l).drop 1 = bv (l.drop 1) := by simp [bv, cv]
theorem tell_5 {d : List Int} {s : BS} (h : d.length = 5) (hz : d.getD 0 0 = 2) (hu : s.u = none) : tell d s = some ⟨some (num (d.drop 1) 4), s.p, s.o, s.bad⟩ := by unfold tell; rw [if_pos ⟨h, hz, hu⟩]
theorem tell_9 {d : List Int} {s : BS} (h : d.length = 9) (hz : d.getD 0 0 = 3) (hu : s.p = none) : tell d s = some ⟨s.u, some (num (d.drop 1) 8), s.o, s.bad⟩ := by unfold tell; rw [if_neg (fun h' => by have := h'.1; omega), if_pos ⟨h, hz, hu⟩]
theorem tell_no {d : List Int} {s : BS} (h5 : ¬ (d.length = 5 ∧ d.getD 0 0 = 2 ∧ s.u = none)) (h9 : ¬ (d.length = 9 ∧ d.getD 0 0 = 3 ∧ s.p = none)) : tell d s = none := by unfold tell; rw [if_neg h5, if_neg h9]
set_option maxRecDepth 100000 in
set_option maxHeartbeats 8000000 in
theorem refOf_ (q : Raw) (m : LMsg) (B : Nat) (w : World) (hm : MsgIn w B q m) (hB : B ≤ w.heap.size) (hi : ∀ i ∈ m.ins, IsByte i.p ∧ AllBytes i.dat) (hn : q.n ≤ 4000) :
    Calls Tryd.prog 11 #[.agg (q.cells m).toArray] w fun e w' => e = .returned (.agg (bud8 (all8 m.keys m.ins)).toArray) ∧ Below w.heap.size w w' := by
  obtain ⟨W, HX, hb0, hrm, hrb, hws⟩ : ∃ W, Hid (∀ c1, c1 = ([.int .u64 0, .int .u64 0, .int .i64 0] : List Value).toArray → (w.alloc (.cells (q.cells m).toArray 30)).alloc (.cells c1 36) = W) ∧
      Below w.heap.size w W ∧ Row W w.heap.size 30 (q.cells m) ∧ Row W (w.heap.size + 1) 36 [.int .u64 0, .int .u64 0, .int .i64 0] ∧ W.heap.size = w.heap.size + 2 := by
    refine ⟨_, Lib.hid fun c1 h1 => by rw [h1], ((Below.refl w.heap.size w).alloc (Nat.le_refl _) _).alloc (by simp) _, (Row.new w 30 (q.cells m)).alloc _, Row.new' (w.alloc (.cells (q.cells m).toArray 30)) 36 _ (by simp), by simp⟩
  have hmr := hm.recent
  have hsm : (Tryd.prog.info? 30).map (·.size) = some (q.cells m).length := by rw [size_msg, cells_len hmr]
  have HRM := Lib.hid (fun (V : World) (h : Row V w.heap.size 30 (q.cells m)) => (MsgRow.of h hmr).c37)
  have HRW := Lib.hid (fun (r : Value) (p : Int) (va vd : Value) (V : World) (h : MsgIn V B q m) (hb : B ≤ V.heap.size) (hp : IsByte p) => refWord_ q m va vd p B V h hb hp)
  have HOK := Lib.hid (fun k hk => run8_ok (keys := m.keys) (ins_bytes hi) k hk)
  have HI := Lib.hid hi
  have hil := hm.ins.len
  have HM := Lib.hid (hm.below (hb0.mono hB))
  obtain ⟨KA, kn, kc, IA, n, ic, LA, ln, lc⟩ := q
  dsimp only at *
  have HMI : Hid (InsIn W B IA n m.ins) := Lib.hid HM.out.ins
  have HBB := Lib.hid hB
  have HB0 := Lib.hid hb0
  have HRB := Lib.hid hrb
  have HROW := Lib.hid hrm
  have HWS := Lib.hid hws
  have HSM := Lib.hid hsm
  generalize hQ : (⟨KA, kn, kc, IA, n, ic, LA, ln, lc⟩ : Raw) = Q at *
  generalize Q.cells m = MC at *
  have HIL := Lib.hid hil
  clear hm hB hi hb0 hrm hrb hmr hil hsm hws hQ
  unfold all8
  have HKEY : Hid (∀ p, isW m.keys p = isW m.keys p) := Lib.hid fun _ => rfl
  generalize hkeys : m.keys = keys at *
  generalize hl : m.ins = l at *
  clear hkeys hl HKEY
  go_enter Tryd.func11, Tryd.ntmps11
  go_upto_region 1 with fail
  rw [HX.out _ (by kernel_rfl)]
  clear HX
  go_wp2_with (first
    | ((with_reducible show wpList _ _ _ ({ dst := some 9, op := Op.build _ _, type := _, pos := _, after := _, guard := _ } :: _) _ _); go_must (refine wpList_plain rfl fun K hK => wp_built _ _ _ rfl (by simp only [List.map_toArray, List.map_cons, List.map_nil]; exact built_b0) (hK _ _ ?_)))
    | ((with_reducible show wpList _ _ _ ({ dst := none, op := Op.store 36 _ _, type := _, pos := _, after := _, guard := _ } :: _) _ _); go_must (refine wpList_store_new rfl 36 (.tmp 3) (.tmp 9) rfl [.int .u64 0, .int .u64 0, .int .i64 (-1)] (size_bud _ _ _) (bud_one _ _ _) rfl ?_ ?_ ?_; go_simp; go_simp; intro w1 hr1 hb1 hz1; have R1 := Lib.hid hr1; have B1 := Lib.hid hb1; clear hr1 hb1 hz1)))
  rw [HWS.out]
  have HR1 : Hid (Row w1 (w.heap.size + 2) 36 (rcells8 BS.zero)) := Lib.hid (by rw [← HWS.out]; exact R1.out)
  have HB1 : Hid (Below (w.heap.size + 2) W w1) := Lib.hid (by rw [← HWS.out]; exact B1.out)
  clear R1 B1
  go_loopw [7, 4, 5, 6] (fun i u p o wr => ∃ (k : Nat) (s : BS), k ≤ n ∧ i = .int .i64 k ∧ run8 keys l k = s ∧ u = .bool s.u.isSome ∧ p = .bool s.p.isSome ∧ o = .int .i64 s.o ∧ Row wr (w.heap.size + 2) 36 (rcells8 s) ∧ Below (w.heap.size + 2) W wr) (fun i _ _ _ _ => n - (intOf i).toNat)
  case atStart => exact ⟨0, BS.zero, Nat.zero_le _, rfl, rfl, rfl, rfl, rfl, HR1.out, HB1.out⟩
  case round =>
    obtain ⟨k, s, hk, rfl, hs, rfl, rfl, rfl, hrow, hbel⟩ := hrel
    have HS := Lib.hid hs
    have hok := HOK.out k (by rw [HIL.out]; exact hk)
    rw [hs] at hok
    have HO := Lib.hid hok
    have HR := Lib.hid hrow
    have HB := Lib.hid hbel
    have hmrow := HROW.out.below hbel (by omega)
    have HMR := Lib.hid hmrow
    have c37 := HRM.out _ hmrow
    clear hs hok hrow hbel hmrow
    by_cases hlt : k < n
    · obtain ⟨a, x, va, vd, rfl, hab, hx, hat⟩ := HMI.out.get hlt
      have hat := hat.keep hab fun p hp => HB.out.cell (p := p) (by have := HBB.out; omega)
      have HX := Lib.hid hx
      have HP := Lib.hid (HI.out x (List.mem_of_getElem? hx))
      have HAC := Lib.hid hat.cells
      obtain ⟨DA, dc, hvd, hds, hdn, hdm⟩ := hat.dat.is
      have HSI := Lib.hid (size_in x.p va vd)
      have HI1 := Lib.hid (inCells_one (p := x.p) hat.acc hat.dat)
      have HI3 : Hid ((inCells x.p va vd).length = 3) := Lib.hid rfl
      have HOB : Hid (∀ V : World, Below (w.heap.size + 2) W V → Calls Tryd.prog 21 #[.agg MC.toArray, .agg (inCells x.p va vd).toArray] V fun e w' => e = .returned (.bool (isW keys x.p)) ∧ Below V.heap.size V w') := Lib.hid fun V hV => HRW.out va x.p va vd V (HM.out.below (hV.mono (by have := HBB.out; omega))) (by have := HBB.out; have := hV.size; have := HWS.out; omega) HP.out.1
      have HSB := Lib.hid (HB.out.size)
      have HV2 : Hid ((inCells x.p va vd)[2]? = some vd) := Lib.hid rfl
      obtain ⟨dn, hdl⟩ : ∃ z, x.dat.length = z := ⟨_, rfl⟩
      rw [hdl] at hvd hds hdn
      have HDL := Lib.hid hdl
      have HD := Lib.hid hds
      have HDC := Lib.hid (And.intro hdn hdm)
      have HI2 : Hid ((inCells x.p va vd)[2]? = some (.slice DA dn dc)) := Lib.hid (by rw [HV2.out, hvd])
      clear hat hab hx hds hdn hdm hdl hvd
      generalize inCells x.p va vd = IC at *
      by_cases hw : isW keys x.p = true
      · have HW := Lib.hid hw
        by_cases hb : 0 ≤ s.bad
        · have HST : Hid (run8 keys l (k + 1) = s) := Lib.hid ((run8_succ (keys := keys) HX.out).trans (by rw [HS.out]; exact step_late (k := k) HW.out hb))
          clear hw
          go_wp2_with (first
            | ((with_reducible show wpList _ _ _ ({ dst := some 21, op := Op.load _ _, type := _, pos := _, after := _, guard := _ } :: _) _ _); go_must (refine wpList_load_at rfl 45 (.tmp 20) rfl (a.add (k * 3)) IC _ Tryd.underlying45 rfl HSI.out HAC.out ?_ ?_; go_simp))
            | ((with_reducible show wpList _ _ _ ({ dst := none, op := Op.store 45 _ _, type := _, pos := _, after := _, guard := _ } :: _) _ _); go_must (refine wpList_store_new rfl 45 (.tmp 8) (.tmp 21) rfl IC HSI.out HI1.out (by rw [HI3.out]; rfl) ?_ ?_ ?_; go_simp; go_simp; intro w2 hr2 hb2 hz2; have R2 := Lib.hid hr2; have B2 := Lib.hid hb2; clear hr2 hb2 hz2; have RM2 := Lib.hid (HMR.out.below B2.out HMR.out.lt)))
            | ((with_reducible show wpList _ _ _ ({ dst := some 22, op := Op.load _ _, type := _, pos := _, after := _, guard := _ } :: _) _ _); go_must (refine wpList_load_whole rfl 30 (.tmp 1) rfl w.heap.size 30 MC _ Tryd.underlying30 rfl HSM.out RM2.out ?_ ?_; go_simp))
            | ((with_reducible show wpList _ _ _ ({ dst := some 23, op := Op.load _ _, type := _, pos := _, after := _, guard := _ } :: _) _ _); go_must (refine wpList_load_whole rfl 45 (.tmp 8) rfl wr.heap.size 45 IC _ Tryd.underlying45 rfl HSI.out R2.out ?_ ?_; go_simp)))
          have HB2 : Hid (Below (w.heap.size + 2) wr w2) := Lib.hid (B2.out.mono (by have := HSB.out; have := HWS.out; omega))
          refine (HOB.out w2 (HB.out.trans HB2.out)).mono ?_
          rintro e w3 ⟨rfl, hb3⟩
          rw [HW.out]
          have HLT2 : Hid (wr.heap.size < w2.heap.size) := Lib.hid R2.out.lt
          have HLR : Hid (w.heap.size + 2 < wr.heap.size) := Lib.hid HR.out.lt
          have HB3 : Hid (Below (w.heap.size + 2) wr w3) := Lib.hid (HB2.out.trans (hb3.mono (by have := HLT2.out; have := HLR.out; omega)))
          have HR3 : Hid (Row w3 (w.heap.size + 2) 36 (rcells8 s)) := Lib.hid ((HR.out.below B2.out HLR.out).below hb3 (by have := HLT2.out; have := HLR.out; omega))
          clear c37
          have d2 := ((R2.out.below hb3 R2.out.lt).cell 2).trans HI2.out
          have e2 : w3.cell? ⟨w.heap.size + 2, 2, none⟩ = some (.int .i64 s.bad) := HR3.out.cell 2
          clear hb3 HOB
          go_wp2_with fail
          go_roundw
          case rel => exact ⟨k + 1, s, by omega, by go_num, HST.out, rfl, rfl, rfl, HR3.out, HB.out.trans HB3.out⟩
          case measure => simp [intOf]; omega
        · have hbd : s.bad < 0 := by omega
          obtain ⟨da, hda⟩ : ∃ da : Addr, 0 < dn → DA = some da ∧ (∀ V : World, Below (w.heap.size + 2) wr V → V.cell? da = some (.int .u8 (x.dat.getD 0 0))) := by
            rcases Nat.eq_zero_or_pos dn with h | h
            · exact ⟨⟨0, 0, none⟩, fun h' => by omega⟩
            · obtain ⟨da, e1, e2, e3⟩ := HD.out.byte (k := 0) h
              refine ⟨da, fun _ => ⟨e1, fun V hV => ?_⟩⟩
              rw [show da.add 0 = da by simp [Addr.add]] at e3
              exact (hV.cell (p := da) (by have := HBB.out; omega)).trans e3
          have HDA := Lib.hid hda
          obtain ⟨r, hrr⟩ : ∃ r, x.dat.drop 1 = r := ⟨_, rfl⟩
          have HRR := Lib.hid hrr
          have HDB : Hid (Bytes r) := Lib.hid (by rw [← hrr]; exact bytes_all fun z hz => HP.out.2 z (List.mem_of_mem_drop hz))
          clear hrr
          have HDD : Hid (x.dat.length = dn) := HDL
          obtain ⟨hz0, hz1⟩ : 0 ≤ x.dat.getD 0 0 ∧ x.dat.getD 0 0 < 256 := bytes_all HP.out.2 0
          generalize hzz : x.dat.getD 0 0 = z at *
          have HZ := Lib.hid hzz
          clear hda hw hzz
          by_cases h5 : dn = 5
          · subst h5
            obtain ⟨rfl, _⟩ := HDA.out (by omega)
            by_cases hz : z = 2
            · subst hz
              cases hu : s.u with
              | some v =>
                have HST : Hid (run8 keys l (k + 1) = ⟨s.u, s.p, s.o, k⟩) := Lib.hid ((run8_succ (keys := keys) HX.out).trans (by rw [HS.out]; exact step_bad (k := k) HW.out hb (tell_no (fun h => by rw [hu] at h; exact absurd h.2.2 (by simp)) (fun h => by have := h.1; rw [HDD.out] at this; omega))))
                clear hb
                have HSOM : Hid (s.u.isSome = true) := Lib.hid (by rw [hu]; rfl)
                clear hu
                go_wp2_with (first
                  | ((with_reducible show wpList _ _ _ ({ dst := some 21, op := Op.load _ _, type := _, pos := _, after := _, guard := _ } :: _) _ _); go_must (refine wpList_load_at rfl 45 (.tmp 20) rfl (a.add (k * 3)) IC _ Tryd.underlying45 rfl HSI.out HAC.out ?_ ?_; go_simp))
                  | ((with_reducible show wpList _ _ _ ({ dst := none, op := Op.store 45 _ _, type := _, pos := _, after := _, guard := _ } :: _) _ _); go_must (refine wpList_store_new rfl 45 (.tmp 8) (.tmp 21) rfl IC HSI.out HI1.out (by rw [HI3.out]; rfl) ?_ ?_ ?_; go_simp; go_simp; intro w2 hr2 hb2 hz2; have R2 := Lib.hid hr2; have B2 := Lib.hid hb2; clear hr2 hb2 hz2; have RM2 := Lib.hid (HMR.out.below B2.out HMR.out.lt)))
                  | ((with_reducible show wpList _ _ _ ({ dst := some 22, op := Op.load _ _, type := _, pos := _, after := _, guard := _ } :: _) _ _); go_must (refine wpList_load_whole rfl 30 (.tmp 1) rfl w.heap.size 30 MC _ Tryd.underlying30 rfl HSM.out RM2.out ?_ ?_; go_simp))
                  | ((with_reducible show wpList _ _ _ ({ dst := some 23, op := Op.load _ _, type := _, pos := _, after := _, guard := _ } :: _) _ _); go_must (refine wpList_load_whole rfl 45 (.tmp 8) rfl wr.heap.size 45 IC _ Tryd.underlying45 rfl HSI.out R2.out ?_ ?_; go_simp)))
                have HB2 : Hid (Below (w.heap.size + 2) wr w2) := Lib.hid (B2.out.mono (by have := HSB.out; have := HWS.out; omega))
                refine (HOB.out w2 (HB.out.trans HB2.out)).mono ?_
                rintro e w3 ⟨rfl, hb3⟩
                rw [HW.out]
                have HLT2 : Hid (wr.heap.size < w2.heap.size) := Lib.hid R2.out.lt
                have HLR : Hid (w.heap.size + 2 < wr.heap.size) := Lib.hid HR.out.lt
                have HB3 : Hid (Below (w.heap.size + 2) wr w3) := Lib.hid (HB2.out.trans (hb3.mono (by have := HLT2.out; have := HLR.out; omega)))
                have HR3 : Hid (Row w3 (w.heap.size + 2) 36 (rcells8 s)) := Lib.hid ((HR.out.below B2.out HLR.out).below hb3 (by have := HLT2.out; have := HLR.out; omega))
                clear c37
                have d2 := ((R2.out.below hb3 R2.out.lt).cell 2).trans HI2.out
                have e2 : w3.cell? ⟨w.heap.size + 2, 2, none⟩ = some (.int .i64 s.bad) := HR3.out.cell 2
                clear hb3 HOB
                have f2 := HR3.out.frozen 2
                have db := (HDA.out (by omega)).2 w3 HB3.out
                go_wp2_with fail
                go_roundw
                case rel => exact ⟨k + 1, ⟨s.u, s.p, s.o, k⟩, by omega, by go_num, HST.out, by show Value.bool true = .bool s.u.isSome; rw [HSOM.out], rfl, rfl, HR3.out.set_ 2 _, (HB.out.trans HB3.out).setCell (by show w.heap.size + 2 ≤ w.heap.size + 2; omega) _⟩
                case measure => simp [intOf]; omega
              | none =>
                have HST : Hid (run8 keys l (k + 1) = ⟨some (num r 4), s.p, s.o, s.bad⟩) := Lib.hid ((run8_succ (keys := keys) HX.out).trans (by rw [HS.out]; exact step_told (k := k) HW.out hb ((tell_5 HDD.out HZ.out hu).trans (by rw [HRR.out]))))
                have HG : Hid (∀ V : World, Below (w.heap.size + 2) wr V → Calls Tryd.prog 22 #[.slice (tailAt (some da) dc 1) 4 (dc - 1), .int .i64 4] V fun e w' => e = .returned (.tuple #[.int .u64 (num r 4), .int .i64 0]) ∧ V = w') := Lib.hid fun V hV => by
                  have h := refGet (tailAt (some da) dc 1) 4 (dc - 1) r 4 V B (by
                    have h1 := (HD.out.below (hV.mono (by have := HBB.out; omega))).tail (k := 1) (by omega) HDC.out.1
                    rw [bv_drop1, HRR.out] at h1
                    exact h1) (Nat.le_trans (show 4 ≤ 5 by omega) (Nat.le_trans HDC.out.1 HDC.out.2)) HDB.out
                  have e : getN r 4 = (num r 4, 0) := by unfold getN; rw [if_neg (by omega), if_neg (by rw [← HRR.out, List.length_drop, HDD.out]; omega)]; rfl
                  rw [e] at h
                  exact h
                have HSOM : Hid (s.u.isSome = false) := Lib.hid (by rw [hu]; rfl)
                clear hb hu
                go_wp2_with (first
                  | ((with_reducible show wpList _ _ _ ({ dst := some 21, op := Op.load _ _, type := _, pos := _, after := _, guard := _ } :: _) _ _); go_must (refine wpList_load_at rfl 45 (.tmp 20) rfl (a.add (k * 3)) IC _ Tryd.underlying45 rfl HSI.out HAC.out ?_ ?_; go_simp))
                  | ((with_reducible show wpList _ _ _ ({ dst := none, op := Op.store 45 _ _, type := _, pos := _, after := _, guard := _ } :: _) _ _); go_must (refine wpList_store_new rfl 45 (.tmp 8) (.tmp 21) rfl IC HSI.out HI1.out (by rw [HI3.out]; rfl) ?_ ?_ ?_; go_simp; go_simp; intro w2 hr2 hb2 hz2; have R2 := Lib.hid hr2; have B2 := Lib.hid hb2; clear hr2 hb2 hz2; have RM2 := Lib.hid (HMR.out.below B2.out HMR.out.lt)))
                  | ((with_reducible show wpList _ _ _ ({ dst := some 22, op := Op.load _ _, type := _, pos := _, after := _, guard := _ } :: _) _ _); go_must (refine wpList_load_whole rfl 30 (.tmp 1) rfl w.heap.size 30 MC _ Tryd.underlying30 rfl HSM.out RM2.out ?_ ?_; go_simp))
                  | ((with_reducible show wpList _ _ _ ({ dst := some 23, op := Op.load _ _, type := _, pos := _, after := _, guard := _ } :: _) _ _); go_must (refine wpList_load_whole rfl 45 (.tmp 8) rfl wr.heap.size 45 IC _ Tryd.underlying45 rfl HSI.out R2.out ?_ ?_; go_simp)))
                have HB2 : Hid (Below (w.heap.size + 2) wr w2) := Lib.hid (B2.out.mono (by have := HSB.out; have := HWS.out; omega))
                refine (HOB.out w2 (HB.out.trans HB2.out)).mono ?_
                rintro e w3 ⟨rfl, hb3⟩
                rw [HW.out]
                have HLT2 : Hid (wr.heap.size < w2.heap.size) := Lib.hid R2.out.lt
                have HLR : Hid (w.heap.size + 2 < wr.heap.size) := Lib.hid HR.out.lt
                have HB3 : Hid (Below (w.heap.size + 2) wr w3) := Lib.hid (HB2.out.trans (hb3.mono (by have := HLT2.out; have := HLR.out; omega)))
                have HR3 : Hid (Row w3 (w.heap.size + 2) 36 (rcells8 s)) := Lib.hid ((HR.out.below B2.out HLR.out).below hb3 (by have := HLT2.out; have := HLR.out; omega))
                clear c37
                have d2 := ((R2.out.below hb3 R2.out.lt).cell 2).trans HI2.out
                have e2 : w3.cell? ⟨w.heap.size + 2, 2, none⟩ = some (.int .i64 s.bad) := HR3.out.cell 2
                clear hb3 HOB
                have db := (HDA.out (by omega)).2 w3 HB3.out
                have e0 : w3.cell? ⟨w.heap.size + 2, 0, none⟩ = some (.int .u64 (s.u.getD 0)) := HR3.out.cell 0
                have e1 : w3.cell? ⟨w.heap.size + 2, 1, none⟩ = some (.int .u64 (s.p.getD 0)) := HR3.out.cell 1
                have f0 := HR3.out.frozen 0
                have f1 := HR3.out.frozen 1
                go_wp2_with ((with_reducible show wpList _ _ _ ({ dst := some 52, op := Op.slice _ _ _ _ _, type := _, pos := _, after := _, guard := _ } :: _) _ _); go_must (refine wpList_tail rfl 40 5 (.tmp 51) (.const (.int .i64 1)) rfl Tryd.underlying40 size_b8 (some da) 5 dc 1 ?_ ?_ (by omega) HDC.out.1 HDC.out.2 ?_; go_simp; go_simp))
                refine (HG.out w3 HB3.out).mono ?_
                rintro e w4 ⟨rfl, rfl⟩
                go_wp2_with fail
                go_roundw
                case rel => exact ⟨k + 1, ⟨some (num r 4), s.p, s.o, s.bad⟩, by omega, by go_num, HST.out, rfl, rfl, rfl, HR3.out.set_ 0 _, (HB.out.trans HB3.out).setCell (by show w.heap.size + 2 ≤ w.heap.size + 2; omega) _⟩
                case measure => simp [intOf]; omega
            · have HST : Hid (run8 keys l (k + 1) = ⟨s.u, s.p, s.o, k⟩) := Lib.hid ((run8_succ (keys := keys) HX.out).trans (by rw [HS.out]; exact step_bad (k := k) HW.out hb (tell_no (fun h => by have := h.2.1; rw [HZ.out] at this; omega) (fun h => by have := h.1; rw [HDD.out] at this; omega))))
              clear hb
              go_wp2_with (first
                | ((with_reducible show wpList _ _ _ ({ dst := some 21, op := Op.load _ _, type := _, pos := _, after := _, guard := _ } :: _) _ _); go_must (refine wpList_load_at rfl 45 (.tmp 20) rfl (a.add (k * 3)) IC _ Tryd.underlying45 rfl HSI.out HAC.out ?_ ?_; go_simp))
                | ((with_reducible show wpList _ _ _ ({ dst := none, op := Op.store 45 _ _, type := _, pos := _, after := _, guard := _ } :: _) _ _); go_must (refine wpList_store_new rfl 45 (.tmp 8) (.tmp 21) rfl IC HSI.out HI1.out (by rw [HI3.out]; rfl) ?_ ?_ ?_; go_simp; go_simp; intro w2 hr2 hb2 hz2; have R2 := Lib.hid hr2; have B2 := Lib.hid hb2; clear hr2 hb2 hz2; have RM2 := Lib.hid (HMR.out.below B2.out HMR.out.lt)))
                | ((with_reducible show wpList _ _ _ ({ dst := some 22, op := Op.load _ _, type := _, pos := _, after := _, guard := _ } :: _) _ _); go_must (refine wpList_load_whole rfl 30 (.tmp 1) rfl w.heap.size 30 MC _ Tryd.underlying30 rfl HSM.out RM2.out ?_ ?_; go_simp))
                | ((with_reducible show wpList _ _ _ ({ dst := some 23, op := Op.load _ _, type := _, pos := _, after := _, guard := _ } :: _) _ _); go_must (refine wpList_load_whole rfl 45 (.tmp 8) rfl wr.heap.size 45 IC _ Tryd.underlying45 rfl HSI.out R2.out ?_ ?_; go_simp)))
              have HB2 : Hid (Below (w.heap.size + 2) wr w2) := Lib.hid (B2.out.mono (by have := HSB.out; have := HWS.out; omega))
              refine (HOB.out w2 (HB.out.trans HB2.out)).mono ?_
              rintro e w3 ⟨rfl, hb3⟩
              rw [HW.out]
              have HLT2 : Hid (wr.heap.size < w2.heap.size) := Lib.hid R2.out.lt
              have HLR : Hid (w.heap.size + 2 < wr.heap.size) := Lib.hid HR.out.lt
              have HB3 : Hid (Below (w.heap.size + 2) wr w3) := Lib.hid (HB2.out.trans (hb3.mono (by have := HLT2.out; have := HLR.out; omega)))
              have HR3 : Hid (Row w3 (w.heap.size + 2) 36 (rcells8 s)) := Lib.hid ((HR.out.below B2.out HLR.out).below hb3 (by have := HLT2.out; have := HLR.out; omega))
              clear c37
              have d2 := ((R2.out.below hb3 R2.out.lt).cell 2).trans HI2.out
              have e2 : w3.cell? ⟨w.heap.size + 2, 2, none⟩ = some (.int .i64 s.bad) := HR3.out.cell 2
              clear hb3 HOB
              have f2 := HR3.out.frozen 2
              have db := (HDA.out (by omega)).2 w3 HB3.out
              go_wp2_with fail
              go_roundw
              case rel => exact ⟨k + 1, ⟨s.u, s.p, s.o, k⟩, by omega, by go_num, HST.out, rfl, rfl, rfl, HR3.out.set_ 2 _, (HB.out.trans HB3.out).setCell (by show w.heap.size + 2 ≤ w.heap.size + 2; omega) _⟩
              case measure => simp [intOf]; omega
          by_cases h9 : dn = 9
          · subst h9
            obtain ⟨rfl, _⟩ := HDA.out (by omega)
            by_cases hz : z = 3
            · subst hz
              cases hu : s.p with
              | some v =>
                have HST : Hid (run8 keys l (k + 1) = ⟨s.u, s.p, s.o, k⟩) := Lib.hid ((run8_succ (keys := keys) HX.out).trans (by rw [HS.out]; exact step_bad (k := k) HW.out hb (tell_no (fun h => by have := h.1; rw [HDD.out] at this; omega) (fun h => by rw [hu] at h; exact absurd h.2.2 (by simp)))))
                clear hb
                have HSOM : Hid (s.p.isSome = true) := Lib.hid (by rw [hu]; rfl)
                clear hu
                go_wp2_with (first
                  | ((with_reducible show wpList _ _ _ ({ dst := some 21, op := Op.load _ _, type := _, pos := _, after := _, guard := _ } :: _) _ _); go_must (refine wpList_load_at rfl 45 (.tmp 20) rfl (a.add (k * 3)) IC _ Tryd.underlying45 rfl HSI.out HAC.out ?_ ?_; go_simp))
                  | ((with_reducible show wpList _ _ _ ({ dst := none, op := Op.store 45 _ _, type := _, pos := _, after := _, guard := _ } :: _) _ _); go_must (refine wpList_store_new rfl 45 (.tmp 8) (.tmp 21) rfl IC HSI.out HI1.out (by rw [HI3.out]; rfl) ?_ ?_ ?_; go_simp; go_simp; intro w2 hr2 hb2 hz2; have R2 := Lib.hid hr2; have B2 := Lib.hid hb2; clear hr2 hb2 hz2; have RM2 := Lib.hid (HMR.out.below B2.out HMR.out.lt)))
                  | ((with_reducible show wpList _ _ _ ({ dst := some 22, op := Op.load _ _, type := _, pos := _, after := _, guard := _ } :: _) _ _); go_must (refine wpList_load_whole rfl 30 (.tmp 1) rfl w.heap.size 30 MC _ Tryd.underlying30 rfl HSM.out RM2.out ?_ ?_; go_simp))
                  | ((with_reducible show wpList _ _ _ ({ dst := some 23, op := Op.load _ _, type := _, pos := _, after := _, guard := _ } :: _) _ _); go_must (refine wpList_load_whole rfl 45 (.tmp 8) rfl wr.heap.size 45 IC _ Tryd.underlying45 rfl HSI.out R2.out ?_ ?_; go_simp)))
                have HB2 : Hid (Below (w.heap.size + 2) wr w2) := Lib.hid (B2.out.mono (by have := HSB.out; have := HWS.out; omega))
                refine (HOB.out w2 (HB.out.trans HB2.out)).mono ?_
                rintro e w3 ⟨rfl, hb3⟩
                rw [HW.out]
                have HLT2 : Hid (wr.heap.size < w2.heap.size) := Lib.hid R2.out.lt
                have HLR : Hid (w.heap.size + 2 < wr.heap.size) := Lib.hid HR.out.lt
                have HB3 : Hid (Below (w.heap.size + 2) wr w3) := Lib.hid (HB2.out.trans (hb3.mono (by have := HLT2.out; have := HLR.out; omega)))
                have HR3 : Hid (Row w3 (w.heap.size + 2) 36 (rcells8 s)) := Lib.hid ((HR.out.below B2.out HLR.out).below hb3 (by have := HLT2.out; have := HLR.out; omega))
                clear c37
                have d2 := ((R2.out.below hb3 R2.out.lt).cell 2).trans HI2.out
                have e2 : w3.cell? ⟨w.heap.size + 2, 2, none⟩ = some (.int .i64 s.bad) := HR3.out.cell 2
                clear hb3 HOB
                have f2 := HR3.out.frozen 2
                have db := (HDA.out (by omega)).2 w3 HB3.out
                go_wp2_with fail
                go_roundw
                case rel => exact ⟨k + 1, ⟨s.u, s.p, s.o, k⟩, by omega, by go_num, HST.out, rfl, by show Value.bool true = .bool s.p.isSome; rw [HSOM.out], rfl, HR3.out.set_ 2 _, (HB.out.trans HB3.out).setCell (by show w.heap.size + 2 ≤ w.heap.size + 2; omega) _⟩
                case measure => simp [intOf]; omega
              | none =>
                have HST : Hid (run8 keys l (k + 1) = ⟨s.u, some (num r 8), s.o, s.bad⟩) := Lib.hid ((run8_succ (keys := keys) HX.out).trans (by rw [HS.out]; exact step_told (k := k) HW.out hb ((tell_9 HDD.out HZ.out hu).trans (by rw [HRR.out]))))
                have HG : Hid (∀ V : World, Below (w.heap.size + 2) wr V → Calls Tryd.prog 22 #[.slice (tailAt (some da) dc 1) 8 (dc - 1), .int .i64 8] V fun e w' => e = .returned (.tuple #[.int .u64 (num r 8), .int .i64 0]) ∧ V = w') := Lib.hid fun V hV => by
                  have h := refGet (tailAt (some da) dc 1) 8 (dc - 1) r 8 V B (by
                    have h1 := (HD.out.below (hV.mono (by have := HBB.out; omega))).tail (k := 1) (by omega) HDC.out.1
                    rw [bv_drop1, HRR.out] at h1
                    exact h1) (Nat.le_trans (show 8 ≤ 9 by omega) (Nat.le_trans HDC.out.1 HDC.out.2)) HDB.out
                  have e : getN r 8 = (num r 8, 0) := by unfold getN; rw [if_neg (by omega), if_neg (by rw [← HRR.out, List.length_drop, HDD.out]; omega)]; rfl
                  rw [e] at h
                  exact h
                have HSOM : Hid (s.p.isSome = false) := Lib.hid (by rw [hu]; rfl)
                clear hb hu
                go_wp2_with (first
                  | ((with_reducible show wpList _ _ _ ({ dst := some 21, op := Op.load _ _, type := _, pos := _, after := _, guard := _ } :: _) _ _); go_must (refine wpList_load_at rfl 45 (.tmp 20) rfl (a.add (k * 3)) IC _ Tryd.underlying45 rfl HSI.out HAC.out ?_ ?_; go_simp))
                  | ((with_reducible show wpList _ _ _ ({ dst := none, op := Op.store 45 _ _, type := _, pos := _, after := _, guard := _ } :: _) _ _); go_must (refine wpList_store_new rfl 45 (.tmp 8) (.tmp 21) rfl IC HSI.out HI1.out (by rw [HI3.out]; rfl) ?_ ?_ ?_; go_simp; go_simp; intro w2 hr2 hb2 hz2; have R2 := Lib.hid hr2; have B2 := Lib.hid hb2; clear hr2 hb2 hz2; have RM2 := Lib.hid (HMR.out.below B2.out HMR.out.lt)))
                  | ((with_reducible show wpList _ _ _ ({ dst := some 22, op := Op.load _ _, type := _, pos := _, after := _, guard := _ } :: _) _ _); go_must (refine wpList_load_whole rfl 30 (.tmp 1) rfl w.heap.size 30 MC _ Tryd.underlying30 rfl HSM.out RM2.out ?_ ?_; go_simp))
                  | ((with_reducible show wpList _ _ _ ({ dst := some 23, op := Op.load _ _, type := _, pos := _, after := _, guard := _ } :: _) _ _); go_must (refine wpList_load_whole rfl 45 (.tmp 8) rfl wr.heap.size 45 IC _ Tryd.underlying45 rfl HSI.out R2.out ?_ ?_; go_simp)))
                have HB2 : Hid (Below (w.heap.size + 2) wr w2) := Lib.hid (B2.out.mono (by have := HSB.out; have := HWS.out; omega))
                refine (HOB.out w2 (HB.out.trans HB2.out)).mono ?_
                rintro e w3 ⟨rfl, hb3⟩
                rw [HW.out]
                have HLT2 : Hid (wr.heap.size < w2.heap.size) := Lib.hid R2.out.lt
                have HLR : Hid (w.heap.size + 2 < wr.heap.size) := Lib.hid HR.out.lt
                have HB3 : Hid (Below (w.heap.size + 2) wr w3) := Lib.hid (HB2.out.trans (hb3.mono (by have := HLT2.out; have := HLR.out; omega)))
                have HR3 : Hid (Row w3 (w.heap.size + 2) 36 (rcells8 s)) := Lib.hid ((HR.out.below B2.out HLR.out).below hb3 (by have := HLT2.out; have := HLR.out; omega))
                clear c37
                have d2 := ((R2.out.below hb3 R2.out.lt).cell 2).trans HI2.out
                have e2 : w3.cell? ⟨w.heap.size + 2, 2, none⟩ = some (.int .i64 s.bad) := HR3.out.cell 2
                clear hb3 HOB
                have db := (HDA.out (by omega)).2 w3 HB3.out
                have e0 : w3.cell? ⟨w.heap.size + 2, 0, none⟩ = some (.int .u64 (s.u.getD 0)) := HR3.out.cell 0
                have e1 : w3.cell? ⟨w.heap.size + 2, 1, none⟩ = some (.int .u64 (s.p.getD 0)) := HR3.out.cell 1
                have f0 := HR3.out.frozen 0
                have f1 := HR3.out.frozen 1
                go_wp2_with ((with_reducible show wpList _ _ _ ({ dst := some 76, op := Op.slice _ _ _ _ _, type := _, pos := _, after := _, guard := _ } :: _) _ _); go_must (refine wpList_tail rfl 40 5 (.tmp 75) (.const (.int .i64 1)) rfl Tryd.underlying40 size_b8 (some da) 9 dc 1 ?_ ?_ (by omega) HDC.out.1 HDC.out.2 ?_; go_simp; go_simp))
                refine (HG.out w3 HB3.out).mono ?_
                rintro e w4 ⟨rfl, rfl⟩
                go_wp2_with fail
                go_roundw
                case rel => exact ⟨k + 1, ⟨s.u, some (num r 8), s.o, s.bad⟩, by omega, by go_num, HST.out, rfl, rfl, rfl, HR3.out.set_ 1 _, (HB.out.trans HB3.out).setCell (by show w.heap.size + 2 ≤ w.heap.size + 2; omega) _⟩
                case measure => simp [intOf]; omega
            · have HST : Hid (run8 keys l (k + 1) = ⟨s.u, s.p, s.o, k⟩) := Lib.hid ((run8_succ (keys := keys) HX.out).trans (by rw [HS.out]; exact step_bad (k := k) HW.out hb (tell_no (fun h => by have := h.1; rw [HDD.out] at this; omega) (fun h => by have := h.2.1; rw [HZ.out] at this; omega))))
              clear hb
              go_wp2_with (first
                | ((with_reducible show wpList _ _ _ ({ dst := some 21, op := Op.load _ _, type := _, pos := _, after := _, guard := _ } :: _) _ _); go_must (refine wpList_load_at rfl 45 (.tmp 20) rfl (a.add (k * 3)) IC _ Tryd.underlying45 rfl HSI.out HAC.out ?_ ?_; go_simp))
                | ((with_reducible show wpList _ _ _ ({ dst := none, op := Op.store 45 _ _, type := _, pos := _, after := _, guard := _ } :: _) _ _); go_must (refine wpList_store_new rfl 45 (.tmp 8) (.tmp 21) rfl IC HSI.out HI1.out (by rw [HI3.out]; rfl) ?_ ?_ ?_; go_simp; go_simp; intro w2 hr2 hb2 hz2; have R2 := Lib.hid hr2; have B2 := Lib.hid hb2; clear hr2 hb2 hz2; have RM2 := Lib.hid (HMR.out.below B2.out HMR.out.lt)))
                | ((with_reducible show wpList _ _ _ ({ dst := some 22, op := Op.load _ _, type := _, pos := _, after := _, guard := _ } :: _) _ _); go_must (refine wpList_load_whole rfl 30 (.tmp 1) rfl w.heap.size 30 MC _ Tryd.underlying30 rfl HSM.out RM2.out ?_ ?_; go_simp))
                | ((with_reducible show wpList _ _ _ ({ dst := some 23, op := Op.load _ _, type := _, pos := _, after := _, guard := _ } :: _) _ _); go_must (refine wpList_load_whole rfl 45 (.tmp 8) rfl wr.heap.size 45 IC _ Tryd.underlying45 rfl HSI.out R2.out ?_ ?_; go_simp)))
              have HB2 : Hid (Below (w.heap.size + 2) wr w2) := Lib.hid (B2.out.mono (by have := HSB.out; have := HWS.out; omega))
              refine (HOB.out w2 (HB.out.trans HB2.out)).mono ?_
              rintro e w3 ⟨rfl, hb3⟩
              rw [HW.out]
              have HLT2 : Hid (wr.heap.size < w2.heap.size) := Lib.hid R2.out.lt
              have HLR : Hid (w.heap.size + 2 < wr.heap.size) := Lib.hid HR.out.lt
              have HB3 : Hid (Below (w.heap.size + 2) wr w3) := Lib.hid (HB2.out.trans (hb3.mono (by have := HLT2.out; have := HLR.out; omega)))
              have HR3 : Hid (Row w3 (w.heap.size + 2) 36 (rcells8 s)) := Lib.hid ((HR.out.below B2.out HLR.out).below hb3 (by have := HLT2.out; have := HLR.out; omega))
              clear c37
              have d2 := ((R2.out.below hb3 R2.out.lt).cell 2).trans HI2.out
              have e2 : w3.cell? ⟨w.heap.size + 2, 2, none⟩ = some (.int .i64 s.bad) := HR3.out.cell 2
              clear hb3 HOB
              have f2 := HR3.out.frozen 2
              have db := (HDA.out (by omega)).2 w3 HB3.out
              go_wp2_with fail
              go_roundw
              case rel => exact ⟨k + 1, ⟨s.u, s.p, s.o, k⟩, by omega, by go_num, HST.out, rfl, rfl, rfl, HR3.out.set_ 2 _, (HB.out.trans HB3.out).setCell (by show w.heap.size + 2 ≤ w.heap.size + 2; omega) _⟩
              case measure => simp [intOf]; omega
          · have hq5 : ¬ (dn : Int) = 5 := by omega
            have hq9 : ¬ (dn : Int) = 9 := by omega
            have HST : Hid (run8 keys l (k + 1) = ⟨s.u, s.p, s.o, k⟩) := Lib.hid ((run8_succ (keys := keys) HX.out).trans (by rw [HS.out]; exact step_bad (k := k) HW.out hb (tell_no (fun h => by have := h.1; rw [HDD.out] at this; omega) (fun h => by have := h.1; rw [HDD.out] at this; omega))))
            clear hb
            go_wp2_with (first
              | ((with_reducible show wpList _ _ _ ({ dst := some 21, op := Op.load _ _, type := _, pos := _, after := _, guard := _ } :: _) _ _); go_must (refine wpList_load_at rfl 45 (.tmp 20) rfl (a.add (k * 3)) IC _ Tryd.underlying45 rfl HSI.out HAC.out ?_ ?_; go_simp))
              | ((with_reducible show wpList _ _ _ ({ dst := none, op := Op.store 45 _ _, type := _, pos := _, after := _, guard := _ } :: _) _ _); go_must (refine wpList_store_new rfl 45 (.tmp 8) (.tmp 21) rfl IC HSI.out HI1.out (by rw [HI3.out]; rfl) ?_ ?_ ?_; go_simp; go_simp; intro w2 hr2 hb2 hz2; have R2 := Lib.hid hr2; have B2 := Lib.hid hb2; clear hr2 hb2 hz2; have RM2 := Lib.hid (HMR.out.below B2.out HMR.out.lt)))
              | ((with_reducible show wpList _ _ _ ({ dst := some 22, op := Op.load _ _, type := _, pos := _, after := _, guard := _ } :: _) _ _); go_must (refine wpList_load_whole rfl 30 (.tmp 1) rfl w.heap.size 30 MC _ Tryd.underlying30 rfl HSM.out RM2.out ?_ ?_; go_simp))
              | ((with_reducible show wpList _ _ _ ({ dst := some 23, op := Op.load _ _, type := _, pos := _, after := _, guard := _ } :: _) _ _); go_must (refine wpList_load_whole rfl 45 (.tmp 8) rfl wr.heap.size 45 IC _ Tryd.underlying45 rfl HSI.out R2.out ?_ ?_; go_simp)))
            have HB2 : Hid (Below (w.heap.size + 2) wr w2) := Lib.hid (B2.out.mono (by have := HSB.out; have := HWS.out; omega))
            refine (HOB.out w2 (HB.out.trans HB2.out)).mono ?_
            rintro e w3 ⟨rfl, hb3⟩
            rw [HW.out]
            have HLT2 : Hid (wr.heap.size < w2.heap.size) := Lib.hid R2.out.lt
            have HLR : Hid (w.heap.size + 2 < wr.heap.size) := Lib.hid HR.out.lt
            have HB3 : Hid (Below (w.heap.size + 2) wr w3) := Lib.hid (HB2.out.trans (hb3.mono (by have := HLT2.out; have := HLR.out; omega)))
            have HR3 : Hid (Row w3 (w.heap.size + 2) 36 (rcells8 s)) := Lib.hid ((HR.out.below B2.out HLR.out).below hb3 (by have := HLT2.out; have := HLR.out; omega))
            clear c37
            have d2 := ((R2.out.below hb3 R2.out.lt).cell 2).trans HI2.out
            have e2 : w3.cell? ⟨w.heap.size + 2, 2, none⟩ = some (.int .i64 s.bad) := HR3.out.cell 2
            clear hb3 HOB
            have f2 := HR3.out.frozen 2
            go_wp2_with fail
            go_roundw
            case rel => exact ⟨k + 1, ⟨s.u, s.p, s.o, k⟩, by omega, by go_num, HST.out, rfl, rfl, rfl, HR3.out.set_ 2 _, (HB.out.trans HB3.out).setCell (by show w.heap.size + 2 ≤ w.heap.size + 2; omega) _⟩
            case measure => simp [intOf]; omega
      · have hw : isW keys x.p = false := by simpa using hw
        have HW := Lib.hid hw
        have HST : Hid (run8 keys l (k + 1) = ⟨s.u, s.p, s.o + 1, s.bad⟩) := Lib.hid ((run8_succ (keys := keys) HX.out).trans (by rw [HS.out]; exact step_no (k := k) HW.out))
        have hso : s.o ≤ k := HO.out.o
        clear hw
        go_wp2_with (first
          | ((with_reducible show wpList _ _ _ ({ dst := some 21, op := Op.load _ _, type := _, pos := _, after := _, guard := _ } :: _) _ _); go_must (refine wpList_load_at rfl 45 (.tmp 20) rfl (a.add (k * 3)) IC _ Tryd.underlying45 rfl HSI.out HAC.out ?_ ?_; go_simp))
          | ((with_reducible show wpList _ _ _ ({ dst := none, op := Op.store 45 _ _, type := _, pos := _, after := _, guard := _ } :: _) _ _); go_must (refine wpList_store_new rfl 45 (.tmp 8) (.tmp 21) rfl IC HSI.out HI1.out (by rw [HI3.out]; rfl) ?_ ?_ ?_; go_simp; go_simp; intro w2 hr2 hb2 hz2; have R2 := Lib.hid hr2; have B2 := Lib.hid hb2; clear hr2 hb2 hz2; have RM2 := Lib.hid (HMR.out.below B2.out HMR.out.lt)))
          | ((with_reducible show wpList _ _ _ ({ dst := some 22, op := Op.load _ _, type := _, pos := _, after := _, guard := _ } :: _) _ _); go_must (refine wpList_load_whole rfl 30 (.tmp 1) rfl w.heap.size 30 MC _ Tryd.underlying30 rfl HSM.out RM2.out ?_ ?_; go_simp))
          | ((with_reducible show wpList _ _ _ ({ dst := some 23, op := Op.load _ _, type := _, pos := _, after := _, guard := _ } :: _) _ _); go_must (refine wpList_load_whole rfl 45 (.tmp 8) rfl wr.heap.size 45 IC _ Tryd.underlying45 rfl HSI.out R2.out ?_ ?_; go_simp)))
        have HB2 : Hid (Below (w.heap.size + 2) wr w2) := Lib.hid (B2.out.mono (by have := HSB.out; have := HWS.out; omega))
        refine (HOB.out w2 (HB.out.trans HB2.out)).mono ?_
        rintro e w3 ⟨rfl, hb3⟩
        rw [HW.out]
        have HLT2 : Hid (wr.heap.size < w2.heap.size) := Lib.hid R2.out.lt
        have HLR : Hid (w.heap.size + 2 < wr.heap.size) := Lib.hid HR.out.lt
        have HB3 : Hid (Below (w.heap.size + 2) wr w3) := Lib.hid (HB2.out.trans (hb3.mono (by have := HLT2.out; have := HLR.out; omega)))
        have HR3 : Hid (Row w3 (w.heap.size + 2) 36 (rcells8 s)) := Lib.hid ((HR.out.below B2.out HLR.out).below hb3 (by have := HLT2.out; have := HLR.out; omega))
        clear c37
        clear hb3 HOB
        go_wp2_with fail
        go_roundw
        case rel => exact ⟨k + 1, _, by omega, by go_num, HST.out, rfl, rfl, by go_num, HR3.out, HB.out.trans HB3.out⟩
        case measure => simp [intOf]; omega
    · obtain rfl : k = n := by omega
      have HBU : Hid (bud8 s = [.int .u64 (units8 s), .int .u64 (s.p.getD 0), .int .i64 s.bad]) := Lib.hid rfl
      have HRB2 : Hid (Row wr (w.heap.size + 1) 36 [.int .u64 0, .int .u64 0, .int .i64 0]) := Lib.hid (HRB.out.below HB.out (by omega))
      have HBD : Hid (Below w.heap.size w wr) := Lib.hid (HB0.out.trans (HB.out.mono (by omega)))
      have hso := HO.out.o
      have e0 : wr.cell? ⟨w.heap.size + 2, 0, none⟩ = some (.int .u64 (s.u.getD 0)) := HR.out.cell 0
      have f0 := HR.out.frozen 0
      obtain ⟨u, p, o, bad⟩ := s
      dsimp only at *
      have hwr : IntKind.u64.wrap ((o : Int) * 200000) = (o : Int) * 200000 := u64_in _ (by omega) (by omega)
      have hwo : IntKind.u64.wrap (o : Int) = (o : Int) := u64_in _ (by omega) (by omega)
      cases u with
      | none =>
        simp only [Option.getD_none, Option.isSome_none] at *
        rcases (show 1400000 < (o : Int) * 200000 ∨ (o : Int) * 200000 ≤ 1400000 by omega) with h | h
        · have HU : Hid (units8 ⟨none, p, o, bad⟩ = 1400000) := Lib.hid (by unfold units8; show (if (1400000 : Int) < (o : Int) * 200000 then (1400000 : Int) else (o : Int) * 200000) = 1400000; rw [if_pos h])
          go_upto_region 23 with fail
          have HRF : Hid (Row _ (w.heap.size + 2) 36 [.int .u64 (1400000), .int .u64 (p.getD 0), .int .i64 bad]) := Lib.hid (((HR.out).set_ 0 (.int .u64 ((o : Int) * 200000))).set_ 0 (.int .u64 1400000))
          have HFA := Lib.hid (((HRB2.out).far (p := ⟨w.heap.size + 2, 0, none⟩) (by show w.heap.size + 1 ≠ w.heap.size + 2; omega) (.int .u64 ((o : Int) * 200000))).far (p := ⟨w.heap.size + 2, 0, none⟩) (by show w.heap.size + 1 ≠ w.heap.size + 2; omega) (.int .u64 1400000))
          have HBL := Lib.hid (((HBD.out).setCell (p := ⟨w.heap.size + 2, 0, none⟩) (by show w.heap.size ≤ w.heap.size + 2; omega) (.int .u64 ((o : Int) * 200000))).setCell (p := ⟨w.heap.size + 2, 0, none⟩) (by show w.heap.size ≤ w.heap.size + 2; omega) (.int .u64 1400000))
          go_wp2_with (first
            | ((with_reducible show wpList _ _ _ ({ dst := some 91, op := Op.load _ _, type := _, pos := _, after := _, guard := _ } :: _) _ _); go_must (refine wpList_load_whole rfl 36 (.tmp 3) rfl (w.heap.size + 2) 36 [.int .u64 (1400000), .int .u64 (p.getD 0), .int .i64 bad] _ Tryd.underlying36 rfl (size_bud _ _ _) HRF.out ?_ ?_; go_simp))
            | ((with_reducible show wpList _ _ _ ({ dst := none, op := Op.store 36 _ _, type := _, pos := _, after := _, guard := _ } :: _) _ _); go_must (refine wpList_store_whole rfl 36 (.tmp 2) (.tmp 91) rfl (w.heap.size + 1) _ [.int .u64 (1400000), .int .u64 (p.getD 0), .int .i64 bad] HFA.out (size_bud _ _ _) rfl (bud_one _ _ _) ?_ ?_ ?_; go_simp; go_simp; intro w5 hr5 ht5; have R5 := Lib.hid hr5; have B5 := Lib.hid (HBL.out.trans (ht5.below (by omega))); clear hr5 ht5)))
          refine bodyPost_ret (results_cell_row (h := rfl) _ w5 (w.heap.size + 1) 36 _ (0, 0) _ (by rfl) R5.out.is Tryd.underlying36 rfl (size_bud _ _ _)) rfl ?_
          exact ⟨by rw [HIL.out, HS.out, HBU.out, HU.out], B5.out⟩
        · have HU : Hid (units8 ⟨none, p, o, bad⟩ = (o : Int) * 200000) := Lib.hid (by unfold units8; show (if (1400000 : Int) < (o : Int) * 200000 then (1400000 : Int) else (o : Int) * 200000) = (o : Int) * 200000; rw [if_neg (by omega)])
          go_upto_region 23 with fail
          have HRF : Hid (Row _ (w.heap.size + 2) 36 [.int .u64 ((o : Int) * 200000), .int .u64 (p.getD 0), .int .i64 bad]) := Lib.hid ((HR.out).set_ 0 (.int .u64 ((o : Int) * 200000)))
          have HFA := Lib.hid ((HRB2.out).far (p := ⟨w.heap.size + 2, 0, none⟩) (by show w.heap.size + 1 ≠ w.heap.size + 2; omega) (.int .u64 ((o : Int) * 200000)))
          have HBL := Lib.hid ((HBD.out).setCell (p := ⟨w.heap.size + 2, 0, none⟩) (by show w.heap.size ≤ w.heap.size + 2; omega) (.int .u64 ((o : Int) * 200000)))
          go_wp2_with (first
            | ((with_reducible show wpList _ _ _ ({ dst := some 91, op := Op.load _ _, type := _, pos := _, after := _, guard := _ } :: _) _ _); go_must (refine wpList_load_whole rfl 36 (.tmp 3) rfl (w.heap.size + 2) 36 [.int .u64 ((o : Int) * 200000), .int .u64 (p.getD 0), .int .i64 bad] _ Tryd.underlying36 rfl (size_bud _ _ _) HRF.out ?_ ?_; go_simp))
            | ((with_reducible show wpList _ _ _ ({ dst := none, op := Op.store 36 _ _, type := _, pos := _, after := _, guard := _ } :: _) _ _); go_must (refine wpList_store_whole rfl 36 (.tmp 2) (.tmp 91) rfl (w.heap.size + 1) _ [.int .u64 ((o : Int) * 200000), .int .u64 (p.getD 0), .int .i64 bad] HFA.out (size_bud _ _ _) rfl (bud_one _ _ _) ?_ ?_ ?_; go_simp; go_simp; intro w5 hr5 ht5; have R5 := Lib.hid hr5; have B5 := Lib.hid (HBL.out.trans (ht5.below (by omega))); clear hr5 ht5)))
          refine bodyPost_ret (results_cell_row (h := rfl) _ w5 (w.heap.size + 1) 36 _ (0, 0) _ (by rfl) R5.out.is Tryd.underlying36 rfl (size_bud _ _ _)) rfl ?_
          exact ⟨by rw [HIL.out, HS.out, HBU.out, HU.out], B5.out⟩
      | some v =>
        simp only [Option.getD_some, Option.isSome_some] at *
        rcases (show 1400000 < v ∨ v ≤ 1400000 by omega) with h | h
        · have HU : Hid (units8 ⟨some v, p, o, bad⟩ = 1400000) := Lib.hid (by unfold units8; show (if (1400000 : Int) < v then (1400000 : Int) else v) = 1400000; rw [if_pos h])
          go_upto_region 23 with fail
          have HRF : Hid (Row _ (w.heap.size + 2) 36 [.int .u64 (1400000), .int .u64 (p.getD 0), .int .i64 bad]) := Lib.hid ((HR.out).set_ 0 (.int .u64 1400000))
          have HFA := Lib.hid ((HRB2.out).far (p := ⟨w.heap.size + 2, 0, none⟩) (by show w.heap.size + 1 ≠ w.heap.size + 2; omega) (.int .u64 1400000))
          have HBL := Lib.hid ((HBD.out).setCell (p := ⟨w.heap.size + 2, 0, none⟩) (by show w.heap.size ≤ w.heap.size + 2; omega) (.int .u64 1400000))
          go_wp2_with (first
            | ((with_reducible show wpList _ _ _ ({ dst := some 91, op := Op.load _ _, type := _, pos := _, after := _, guard := _ } :: _) _ _); go_must (refine wpList_load_whole rfl 36 (.tmp 3) rfl (w.heap.size + 2) 36 [.int .u64 (1400000), .int .u64 (p.getD 0), .int .i64 bad] _ Tryd.underlying36 rfl (size_bud _ _ _) HRF.out ?_ ?_; go_simp))
            | ((with_reducible show wpList _ _ _ ({ dst := none, op := Op.store 36 _ _, type := _, pos := _, after := _, guard := _ } :: _) _ _); go_must (refine wpList_store_whole rfl 36 (.tmp 2) (.tmp 91) rfl (w.heap.size + 1) _ [.int .u64 (1400000), .int .u64 (p.getD 0), .int .i64 bad] HFA.out (size_bud _ _ _) rfl (bud_one _ _ _) ?_ ?_ ?_; go_simp; go_simp; intro w5 hr5 ht5; have R5 := Lib.hid hr5; have B5 := Lib.hid (HBL.out.trans (ht5.below (by omega))); clear hr5 ht5)))
          refine bodyPost_ret (results_cell_row (h := rfl) _ w5 (w.heap.size + 1) 36 _ (0, 0) _ (by rfl) R5.out.is Tryd.underlying36 rfl (size_bud _ _ _)) rfl ?_
          exact ⟨by rw [HIL.out, HS.out, HBU.out, HU.out], B5.out⟩
        · have HU : Hid (units8 ⟨some v, p, o, bad⟩ = v) := Lib.hid (by unfold units8; show (if (1400000 : Int) < v then (1400000 : Int) else v) = v; rw [if_neg (by omega)])
          go_upto_region 23 with fail
          have HRF : Hid (Row _ (w.heap.size + 2) 36 [.int .u64 (v), .int .u64 (p.getD 0), .int .i64 bad]) := Lib.hid (HR.out)
          have HFA := Lib.hid (HRB2.out)
          have HBL := Lib.hid (HBD.out)
          go_wp2_with (first
            | ((with_reducible show wpList _ _ _ ({ dst := some 91, op := Op.load _ _, type := _, pos := _, after := _, guard := _ } :: _) _ _); go_must (refine wpList_load_whole rfl 36 (.tmp 3) rfl (w.heap.size + 2) 36 [.int .u64 (v), .int .u64 (p.getD 0), .int .i64 bad] _ Tryd.underlying36 rfl (size_bud _ _ _) HRF.out ?_ ?_; go_simp))
            | ((with_reducible show wpList _ _ _ ({ dst := none, op := Op.store 36 _ _, type := _, pos := _, after := _, guard := _ } :: _) _ _); go_must (refine wpList_store_whole rfl 36 (.tmp 2) (.tmp 91) rfl (w.heap.size + 1) _ [.int .u64 (v), .int .u64 (p.getD 0), .int .i64 bad] HFA.out (size_bud _ _ _) rfl (bud_one _ _ _) ?_ ?_ ?_; go_simp; go_simp; intro w5 hr5 ht5; have R5 := Lib.hid hr5; have B5 := Lib.hid (HBL.out.trans (ht5.below (by omega))); clear hr5 ht5)))
          refine bodyPost_ret (results_cell_row (h := rfl) _ w5 (w.heap.size + 1) 36 _ (0, 0) _ (by rfl) R5.out.is Tryd.underlying36 rfl (size_bud _ _ _)) rfl ?_
          exact ⟨by rw [HIL.out, HS.out, HBU.out, HU.out], B5.out⟩
end Go.Proofs.YtdeadehcnellpaaDoor

/-
  Of part OfWalk8: what is needed here.
-/
namespace Go.Proofs.YtdeadehcnellpaaDoor
open Go.RowKit
set_option linter.unusedVariables false
theorem wf_ins8 {m : LMsg} (h : m.Wf) : ∀ i ∈ m.ins, IsByte i.p ∧ AllBytes i.dat := fun i hi => ⟨(h.ins i hi).1, (h.ins i hi).2.2⟩
set_option maxRecDepth 100000 in
set_option maxHeartbeats 4000000 in
theorem of_walk8 (q : Raw) (m : LMsg) (w : World) (hm : MsgIn w w.heap.size q m) (hs : Sized m) (hwf : m.Wf) (hl : LenAt w) :
    Calls Tryd.prog 3 #[.agg (q.cells m).toArray] w fun e w' => e = .returned (.bool true) ∧ Below w.heap.size w w' := by
  have hrow := Row.new w 30 (q.cells m)
  have hb0 := (Below.refl w.heap.size w).alloc (Nat.le_refl _) (.cells (q.cells m).toArray 30)
  have hm0 := hm.below hb0
  have HG := Lib.hid (great_ q m w.heap.size _ hm0 hb0.size hs)
  have HTS := Lib.hid (show (Tryd.prog.info? 30).map (·.size) = some (q.cells m).length by rw [size_msg, cells_len hm.recent])
  have H32 := Lib.hid hm.recent
  have HROW := Lib.hid hrow
  have HM0 := Lib.hid hm0
  have HB0 := Lib.hid hb0
  have HIB := Lib.hid (wf_ins8 hwf)
  have HL := Lib.hid hl
  have HP := Lib.hid hl.pos
  clear hrow hb0 hm0 hm hs hwf hl
  go_enter Tryd.func3, Tryd.ntmps3
  go_wp2_with ((with_reducible show wpList _ _ _ ({ dst := some 4, op := Op.load _ _, type := _, pos := _, after := _, guard := _ } :: _) _ _); go_must (refine wpList_load_whole rfl 30 (.tmp 1) rfl w.heap.size 30 (q.cells m) _ Tryd.underlying30 rfl HTS.out HROW.out ?_ ?_; go_simp))
  refine HG.out.mono ?_
  rintro e w1 ⟨⟨b, rfl, hgr⟩, hb1⟩
  cases b
  rotate_left
  · have hbw := HB0.out.trans (hb1.mono HB0.out.size)
    have HBW := Lib.hid hbw
    clear hbw hb1 hgr
    go_wp2_with fail
    refine (lives8 _ (HL.out.below HBW.out HP.out)).mono ?_
    rintro e w2 ⟨rfl, hb2⟩
    go_wp2_with fail
    go_ret
    exact ⟨rfl, HBW.out.trans (hb2.mono HBW.out.size)⟩
  have ht := hgr rfl
  have hsz : m.keys.length ≤ 65535 ∧ m.ins.length ≤ 65535 ∧ m.looks.length ≤ 65535 := by unfold total at ht; omega
  have hix : ∀ i ∈ m.ins, i.acc.length ≤ 65535 ∧ i.dat.length ≤ 65535 := fun i hi => by have := size_mem hi; unfold total at ht; omega
  have hlx : ∀ l ∈ m.looks, l.wr.length ≤ 65535 ∧ l.rd.length ≤ 65535 := fun l hl => by have := lsize_mem hl; unfold total at ht; omega
  have HIN : Hid (m.ins.length ≤ 4000) := Lib.hid (by unfold total at ht; omega)
  have HR1 := Lib.hid (HROW.out.below hb1 HROW.out.lt)
  have HB1 := Lib.hid (HB0.out.trans (hb1.mono HB0.out.size))
  have HM1 := Lib.hid (HM0.out.below (hb1.mono HB0.out.size))
  have HT := Lib.hid (twinMessage q m w.heap.size w1 HM1.out HB1.out.size hsz.1 hsz.2.1 hsz.2.2 hix hlx)
  have HSZ := Lib.hid hsz
  have HXX := Lib.hid (And.intro hix hlx)
  clear hgr ht hsz hix hlx hb1 HG HM0 HROW
  go_wp2_with ((with_reducible show wpList _ _ _ ({ dst := some 7, op := Op.load _ _, type := _, pos := _, after := _, guard := _ } :: _) _ _); go_must (refine wpList_load_whole rfl 30 (.tmp 1) rfl w.heap.size 30 (q.cells m) _ Tryd.underlying30 rfl HTS.out HR1.out ?_ ?_; go_simp))
  refine HT.out.mono ?_
  rintro e w2 hdone
  obtain ⟨s2, gk, rfl, hgk, hv, htw, hb2⟩ := hdone.parts H32.out HSZ.out
  have HTS2 := Lib.hid (show (Tryd.prog.info? 30).map (·.size) = some (s2.cells m).length by rw [size_msg, cells_len hv.recent])
  have HTL2 := Lib.hid (cells_len (q := s2) (m := m) hv.recent)
  have HV := Lib.hid hv.in_
  have HTW := Lib.hid htw
  have B2 := Lib.hid hb2
  clear hdone hv htw hgk hb2 HT
  go_upto_region 4 with ((with_reducible show wpList _ _ _ ({ dst := none, op := Op.store 30 _ _, type := _, pos := _, after := _, guard := _ } :: _) _ _); go_must (refine wpList_store_new rfl 30 (.tmp 3) (.tmp 8) rfl (s2.cells m) HTS2.out cells_one (by rw [HTL2.out]; rfl) ?_ ?_ ?_; go_simp; go_simp; intro w3 hr3 hb3 hz3; have R3 := Lib.hid hr3; have B3 := Lib.hid hb3; clear hr3 hb3 hz3))
  have B02 : Hid (Below w.heap.size w w2) := Lib.hid (HB1.out.trans (B2.out.mono HB1.out.size))
  have E0 : Hid (Below w2.heap.size w2 w3.drew) := Lib.hid (B3.out.drew)
  have R10 : Hid (Row w3.drew w.heap.size 30 (q.cells m)) := Lib.hid ((HR1.out.below B2.out HR1.out.lt).below E0.out (HR1.out.below B2.out HR1.out.lt).lt)
  have R20 : Hid (Row w3.drew w2.heap.size 30 (s2.cells m)) := Lib.hid R3.out.drew
  have M0 : Hid (MsgIn w3.drew w.heap.size q m) := Lib.hid ((HM1.out.below (B2.out.mono HB1.out.size)).below (E0.out.mono B02.out.size))
  have T0 : Hid (TwIn w3.drew s2 m) := Lib.hid (HTW.out.below E0.out)
  have N0 : Hid (MsgIn w3.drew w2.heap.size s2 m) := Lib.hid (HV.out.below E0.out)
  have HSS : Hid (∀ V : World, Row V w.heap.size 30 (q.cells m) → Row V w2.heap.size 30 (s2.cells m) → V.rangeAt w.heap.size 0 (q.cells m) ∧ V.rangeAt w2.heap.size 0 (s2.cells m)) := Lib.hid fun V h h' => ⟨fun j u hu => by rw [h.cell, Nat.zero_add]; exact hu, fun j u hu => by rw [h'.cell, Nat.zero_add]; exact hu⟩
  have S0 := Lib.hid (HSS.out _ R10.out R20.out)
  refine wp_region_held_drew (S := fun V => V.rangeAt w.heap.size 0 (q.cells m) ∧ V.rangeAt w2.heap.size 0 (s2.cells m)) (by kernel_rfl) S0.out (fun _ => ?_)
  clear HR1 R3 HM1 HTW HV
  have HNB : Hid (w2.heap.size ≤ w3.drew.heap.size) := Lib.hid E0.out.size
  generalize w3.drew = V0 at *
  have HCA : Hid (∀ V : World, MsgIn V w2.heap.size s2 m → w2.heap.size ≤ V.heap.size → Below w2.heap.size w2 V → Calls Tryd.prog 10 #[.agg (s2.cells m).toArray] V fun e w' => e = .returned (.agg (bud8 (all8 m.keys m.ins)).toArray) ∧ Below V.heap.size V w') := Lib.hid fun V h hb hB => ofB_ s2 m _ V h hb HIB.out (by rw [← h.ins.len]; exact HIN.out) (HL.out.below (B02.out.trans (hB.mono B02.out.size)) HP.out)
  have HCB : Hid (∀ V : World, MsgIn V w.heap.size q m → w.heap.size ≤ V.heap.size → Calls Tryd.prog 11 #[.agg (q.cells m).toArray] V fun e w' => e = .returned (.agg (bud8 (all8 m.keys m.ins)).toArray) ∧ Below V.heap.size V w') := Lib.hid fun V h hb => refOf_ q m _ V h hb HIB.out (by rw [← h.ins.len]; exact HIN.out)
  have HCE : Hid (∀ V : World, TwIn V s2 m → MsgIn V w.heap.size q m → w.heap.size ≤ V.heap.size → Calls Tryd.prog 12 #[.agg (s2.cells m).toArray, .agg (q.cells m).toArray] V fun e w' => e = .returned (.bool true) ∧ Below V.heap.size V w') := Lib.hid fun V h h' hb => leftMsg q s2 m w.heap.size V h h' hb HSZ.out.1 HSZ.out.2.1 HSZ.out.2.2 HXX.out.1 HXX.out.2
  have NB : ∀ V : World, (binOp .eql 36 (.agg (bud8 (all8 m.keys m.ins)).toArray) (.agg (bud8 (all8 m.keys m.ins)).toArray)).run Tryd.prog V = .ok (.bool true) V := fun V => bud_eql _ _ _ V
  generalize q.cells m = ca at *
  generalize s2.cells m = cb at *
  generalize bud8 (all8 m.keys m.ins) = bb at *
  refine takeL (i := 0) (v := .agg (cb).toArray) rfl (by kernel_rfl) (by kernel_rfl) (by kernel_rfl) (fun _ _ _ h => h) (yieldsIf_load_mid (by kernel_rfl) 30 (.tmp 3) rfl w2.heap.size 0 (by go_simp) (cb) _ (fun w hw => hw.2) Tryd.underlying30 rfl HTS2.out) S0.out ?_
  try simp only [Act.put, List.setIfInBounds_toArray, List.set_cons_zero, List.set_cons_succ]
  refine takeL (i := 2) (v := .agg (ca).toArray) rfl (by kernel_rfl) (by kernel_rfl) (by kernel_rfl) (fun _ _ _ h => h) (yieldsIf_load_mid (by kernel_rfl) 30 (.tmp 1) rfl w.heap.size 0 (by go_simp) (ca) _ (fun w hw => hw.1) Tryd.underlying30 rfl HTS.out) S0.out ?_
  try simp only [Act.put, List.setIfInBounds_toArray, List.set_cons_zero, List.set_cons_succ]
  refine readyL (i := 1) rfl (by kernel_rfl) (by kernel_rfl) fun K hK => ?_
  go_simp
  refine (HCA.out V0 N0.out HNB.out E0.out).mono ?_
  rintro e V1 ⟨rfl, hb⟩
  simp only []
  have E1 := Lib.hid (E0.out.trans (hb.mono HNB.out))
  have R11 := Lib.hid (R10.out.below hb R10.out.lt)
  have R21 := Lib.hid (R20.out.below hb R20.out.lt)
  have M1 := Lib.hid (M0.out.below (hb.mono (Nat.le_trans B02.out.size HNB.out)))
  have T1 := Lib.hid (T0.out.below (hb.mono (Nat.le_refl _)))
  have N1 := Lib.hid (N0.out.below (hb.mono HNB.out))
  have HNB := Lib.hid (Nat.le_trans HNB.out hb.size)
  have S1 := Lib.hid (HSS.out _ R11.out R21.out)
  clear hb
  refine hK.out _ _ S1.out ?_
  clear hK K
  try simp only [Act.put, List.setIfInBounds_toArray, List.set_cons_zero, List.set_cons_succ]
  refine readyL (i := 3) rfl (by kernel_rfl) (by kernel_rfl) fun K hK => ?_
  go_simp
  refine (HCB.out V1 M1.out (Nat.le_trans B02.out.size HNB.out)).mono ?_
  rintro e V2 ⟨rfl, hb⟩
  simp only []
  have E2 := Lib.hid (E1.out.trans (hb.mono HNB.out))
  have R12 := Lib.hid (R11.out.below hb R11.out.lt)
  have R22 := Lib.hid (R21.out.below hb R21.out.lt)
  have M2 := Lib.hid (M1.out.below (hb.mono (Nat.le_trans B02.out.size HNB.out)))
  have T2 := Lib.hid (T1.out.below (hb.mono (Nat.le_refl _)))
  have N2 := Lib.hid (N1.out.below (hb.mono HNB.out))
  have HNB := Lib.hid (Nat.le_trans HNB.out hb.size)
  have S2 := Lib.hid (HSS.out _ R12.out R22.out)
  clear hb
  refine hK.out _ _ S2.out ?_
  clear hK K
  try simp only [Act.put, List.setIfInBounds_toArray, List.set_cons_zero, List.set_cons_succ]
  refine takeL (i := 4) (v := .bool true) rfl (by kernel_rfl) (by kernel_rfl) (by kernel_rfl) (fun _ _ _ h => h) (Or.inl ⟨by kernel_rfl, fun w hw => by go_simp⟩) S2.out ?_
  try simp only [Act.put, List.setIfInBounds_toArray, List.set_cons_zero, List.set_cons_succ]
  refine takeL (i := 5) (v := ?_) rfl (by kernel_rfl) (by kernel_rfl) (by kernel_rfl) (fun _ _ _ h => h) (Or.inl ⟨by rfl, ?_⟩) S2.out ?_
  rotate_left
  · intro w hw
    try dsimp only at hw
    go_simp
    try with_reducible rfl
  try simp only [Act.put, List.setIfInBounds_toArray, List.set_cons_zero, List.set_cons_succ]
  refine takeL (i := 6) (v := .agg (cb).toArray) rfl (by kernel_rfl) (by kernel_rfl) (by kernel_rfl) (fun _ _ _ h => h) (yieldsIf_load_mid (by kernel_rfl) 30 (.tmp 3) rfl w2.heap.size 0 (by go_simp) (cb) _ (fun w hw => hw.2) Tryd.underlying30 rfl HTS2.out) S2.out ?_
  try simp only [Act.put, List.setIfInBounds_toArray, List.set_cons_zero, List.set_cons_succ]
  refine takeL (i := 7) (v := .agg (ca).toArray) rfl (by kernel_rfl) (by kernel_rfl) (by kernel_rfl) (fun _ _ _ h => h) (yieldsIf_load_mid (by kernel_rfl) 30 (.tmp 1) rfl w.heap.size 0 (by go_simp) (ca) _ (fun w hw => hw.1) Tryd.underlying30 rfl HTS.out) S2.out ?_
  try simp only [Act.put, List.setIfInBounds_toArray, List.set_cons_zero, List.set_cons_succ]
  refine readyL (i := 8) rfl (by kernel_rfl) (by kernel_rfl) fun K hK => ?_
  go_simp
  refine (HCE.out V2 T2.out M2.out (Nat.le_trans B02.out.size HNB.out)).mono ?_
  rintro e V3 ⟨rfl, hb⟩
  simp only []
  have E3 := Lib.hid (E2.out.trans (hb.mono HNB.out))
  have R13 := Lib.hid (R12.out.below hb R12.out.lt)
  have R23 := Lib.hid (R22.out.below hb R22.out.lt)
  have M3 := Lib.hid (M2.out.below (hb.mono (Nat.le_trans B02.out.size HNB.out)))
  have T3 := Lib.hid (T2.out.below (hb.mono (Nat.le_refl _)))
  have N3 := Lib.hid (N2.out.below (hb.mono HNB.out))
  have HNB := Lib.hid (Nat.le_trans HNB.out hb.size)
  have S3 := Lib.hid (HSS.out _ R13.out R23.out)
  clear hb
  refine hK.out _ _ S3.out ?_
  clear hK K
  try simp only [Act.put, List.setIfInBounds_toArray, List.set_cons_zero, List.set_cons_succ]
  refine takeL (i := 9) (v := .bool true) rfl (by kernel_rfl) (by kernel_rfl) (by kernel_rfl) (fun _ _ _ h => h) (Or.inl ⟨by kernel_rfl, fun w hw => by go_simp⟩) S3.out ?_
  try simp only [Act.put, List.setIfInBounds_toArray, List.set_cons_zero, List.set_cons_succ]
  refine takeL (i := 10) (v := ?_) rfl (by kernel_rfl) (by kernel_rfl) (by kernel_rfl) (fun _ _ _ h => h) (Or.inl ⟨by rfl, ?_⟩) S3.out ?_
  rotate_left
  · intro w hw
    try dsimp only at hw
    go_simp
    try with_reducible rfl
  try simp only [Act.put, List.setIfInBounds_toArray, List.set_cons_zero, List.set_cons_succ]
  refine readyL (i := 11) rfl (by kernel_rfl) (by kernel_rfl) fun K hK => ?_
  go_simp
  refine (lives8 V3 (HL.out.below (B02.out.trans (E3.out.mono B02.out.size)) HP.out)).mono ?_
  rintro e V4 ⟨rfl, hb⟩
  simp only []
  have E4 := Lib.hid (E3.out.trans (hb.mono HNB.out))
  have R14 := Lib.hid (R13.out.below hb R13.out.lt)
  have R24 := Lib.hid (R23.out.below hb R23.out.lt)
  have M4 := Lib.hid (M3.out.below (hb.mono (Nat.le_trans B02.out.size HNB.out)))
  have T4 := Lib.hid (T3.out.below (hb.mono (Nat.le_refl _)))
  have N4 := Lib.hid (N3.out.below (hb.mono HNB.out))
  have HNB := Lib.hid (Nat.le_trans HNB.out hb.size)
  have S4 := Lib.hid (HSS.out _ R14.out R24.out)
  clear hb
  refine hK.out _ _ S4.out ?_
  clear hK K
  try simp only [Act.put, List.setIfInBounds_toArray, List.set_cons_zero, List.set_cons_succ]
  refine takeL (i := 12) (v := .bool true) rfl (by kernel_rfl) (by kernel_rfl) (by kernel_rfl) (fun _ _ _ h => h) (Or.inl ⟨by kernel_rfl, fun w hw => by go_simp⟩) S4.out ?_
  try simp only [Act.put, List.setIfInBounds_toArray, List.set_cons_zero, List.set_cons_succ]
  refine takeL (i := 13) (v := ?_) rfl (by kernel_rfl) (by kernel_rfl) (by kernel_rfl) (fun _ _ _ h => h) (Or.inl ⟨by rfl, ?_⟩) S4.out ?_
  rotate_left
  · intro w hw
    try dsimp only at hw
    go_simp
    try with_reducible rfl
  try simp only [Act.put, List.setIfInBounds_toArray, List.set_cons_zero, List.set_cons_succ]
  refine wpAnyH_done (by kernel_rfl) ?_ _
  go_wp2_with fail
  go_ret
  exact ⟨rfl, B02.out.trans (E4.out.mono B02.out.size)⟩
end Go.Proofs.YtdeadehcnellpaaDoor

/-
  Of part PutN: what is needed here.
-/
namespace Go.Proofs.YtdeadehcnellpaaDoor
open Go.RowKit
set_option linter.unusedVariables false
/-- the lowest k bytes of a number, the lowest first -/
def dig (x : Int) (k : Nat) : List Int := (List.range k).map fun i => x / 256 ^ i % 256
theorem dig_len (x : Int) (k : Nat) : (dig x k).length = k := by simp [dig]
theorem dig_succ (x : Int) (k : Nat) : dig x (k + 1) = dig x k ++ [x / 256 ^ k % 256] := by simp [dig, List.range_succ]
theorem shr_dig (x : Int) (k : Nat) : x / 2 ^ (8 * k) % 256 = x / 256 ^ k % 256 := by rw [Int.pow_mul]; rfl
end Go.Proofs.YtdeadehcnellpaaDoor

/-
  Of part Num8: what is needed here.
-/
namespace Go.Proofs.YtdeadehcnellpaaDoor
open Go.RowKit
set_option linter.unusedVariables false
theorem dig_bytes (x : Int) (m : Nat) : AllBytes (dig x m) := fun z hz => by
  obtain ⟨i, _, rfl⟩ := List.mem_map.1 hz
  constructor <;> omega
theorem num_dig (x : Int) (h0 : 0 ≤ x) : ∀ m k, m ≤ k → num (dig x k) m = x % 256 ^ m
  | 0, k, _ => by simp [num]
  | m + 1, k, h => by
    have hd : (dig x k).getD m 0 = x / 256 ^ m % 256 := by
      rw [List.getD_eq_getElem?_getD]
      unfold dig
      rw [List.getElem?_map, List.getElem?_range (by omega)]
      rfl
    rw [num, num_dig x h0 m k (by omega), hd]
    have e : (256 : Int) ^ (m + 1) = 256 ^ m * 256 := Int.pow_succ ..
    rw [e]
    obtain ⟨n, rfl⟩ := Int.eq_ofNat_of_zero_le h0
    have h2 := congrArg (Nat.cast : Nat → Int) (Nat.mod_mul (x := n) (a := 256 ^ m) (b := 256))
    rw [Int.natCast_emod, Int.natCast_mul, Int.natCast_add, Int.natCast_mul, Int.natCast_emod, Int.natCast_emod, Int.natCast_ediv, Int.natCast_pow] at h2
    have h3 : ((256 : Nat) : Int) = 256 := rfl
    rw [h3] at h2
    rw [h2, Int.mul_comm (256 ^ m)]
theorem num_all (x : Int) (m : Nat) (h0 : 0 ≤ x) (h1 : x < 256 ^ m) : num (dig x m) m = x := by
  rw [num_dig x h0 m m (Nat.le_refl _), Int.emod_eq_of_lt h0 h1]
set_option maxRecDepth 100000 in
set_option maxHeartbeats 1000000 in
theorem number8_ (x : Int) (m : Nat) (w : World) (hx0 : 0 ≤ x) (hx1 : x < 18446744073709551616) (hm : m ≤ 8) :
    Calls Tryd.prog 13 #[.int .u64 x, .int .i64 m] w fun e w' => ∃ v, e = .returned v ∧ OwnB w' w.heap.size v (dig x m) ∧ Below w.heap.size w w' := by
  have HX := Lib.hid hx1
  clear hx1
  go_enter Tryd.func13, Tryd.ntmps13
  go_wp2_with fail
  go_loopw [6, 5] (fun i b wr => ∃ (j : Nat) (v : Value), j ≤ m ∧ i = .int .i64 j ∧ b = v ∧ OwnB wr w.heap.size v (dig x j) ∧ Below w.heap.size w wr) (fun i _ _ => m - (intOf i).toNat)
  case atStart => exact ⟨0, _, Nat.zero_le _, rfl, rfl, OwnB.nil _ _, Below.refl _ _⟩
  case round =>
    obtain ⟨j, v, hj, rfl, rfl, hown, hbel⟩ := hrel
    have HO := Lib.hid hown
    have HB := Lib.hid hbel
    have HDL := Lib.hid (dig_len x j)
    clear hown hbel
    by_cases hlt : j < m
    · have HSH := Lib.hid (shr_dig x j)
      have HSU := Lib.hid (dig_succ x j)
      go_wp2_with (at_builtin; go_must (refine wpList_addLitg (by kernel_rfl) (.tmp 12) (.tmp 19) 40 rfl w.heap.size Tryd.underlying40 info_u8 _ (dig x j) [x / 256 ^ j % 256] 1 ?_ ?_ HO.out ?_ HB.out.size (by rw [List.length_append, HDL.out, List.length_singleton]; omega) ?_; (rw [← HSH.out]; rfl); go_simp; go_simp; intro v4 w4 ho4 hg4; have HO4 := Lib.hid ho4; have HB4 := Lib.hid (HB.out.grown hg4.grown HB.out.size fun k hk => (World.ownsRow.lt HO.out k hk).1); clear ho4 hg4))
      go_roundw
      case rel => exact ⟨j + 1, v4, by omega, by go_num, rfl, by rw [HSU.out]; exact HO4.out, HB4.out⟩
      case measure => simp [intOf]; omega
    · obtain rfl : j = m := by omega
      go_wp2_with fail
      go_ret
      exact ⟨_, rfl, HO.out, HB.out⟩
end Go.Proofs.YtdeadehcnellpaaDoor

/-
  Of part Told8: what is needed here.
-/
namespace Go.Proofs.YtdeadehcnellpaaDoor
open Go.RowKit
set_option linter.unusedVariables false
/-- the words' data -/
def dA8 (u : Int) : List Int := 2 :: dig u 4
def dB8 (p : Int) : List Int := 3 :: dig p 8
theorem dA8_ok (u : Int) : AllBytes (dA8 u) := fun z hz => by
  rcases List.mem_cons.1 hz with rfl | hz
  · exact byte_2
  · exact dig_bytes u 4 z hz
theorem dB8_ok (p : Int) : AllBytes (dB8 p) := fun z hz => by
  rcases List.mem_cons.1 hz with rfl | hz
  · constructor <;> decide
  · exact dig_bytes p 8 z hz
theorem dA8_len (u : Int) : (dA8 u).length = 5 := by unfold dA8; rw [List.length_cons, dig_len]
theorem dB8_len (p : Int) : (dB8 p).length = 9 := by unfold dB8; rw [List.length_cons, dig_len]
theorem tell_A {u : Int} (h0 : 0 ≤ u) (h1 : u < 4294967296) {s : BS} (hs : s.u = none) : tell (dA8 u) s = some ⟨some u, s.p, s.o, s.bad⟩ := by
  unfold tell
  rw [if_pos ⟨dA8_len u, rfl, hs⟩]
  have : num ((dA8 u).drop 1) 4 = u := num_all u 4 h0 h1
  rw [this]
theorem tell_B {p : Int} (h0 : 0 ≤ p) (h1 : p < 18446744073709551616) {s : BS} (hs : s.p = none) : tell (dB8 p) s = some ⟨s.u, some p, s.o, s.bad⟩ := by
  unfold tell
  rw [if_neg (fun h => by have := h.1; rw [dB8_len] at this; omega), if_pos ⟨dB8_len p, rfl, hs⟩]
  have : num ((dB8 p).drop 1) 8 = p := num_all p 8 h0 h1
  rw [this]
theorem tell_B2 {p v : Int} {s : BS} (hs : s.p = some v) : tell (dB8 p) s = none := by
  unfold tell
  rw [if_neg (fun h => by have := h.1; rw [dB8_len] at this; omega), if_neg (fun h => by rw [hs] at h; exact absurd h.2.2 (by simp))]
theorem isW8_1 : isW keys8 1 = true := by decide +kernel
theorem isW8_2 : isW keys8 2 = false := by decide +kernel
theorem isW8_0 : isW keys8 0 = false := by decide +kernel
theorem isW8_9 : isW keys8 9 = false := by decide +kernel
theorem all8_nil (keys : List (List Int)) : all8 keys [] = BS.zero := rfl
/-- what such a list of two words tells -/
def Told (u p : Int) (l : List (List Int)) : Prop := l.length = 2 ∧ (∀ d ∈ l, AllBytes d) ∧ all8 keys8 (insW l) = ⟨some u, some p, 2, -1⟩
theorem insW_two (x y : List Int) : insW [x, y] = [] ++ [⟨1, [], x⟩] ++ [⟨1, [], y⟩] ++ [⟨2, [], []⟩] ++ [⟨2, [], []⟩] := rfl
theorem told_ab {u p : Int} (u0 : 0 ≤ u) (u1 : u < 4294967296) (p0 : 0 ≤ p) (p1 : p < 18446744073709551616) : Told u p [dA8 u, dB8 p] := by
  refine ⟨rfl, fun d hd => ?_, ?_⟩
  · simp only [List.mem_cons, List.not_mem_nil, or_false] at hd
    rcases hd with rfl | rfl
    · exact dA8_ok u
    · exact dB8_ok p
  · have s1 : ∀ k, step8 keys8 k ⟨1, [], dA8 u⟩ BS.zero = ⟨some u, none, 0, -1⟩ := fun k => step_told (x := ⟨1, [], dA8 u⟩) isW8_1 (by decide) (tell_A u0 u1 rfl)
    have s2 : ∀ k, step8 keys8 k ⟨1, [], dB8 p⟩ ⟨some u, none, 0, -1⟩ = ⟨some u, some p, 0, -1⟩ := fun k => step_told (x := ⟨1, [], dB8 p⟩) isW8_1 (by show ¬ (0 : Int) ≤ -1; decide) (tell_B p0 p1 rfl)
    have s3 : ∀ k o, step8 keys8 k ⟨2, [], []⟩ ⟨some u, some p, o, -1⟩ = ⟨some u, some p, o + 1, -1⟩ := fun k o => step_no (x := ⟨2, [], []⟩) isW8_2
    rw [insW_two, all8_snoc, all8_snoc, all8_snoc, all8_snoc, all8_nil, s1, s2, s3, s3]
theorem told_ba {u p : Int} (u0 : 0 ≤ u) (u1 : u < 4294967296) (p0 : 0 ≤ p) (p1 : p < 18446744073709551616) : Told u p [dB8 p, dA8 u] := by
  refine ⟨rfl, fun d hd => ?_, ?_⟩
  · simp only [List.mem_cons, List.not_mem_nil, or_false] at hd
    rcases hd with rfl | rfl
    · exact dB8_ok p
    · exact dA8_ok u
  · have s1 : ∀ k, step8 keys8 k ⟨1, [], dB8 p⟩ BS.zero = ⟨none, some p, 0, -1⟩ := fun k => step_told (x := ⟨1, [], dB8 p⟩) isW8_1 (by decide) (tell_B p0 p1 rfl)
    have s2 : ∀ k, step8 keys8 k ⟨1, [], dA8 u⟩ ⟨none, some p, 0, -1⟩ = ⟨some u, some p, 0, -1⟩ := fun k => step_told (x := ⟨1, [], dA8 u⟩) isW8_1 (by show ¬ (0 : Int) ≤ -1; decide) (tell_A u0 u1 rfl)
    have s3 : ∀ k o, step8 keys8 k ⟨2, [], []⟩ ⟨some u, some p, o, -1⟩ = ⟨some u, some p, o + 1, -1⟩ := fun k o => step_no (x := ⟨2, [], []⟩) isW8_2
    rw [insW_two, all8_snoc, all8_snoc, all8_snoc, all8_snoc, all8_nil, s1, s2, s3, s3]
/-- other instructions -/
def othr (d : List Int) (k : Nat) : LIn := ⟨([0, 2, 9] : List Int).getD (k % 3) 0, [], d⟩
def insO (l : List (List Int)) (d : List Int) (k : Nat) : List LIn := insW l ++ (List.range k).map (othr d)
theorem insO_succ (l : List (List Int)) (d : List Int) (k : Nat) : insO l d (k + 1) = insO l d k ++ [othr d k] := by
  unfold insO
  rw [List.range_succ, List.map_append, ← List.append_assoc]
  rfl
theorem insO_zero (l : List (List Int)) (d : List Int) : insO l d 0 = insW l := by unfold insO; simp
theorem insO_len (l : List (List Int)) (d : List Int) (k : Nat) : (insO l d k).length = l.length + 2 + k := by unfold insO; rw [List.length_append, insW_len, List.length_map, List.length_range]
theorem othr_p (d : List Int) (k : Nat) : (othr d k).p = 0 ∨ (othr d k).p = 2 ∨ (othr d k).p = 9 := by
  unfold othr
  rcases (show k % 3 = 0 ∨ k % 3 = 1 ∨ k % 3 = 2 by omega) with h | h | h
  · rw [h]; exact .inl rfl
  · rw [h]; exact .inr (.inl rfl)
  · rw [h]; exact .inr (.inr rfl)
theorem othr_no (d : List Int) (k : Nat) : isW keys8 (othr d k).p = false := by
  rcases othr_p d k with h | h | h <;> rw [h]
  · exact isW8_0
  · exact isW8_2
  · exact isW8_9
theorem othr_ok {d : List Int} (hd : AllBytes d) (k : Nat) : IsByte (othr d k).p ∧ AllBytes (othr d k).dat := by
  refine ⟨?_, hd⟩
  rcases othr_p d k with h | h | h <;> rw [h] <;> constructor <;> decide
theorem all_O {u p : Int} {l : List (List Int)} (h : Told u p l) (d : List Int) : ∀ k, all8 keys8 (insO l d k) = ⟨some u, some p, 2 + k, -1⟩
  | 0 => by rw [insO_zero]; exact h.2.2
  | k + 1 => by rw [insO_succ, all8_snoc, all_O h d k, step_no (othr_no d k)]; rfl
theorem insO_ok {l : List (List Int)} {d : List Int} (hl : ∀ x ∈ l, AllBytes x) (hd : AllBytes d) (k : Nat) : ∀ i ∈ insO l d k, IsByte i.p ∧ AllBytes i.dat := fun i hi => by
  unfold insO at hi
  rcases List.mem_append.1 hi with hi | hi
  · exact insW_ok hl i hi
  · obtain ⟨j, _, rfl⟩ := List.mem_map.1 hi
    exact othr_ok hd j
theorem one_ok {d : List Int} (hd : AllBytes d) : IsByte (⟨1, [], d⟩ : LIn).p ∧ AllBytes (⟨1, [], d⟩ : LIn).dat := ⟨byte_1, hd⟩
theorem ok_app {l l' : List LIn} (h : ∀ i ∈ l, IsByte i.p ∧ AllBytes i.dat) (h' : ∀ i ∈ l', IsByte i.p ∧ AllBytes i.dat) : ∀ i ∈ l ++ l', IsByte i.p ∧ AllBytes i.dat := fun i hi => by
  rcases List.mem_append.1 hi with hi | hi
  · exact h i hi
  · exact h' i hi
theorem all_P {u p : Int} {l : List (List Int)} (h : Told u p l) (d : List Int) (k : Nat) : all8 keys8 (insO l d k ++ [⟨1, [], dB8 p⟩]) = ⟨some u, some p, 2 + k, ((4 + k : Nat) : Int)⟩ := by
  rw [all8_snoc, all_O h d k, step_bad isW8_1 (by show ¬ (0 : Int) ≤ -1; decide) (tell_B2 rfl), insO_len, h.1]
theorem all_Q {u p : Int} {l : List (List Int)} (h : Told u p l) (d d' : List Int) (k : Nat) : all8 keys8 (insO l d k ++ [⟨1, [], dB8 p⟩] ++ [⟨1, [], d'⟩, ⟨1, [], []⟩]) = ⟨some u, some p, 2 + k, ((4 + k : Nat) : Int)⟩ := by
  have e : insO l d k ++ [⟨1, [], dB8 p⟩] ++ [⟨1, [], d'⟩, ⟨1, [], []⟩] = insO l d k ++ [⟨1, [], dB8 p⟩] ++ [⟨1, [], d'⟩] ++ [⟨1, [], []⟩] := by simp
  rw [e, all8_snoc, all8_snoc, all_P h d k, step_late isW8_1 (by show (0 : Int) ≤ ((4 + k : Nat) : Int); omega), step_late isW8_1 (by show (0 : Int) ≤ ((4 + k : Nat) : Int); omega)]
theorem bytes_own {w : World} {base n c : Nat} {A : Option Addr} {l : List Int} (h : w.ownsRow base 5 1 (.slice A n c) n (bv l)) (hl : l.length = n) : BytesIn w w.heap.size (.slice A n c) l := by
  subst hl
  obtain ⟨A', c', he, hs, h1, h2, _⟩ := own_form2 h
  injection he with e1 e2 e3
  subst e1 e3
  exact ⟨A, c, rfl, by simpa using hs, h1, h2⟩
/-- what the law holds on to -/
structure T8 (w V : World) (B gk gM : Nat) (A : Option Addr) (n c : Nat) (ins : List LIn) (av bw : Value) (dA dB : List Int) : Prop where
  m : W8 B (B + 1) V gk gM A n c ins
  a : BytesIn V B av dA
  b : BytesIn V B bw dB
  bel : Below w.heap.size w V
  lo : w.heap.size ≤ B
section
variable {w V V' : World} {B gk gM : Nat} {A A' : Option Addr} {n n' c c' : Nat} {ins ins' : List LIn} {av bw : Value} {dA dB : List Int}
theorem T8.step (h : T8 w V B gk gM A n c ins av bw dA dB) (hm : W8 B (B + 1) V' gk gM A' n' c' ins') (hb : Below (B + 1) V V') : T8 w V' B gk gM A' n' c' ins' av bw dA dB :=
  ⟨hm, h.a.below (hb.mono (by omega)), h.b.below (hb.mono (by omega)), h.bel.trans (hb.mono (by have := h.lo; omega)), h.lo⟩
theorem T8.below (h : T8 w V B gk gM A n c ins av bw dA dB) (hb : Below V.heap.size V V') : T8 w V' B gk gM A n c ins av bw dA dB :=
  h.step (h.m.below hb) (hb.mono (by have := h.m.size; omega))
theorem T8.drew (h : T8 w V B gk gM A n c ins av bw dA dB) : T8 w V.drew B gk gM A n c ins av bw dA dB := h.below (Below.refl _ _).drew
theorem T8.size (h : T8 w V B gk gM A n c ins av bw dA dB) : B + 1 < V.heap.size := h.m.size
/-- a cell beside -/
theorem T8.far (h : T8 w V B gk gM A n c ins av bw dA dB) {g t : Nat} {ys : List Value} (hr : Row V g t ys) (hg : B + 1 ≤ g) (h1 : t ≠ 48) (h2 : t ≠ 30) (h3 : t ≠ 45) (i : Nat) (u : Value) : T8 w (V.setCell ⟨g, i, none⟩ u) B gk gM A n c ins av bw dA dB := by
  have hne : ∀ {g' t' : Nat} {zs : List Value}, Row V g' t' zs → t ≠ t' → g' ≠ g := fun hr' ht e => by
    have h1 := hr'.is
    rw [e, hr.is] at h1
    injection (Option.some.inj h1) with _ h3 _
    exact ht h3
  have hb : Below (B + 1) V (V.setCell ⟨g, i, none⟩ u) := (Below.refl (B + 1) V).setCell (p := ⟨g, i, none⟩) hg u
  obtain ⟨news, ho, hi⟩ := h.m.own
  exact h.step ⟨h.m.rk.far (p := ⟨g, i, none⟩) (hne h.m.rk h1) u, h.m.rm.far (p := ⟨g, i, none⟩) (hne h.m.rm h2) u, ⟨news, own_turned ho hr (Ne.symm h3) (turned_setCell V ⟨g, i, none⟩ u), hi.below (hb.mono (by omega))⟩, h.m.hk, h.m.hm, h.m.len, h.m.bl⟩ hb
end
end Go.Proofs.YtdeadehcnellpaaDoor
