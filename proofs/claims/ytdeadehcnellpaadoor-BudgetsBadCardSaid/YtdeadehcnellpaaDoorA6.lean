/-
  Parts joined: OfB8 Lives7 With8 Lives8 RefGetN.
-/
import Derived.Below
import Derived.Laws.OwnMore
import Derived.Deep.AppendLies
import Derived.Deep.Draws
import Derived.Lib.Hide
import Derived.Laws.MakeOwn
import Derived.Laws.CopyOwn
import Derived.Laws.Rows
import Derived.Maps.AppendAt
import Derived.OwnWalk
import Derived.Laws.BitsAllLaws
import Derived.WalkKit
import Derived.Test.YtdeadehcnellpaaDoorRows
import Derived.WalkSpells
import Derived.WalkLawsBesides
import Derived.IntWalk
import Derived.Deep.MidRow
import Derived.Deep.WholeRow
import Derived.Great.BuildSlice
import Derived.Recover
import Derived.Deep.RegionHeld
import Derived.Deep.QuietTactic
import Derived.BigQuiet
import Derived.ChangeKeysEq
import Derived.Deep.RegionHeld2
import Derived.Deep.CutBlock
import Derived.Laws.Tables
import Derived.ProofKit
import Derived.OpenShut
import Derived.ShutString
import Derived.ChangeOld
import Derived.Lib.SmallJoins
import Derived.Deep.Slices
import Derived.Deep.Strs
import Derived.SizedLaws
import Derived.Laws.StructEq
import Derived.Deep.DeepCutAuto
import Derived.Laws.Slices
import Derived.Laws.EntriesVeiled
import Derived.Deep.RegionHeld3
import Derived.Maps.OwnSet
import Derived.DeepKeys4
import Derived.WideKeyArr
import Derived.WideKeyEntry
import Derived.Shelf.SlMaps.Clone
import Derived.LaidMore
import Derived.Laws.Append
import Derived.Laws.AppendOwn
import Derived.Test.YtdeadehcnellpaaDoorA1
import Derived.Test.YtdeadehcnellpaaDoorA2
import Derived.Test.YtdeadehcnellpaaDoorA3
import Derived.Test.YtdeadehcnellpaaDoorA4
import Derived.Test.YtdeadehcnellpaaDoorA5
/-
  Of part OfB8: what is needed here.
-/
namespace Go.Proofs.YtdeadehcnellpaaDoor
open Go.RowKit
set_option linter.unusedVariables false
theorem step_no {keys : List (List Int)} {k : Nat} {x : LIn} {s : BS} (h : isW keys x.p = false) : step8 keys k x s = ⟨s.u, s.p, s.o + 1, s.bad⟩ := by unfold step8; rw [if_pos h]
theorem step_late {keys : List (List Int)} {k : Nat} {x : LIn} {s : BS} (h : isW keys x.p = true) (hb : 0 ≤ s.bad) : step8 keys k x s = s := by unfold step8; rw [if_neg (by rw [h]; decide), if_pos hb]
theorem step_told {keys : List (List Int)} {k : Nat} {x : LIn} {s s' : BS} (h : isW keys x.p = true) (hb : ¬ 0 ≤ s.bad) (ht : tell x.dat s = some s') : step8 keys k x s = s' := by unfold step8; rw [if_neg (by rw [h]; decide), if_neg hb, ht]; rfl
theorem step_bad {keys : List (List Int)} {k : Nat} {x : LIn} {s : BS} (h : isW keys x.p = true) (hb : ¬ 0 ≤ s.bad) (ht : tell x.dat s = none) : step8 keys k x s = ⟨s.u, s.p, s.o, k⟩ := by unfold step8; rw [if_neg (by rw [h]; decide), if_neg hb, ht]; rfl
theorem built_bud (x y z : Int) : Tryd.prog.built 36 [(0, .int .u64 x), (1, .int .u64 y), (2, .int .i64 z)] = some ([.int .u64 x, .int .u64 y, .int .i64 z] : List Value).toArray := by kernel_rfl
theorem size_bud (x y z : Int) : (Tryd.prog.info? 36).map (·.size) = some ([.int .u64 x, .int .u64 y, .int .i64 z] : List Value).length := by kernel_rfl
theorem bud_one (x y z : Int) : ∀ u ∈ ([.int .u64 x, .int .u64 y, .int .i64 z] : List Value), u.oneCell' = true := by
  intro u hu
  simp only [List.mem_cons, List.not_mem_nil, or_false] at hu
  rcases hu with rfl | rfl | rfl <;> rfl
theorem ins_bytes {l : List LIn} (h : ∀ i ∈ l, IsByte i.p ∧ AllBytes i.dat) : ∀ i ∈ l, Bytes (i.dat.drop 1) := fun i hi => bytes_all (fun z hz => (h i hi).2 z (List.mem_of_mem_drop hz))
set_option maxRecDepth 100000 in
set_option maxHeartbeats 4000000 in
theorem ofB_ (q : Raw) (m : LMsg) (B : Nat) (w : World) (hm : MsgIn w B q m) (hB : B ≤ w.heap.size) (hi : ∀ i ∈ m.ins, IsByte i.p ∧ AllBytes i.dat) (hn : q.n ≤ 4000) (hl : LenAt w) :
    Calls Tryd.prog 10 #[.agg (q.cells m).toArray] w fun e w' => e = .returned (.agg (bud8 (all8 m.keys m.ins)).toArray) ∧ Below w.heap.size w w' := by
  obtain ⟨W, HX, hb0, hrm, hrb, hrw⟩ : ∃ W, Hid (∀ c1 c2, c1 = ([.int .u64 0, .int .u64 0, .int .i64 0] : List Value).toArray → c2 = (wcells BS.zero).toArray → ((w.alloc (.cells (q.cells m).toArray 30)).alloc (.cells c1 36)).alloc (.cells c2 58) = W) ∧
      Below w.heap.size w W ∧ Row W w.heap.size 30 (q.cells m) ∧ Row W (w.heap.size + 1) 36 [.int .u64 0, .int .u64 0, .int .i64 0] ∧ Row W (w.heap.size + 2) 58 (wcells BS.zero) := by
    refine ⟨_, Lib.hid fun c1 c2 h1 h2 => by rw [h1, h2], (((Below.refl w.heap.size w).alloc (Nat.le_refl _) _).alloc (by simp) _).alloc (by simp; omega) _, ((Row.new w 30 (q.cells m)).alloc _).alloc _, (Row.new' (w.alloc (.cells (q.cells m).toArray 30)) 36 _ (by simp)).alloc _, Row.new' _ 58 _ (by simp)⟩
  have hmr := hm.recent
  have c4 : W.cell? ⟨w.heap.size, 4, none⟩ = some (.slice q.KA q.kn q.kc) := (MsgRow.of hrm hmr).c4
  have c37 : W.cell? ⟨w.heap.size, 37, none⟩ = some (.slice q.IA q.n q.ic) := (MsgRow.of hrm hmr).c37
  have HOK := Lib.hid (fun k hk => run8_ok (keys := m.keys) (ins_bytes hi) k hk)
  have HI := Lib.hid hi
  obtain ⟨KA, kn, kc, IA, n, ic, LA, ln, lc⟩ := q
  dsimp only at *
  have hil := hm.ins.len
  have HIN := Lib.hid (hm.ins.below (hb0.mono hB))
  have HKN := Lib.hid (hm.keys.below (hb0.mono hB))
  have HKC := Lib.hid hm.kn
  have HL := Lib.hid (hl.below hb0 (Nat.lt_of_lt_of_le hl.pos (Nat.le_refl _)))
  have HLP := Lib.hid hl.pos
  have HBB := Lib.hid hB
  have HB0 := Lib.hid hb0
  have HRB := Lib.hid hrb
  have HRW := Lib.hid hrw
  have HWS : Hid (w.heap.size + 3 ≤ W.heap.size) := Lib.hid (by have := hrw.lt; omega)
  have hMC : ∀ (MC : List Value), MC = MC := fun _ => rfl
  generalize Raw.cells ⟨KA, kn, kc, IA, n, ic, LA, ln, lc⟩ m = MC at *
  have HIL := Lib.hid hil
  have HC4 := Lib.hid c4
  clear hm hB hi hl hb0 hrm hrb hrw hmr hil hMC c4
  unfold all8
  generalize m.keys = keys at *
  generalize m.ins = l at *
  go_enter Tryd.func10, Tryd.ntmps10
  go_upto_region 2 with fail
  rw [HX.out _ _ (by kernel_rfl) (by kernel_rfl)]
  clear HX
  go_wp2_with fail
  go_loopw [11, 4, 5] (fun i o b wr => ∃ (k : Nat) (s : BS), k ≤ n ∧ i = .int .i64 k ∧ run8 keys l k = s ∧ o = .int .u64 s.o ∧ b = .int .i64 s.bad ∧ Row wr (w.heap.size + 2) 58 (wcells s) ∧ Below (w.heap.size + 2) W wr) (fun i _ _ _ => n - (intOf i).toNat)
  case atStart => exact ⟨0, BS.zero, Nat.zero_le _, rfl, rfl, rfl, rfl, HRW.out, Below.refl _ _⟩
  case round =>
    obtain ⟨k, s, hk, rfl, hs, rfl, rfl, hrow, hbel⟩ := hrel
    have HS := Lib.hid hs
    have hok := HOK.out k (by rw [HIL.out]; exact hk)
    rw [hs] at hok
    have HO := Lib.hid hok
    have HR := Lib.hid hrow
    have HB := Lib.hid hbel
    have HC := Lib.hid ((hbel.cell (p := ⟨w.heap.size, 4, none⟩) (by show w.heap.size < w.heap.size + 2; omega)).trans HC4.out)
    clear hs hok hrow hbel
    by_cases hlt : k < n
    · obtain ⟨a, x, va, vd, rfl, hab, hx, hat⟩ := HIN.out.get hlt
      have hat := hat.keep hab fun p hp => HB.out.cell (p := p) (by have := HBB.out; omega)
      have HX := Lib.hid hx
      have HP := Lib.hid (HI.out x (List.mem_of_getElem? hx))
      have HAC := Lib.hid hat.cells
      obtain ⟨DA, dc, hvd, hds, hdn, hdm⟩ := hat.dat.is
      subst hvd
      have HD := Lib.hid hds
      have HDC := Lib.hid (And.intro hdn hdm)
      have HSI := Lib.hid (size_in x.p va (.slice DA x.dat.length dc))
      have HI1 := Lib.hid (inCells_one (p := x.p) hat.acc hat.dat)
      have HI3 : Hid ((inCells x.p va (.slice DA x.dat.length dc)).length = 3) := Lib.hid rfl
      have HI2 : Hid ((inCells x.p va (.slice DA x.dat.length dc))[2]? = some (.slice DA x.dat.length dc)) := Lib.hid rfl
      have HOB : Hid (∀ V : World, Below (w.heap.size + 2) W V → Calls Tryd.prog 18 #[.slice KA kn kc, .agg (inCells x.p va (.slice DA x.dat.length dc)).toArray] V fun e w' => e = .returned (.bool (isW keys x.p)) ∧ Below V.heap.size V w') := Lib.hid fun V hV => onBudget_ KA kn kc keys va _ x.p B V (HKN.out.below (hV.mono (by have := HBB.out; omega))) HKC.out (by have := HBB.out; have := hV.size; have := HWS.out; omega) HP.out.1
      have HSB := Lib.hid (HB.out.size)
      clear hat hab hx hds hdn hdm
      generalize inCells x.p va (.slice DA x.dat.length dc) = IC at *
      have HTK : Hid (∀ V : World, Row V (w.heap.size + 2) 58 (wcells s) → Below (w.heap.size + 2) wr V → Calls Tryd.prog 19 #[.pointer (some ⟨w.heap.size + 2, 0, none⟩), .slice DA x.dat.length dc] V (TakeDone V (w.heap.size + 2) x.dat s)) := Lib.hid fun V hV hb => take_ s x.dat DA x.dat.length dc B _ V hV (HD.out.below (hb.mono (by have := HBB.out; omega))) HP.out.2 HDC.out (HL.out.below (HB.out.trans hb) (by omega))
      by_cases hw : isW keys x.p = true
      · have HW := Lib.hid hw
        by_cases hb : 0 ≤ s.bad
        · have HST : Hid (run8 keys l (k + 1) = s) := Lib.hid ((run8_succ (keys := keys) HX.out).trans (by rw [HS.out]; exact step_late (k := k) HW.out hb))
          have hbd : ¬ s.bad < 0 := by omega
          clear hw HTK
          go_wp2_with (first
            | ((with_reducible show wpList _ _ _ ({ dst := some 15, op := Op.load _ _, type := _, pos := _, after := _, guard := _ } :: _) _ _); go_must (refine wpList_load_at rfl 45 (.tmp 14) rfl (a.add (k * 3)) IC _ Tryd.underlying45 rfl HSI.out HAC.out ?_ ?_; go_simp))
            | ((with_reducible show wpList _ _ _ ({ dst := none, op := Op.store 45 _ _, type := _, pos := _, after := _, guard := _ } :: _) _ _); go_must (refine wpList_store_new rfl 45 (.tmp 7) (.tmp 15) rfl IC HSI.out HI1.out (by rw [HI3.out]; rfl) ?_ ?_ ?_; go_simp; go_simp; intro w2 hr2 hb2 hz2; have R2 := Lib.hid hr2; have B2 := Lib.hid hb2; clear hr2 hb2 hz2; have d4 := (B2.out.cell (p := ⟨w.heap.size, 4, none⟩) (by show w.heap.size < wr.heap.size; have := HSB.out; have := HWS.out; omega)).trans HC.out))
            | ((with_reducible show wpList _ _ _ ({ dst := some 19, op := Op.load _ _, type := _, pos := _, after := _, guard := _ } :: _) _ _); go_must (refine wpList_load_whole rfl 45 (.tmp 7) rfl wr.heap.size 45 IC _ Tryd.underlying45 rfl HSI.out R2.out ?_ ?_; go_simp)))
          have HB2 : Hid (Below (w.heap.size + 2) wr w2) := Lib.hid (B2.out.mono (by have := HSB.out; have := HWS.out; omega))
          refine (HOB.out w2 (HB.out.trans HB2.out)).mono ?_
          rintro e w3 ⟨rfl, hb3⟩
          rw [HW.out]
          have HB3 : Hid (Below (w.heap.size + 2) wr w3) := Lib.hid (HB2.out.trans (hb3.mono (by have := B2.out.size; have := HSB.out; have := HWS.out; omega)))
          have HR3 : Hid (Row w3 (w.heap.size + 2) 58 (wcells s)) := Lib.hid ((HR.out.below B2.out (by have := HSB.out; have := HWS.out; omega)).below hb3 (by have := B2.out.size; have := HSB.out; have := HWS.out; omega))
          have d2 := ((R2.out.below hb3 R2.out.lt).cell 2).trans HI2.out
          clear hb3 HOB d4
          go_wp2_with fail
          go_roundw
          case rel => exact ⟨k + 1, s, by omega, by go_num, HST.out, rfl, rfl, HR3.out, HB.out.trans HB3.out⟩
          case measure => simp [intOf]; omega
        · have hbd : s.bad < 0 := by omega
          cases ht : tell x.dat s with
          | none =>
            have HST : Hid (run8 keys l (k + 1) = ⟨s.u, s.p, s.o, k⟩) := Lib.hid ((run8_succ (keys := keys) HX.out).trans (by rw [HS.out]; exact step_bad (k := k) HW.out hb ht))
            have HT := Lib.hid ht
            clear hw hb ht
            go_wp2_with (first
              | ((with_reducible show wpList _ _ _ ({ dst := some 15, op := Op.load _ _, type := _, pos := _, after := _, guard := _ } :: _) _ _); go_must (refine wpList_load_at rfl 45 (.tmp 14) rfl (a.add (k * 3)) IC _ Tryd.underlying45 rfl HSI.out HAC.out ?_ ?_; go_simp))
              | ((with_reducible show wpList _ _ _ ({ dst := none, op := Op.store 45 _ _, type := _, pos := _, after := _, guard := _ } :: _) _ _); go_must (refine wpList_store_new rfl 45 (.tmp 7) (.tmp 15) rfl IC HSI.out HI1.out (by rw [HI3.out]; rfl) ?_ ?_ ?_; go_simp; go_simp; intro w2 hr2 hb2 hz2; have R2 := Lib.hid hr2; have B2 := Lib.hid hb2; clear hr2 hb2 hz2; have d4 := (B2.out.cell (p := ⟨w.heap.size, 4, none⟩) (by show w.heap.size < wr.heap.size; have := HSB.out; have := HWS.out; omega)).trans HC.out))
              | ((with_reducible show wpList _ _ _ ({ dst := some 19, op := Op.load _ _, type := _, pos := _, after := _, guard := _ } :: _) _ _); go_must (refine wpList_load_whole rfl 45 (.tmp 7) rfl wr.heap.size 45 IC _ Tryd.underlying45 rfl HSI.out R2.out ?_ ?_; go_simp)))
            have HB2 : Hid (Below (w.heap.size + 2) wr w2) := Lib.hid (B2.out.mono (by have := HSB.out; have := HWS.out; omega))
            refine (HOB.out w2 (HB.out.trans HB2.out)).mono ?_
            rintro e w3 ⟨rfl, hb3⟩
            rw [HW.out]
            have HB3 : Hid (Below (w.heap.size + 2) wr w3) := Lib.hid (HB2.out.trans (hb3.mono (by have := B2.out.size; have := HSB.out; have := HWS.out; omega)))
            have HR3 : Hid (Row w3 (w.heap.size + 2) 58 (wcells s)) := Lib.hid ((HR.out.below B2.out (by have := HSB.out; have := HWS.out; omega)).below hb3 (by have := B2.out.size; have := HSB.out; have := HWS.out; omega))
            have d2 := ((R2.out.below hb3 R2.out.lt).cell 2).trans HI2.out
            clear hb3 HOB d4
            go_wp2_with fail
            refine (HTK.out w3 HR3.out HB3.out).mono ?_
            rintro e w4 ⟨rfl, hr4, hb4⟩
            rw [HT.out] at hr4 ⊢
            simp only [Option.isSome_none, Option.getD_none] at hr4 ⊢
            have HR4 := Lib.hid hr4
            have HB4 := Lib.hid hb4
            clear hr4 hb4
            go_wp2_with fail
            go_roundw
            case rel => exact ⟨k + 1, _, by omega, by go_num, HST.out, rfl, rfl, HR4.out, (HB.out.trans HB3.out).trans HB4.out⟩
            case measure => simp [intOf]; omega
          | some s' =>
            have HST : Hid (run8 keys l (k + 1) = s') := Lib.hid ((run8_succ (keys := keys) HX.out).trans (by rw [HS.out]; exact step_told (k := k) HW.out hb ht))
            have HT := Lib.hid ht
            have HK2 := Lib.hid (tell_kept ht)
            clear hw hb ht
            go_wp2_with (first
              | ((with_reducible show wpList _ _ _ ({ dst := some 15, op := Op.load _ _, type := _, pos := _, after := _, guard := _ } :: _) _ _); go_must (refine wpList_load_at rfl 45 (.tmp 14) rfl (a.add (k * 3)) IC _ Tryd.underlying45 rfl HSI.out HAC.out ?_ ?_; go_simp))
              | ((with_reducible show wpList _ _ _ ({ dst := none, op := Op.store 45 _ _, type := _, pos := _, after := _, guard := _ } :: _) _ _); go_must (refine wpList_store_new rfl 45 (.tmp 7) (.tmp 15) rfl IC HSI.out HI1.out (by rw [HI3.out]; rfl) ?_ ?_ ?_; go_simp; go_simp; intro w2 hr2 hb2 hz2; have R2 := Lib.hid hr2; have B2 := Lib.hid hb2; clear hr2 hb2 hz2; have d4 := (B2.out.cell (p := ⟨w.heap.size, 4, none⟩) (by show w.heap.size < wr.heap.size; have := HSB.out; have := HWS.out; omega)).trans HC.out))
              | ((with_reducible show wpList _ _ _ ({ dst := some 19, op := Op.load _ _, type := _, pos := _, after := _, guard := _ } :: _) _ _); go_must (refine wpList_load_whole rfl 45 (.tmp 7) rfl wr.heap.size 45 IC _ Tryd.underlying45 rfl HSI.out R2.out ?_ ?_; go_simp)))
            have HB2 : Hid (Below (w.heap.size + 2) wr w2) := Lib.hid (B2.out.mono (by have := HSB.out; have := HWS.out; omega))
            refine (HOB.out w2 (HB.out.trans HB2.out)).mono ?_
            rintro e w3 ⟨rfl, hb3⟩
            rw [HW.out]
            have HB3 : Hid (Below (w.heap.size + 2) wr w3) := Lib.hid (HB2.out.trans (hb3.mono (by have := B2.out.size; have := HSB.out; have := HWS.out; omega)))
            have HR3 : Hid (Row w3 (w.heap.size + 2) 58 (wcells s)) := Lib.hid ((HR.out.below B2.out (by have := HSB.out; have := HWS.out; omega)).below hb3 (by have := B2.out.size; have := HSB.out; have := HWS.out; omega))
            have d2 := ((R2.out.below hb3 R2.out.lt).cell 2).trans HI2.out
            clear hb3 HOB d4
            go_wp2_with fail
            refine (HTK.out w3 HR3.out HB3.out).mono ?_
            rintro e w4 ⟨rfl, hr4, hb4⟩
            rw [HT.out] at hr4 ⊢
            simp only [Option.isSome_some, Option.getD_some] at hr4 ⊢
            have HR4 := Lib.hid hr4
            have HB4 := Lib.hid hb4
            clear hr4 hb4
            go_wp2_with fail
            go_roundw
            case rel => exact ⟨k + 1, s', by omega, by go_num, HST.out, by rw [HK2.out.1], by rw [HK2.out.2], HR4.out, (HB.out.trans HB3.out).trans HB4.out⟩
            case measure => simp [intOf]; omega
      · have hw : isW keys x.p = false := by simpa using hw
        have HW := Lib.hid hw
        have HST : Hid (run8 keys l (k + 1) = ⟨s.u, s.p, s.o + 1, s.bad⟩) := Lib.hid ((run8_succ (keys := keys) HX.out).trans (by rw [HS.out]; exact step_no (k := k) HW.out))
        have hso : s.o ≤ k := HO.out.o
        clear hw HTK
        go_wp2_with (first
          | ((with_reducible show wpList _ _ _ ({ dst := some 15, op := Op.load _ _, type := _, pos := _, after := _, guard := _ } :: _) _ _); go_must (refine wpList_load_at rfl 45 (.tmp 14) rfl (a.add (k * 3)) IC _ Tryd.underlying45 rfl HSI.out HAC.out ?_ ?_; go_simp))
          | ((with_reducible show wpList _ _ _ ({ dst := none, op := Op.store 45 _ _, type := _, pos := _, after := _, guard := _ } :: _) _ _); go_must (refine wpList_store_new rfl 45 (.tmp 7) (.tmp 15) rfl IC HSI.out HI1.out (by rw [HI3.out]; rfl) ?_ ?_ ?_; go_simp; go_simp; intro w2 hr2 hb2 hz2; have R2 := Lib.hid hr2; have B2 := Lib.hid hb2; clear hr2 hb2 hz2; have d4 := (B2.out.cell (p := ⟨w.heap.size, 4, none⟩) (by show w.heap.size < wr.heap.size; have := HSB.out; have := HWS.out; omega)).trans HC.out))
          | ((with_reducible show wpList _ _ _ ({ dst := some 19, op := Op.load _ _, type := _, pos := _, after := _, guard := _ } :: _) _ _); go_must (refine wpList_load_whole rfl 45 (.tmp 7) rfl wr.heap.size 45 IC _ Tryd.underlying45 rfl HSI.out R2.out ?_ ?_; go_simp)))
        have HB2 : Hid (Below (w.heap.size + 2) wr w2) := Lib.hid (B2.out.mono (by have := HSB.out; have := HWS.out; omega))
        refine (HOB.out w2 (HB.out.trans HB2.out)).mono ?_
        rintro e w3 ⟨rfl, hb3⟩
        rw [HW.out]
        have HB3 : Hid (Below (w.heap.size + 2) wr w3) := Lib.hid (HB2.out.trans (hb3.mono (by have := B2.out.size; have := HSB.out; have := HWS.out; omega)))
        have HR3 : Hid (Row w3 (w.heap.size + 2) 58 (wcells s)) := Lib.hid ((HR.out.below B2.out (by have := HSB.out; have := HWS.out; omega)).below hb3 (by have := B2.out.size; have := HSB.out; have := HWS.out; omega))
        have d2 := ((R2.out.below hb3 R2.out.lt).cell 2).trans HI2.out
        clear hb3 HOB d4
        go_wp2_with fail
        go_roundw
        case rel => exact ⟨k + 1, _, by omega, by go_num, HST.out, by go_num, rfl, HR3.out, HB.out.trans HB3.out⟩
        case measure => simp [intOf]; omega
    · obtain rfl : k = n := by omega
      have HP : Hid (wr.drew.cell? ⟨w.heap.size + 2, 6, none⟩ = some (.int .u64 (s.p.getD 0))) := Lib.hid (HR.out.drew.cell 6)
      have HRB2 : Hid (Row wr.drew (w.heap.size + 1) 36 [.int .u64 0, .int .u64 0, .int .i64 0]) := Lib.hid (HRB.out.below HB.out (by omega)).drew
      have HRU := Lib.hid HR.out.drew
      have HUN := Lib.hid (units_ s (w.heap.size + 2) wr.drew HR.out.drew (by have := HO.out.o; omega))
      have HBD : Hid (Below w.heap.size w wr.drew) := Lib.hid (HB0.out.trans (HB.out.drew.mono (by omega)))
      have HBU : Hid (bud8 s = [.int .u64 (units8 s), .int .u64 (s.p.getD 0), .int .i64 s.bad]) := Lib.hid rfl
      clear HO HOK HIN HKN HRW HR
      go_upto_region 12 with fail
      refine wp_region_held_drew (S := (fun V => V.cell? ⟨w.heap.size + 2, 6, none⟩ = some (.int .u64 (s.p.getD 0)))) (by kernel_rfl) HP.out (fun _ => ?_)
      refine takeL (i := 0) (v := ?_) rfl (by kernel_rfl) (by kernel_rfl) (by kernel_rfl) (fun _ _ _ h => h) (Or.inl ⟨by rfl, ?_⟩) HP.out ?_
      rotate_left
      · intro w hw
        try dsimp only at hw
        go_simp
        try with_reducible rfl
      try simp only [Act.put, List.setIfInBounds_toArray, List.set_cons_zero, List.set_cons_succ]
      refine takeL (i := 2) (v := ?_) rfl (by kernel_rfl) (by kernel_rfl) (by kernel_rfl) (fun _ _ _ h => h) (Or.inl ⟨by rfl, ?_⟩) HP.out ?_
      rotate_left
      · intro w hw
        try dsimp only at hw
        go_simp
        try with_reducible rfl
      try simp only [Act.put, List.setIfInBounds_toArray, List.set_cons_zero, List.set_cons_succ]
      refine takeL (i := 3) (v := ?_) rfl (by kernel_rfl) (by kernel_rfl) (by kernel_rfl) (fun _ _ _ h => h) (Or.inl ⟨by rfl, ?_⟩) HP.out ?_
      rotate_left
      · intro w hw
        try dsimp only at hw
        go_simp
        try with_reducible rfl
      try simp only [Act.put, List.setIfInBounds_toArray, List.set_cons_zero, List.set_cons_succ]
      refine takeL (i := 4) (v := ?_) rfl (by kernel_rfl) (by kernel_rfl) (by kernel_rfl) (fun _ _ _ h => h) (Or.inl ⟨by rfl, ?_⟩) HP.out ?_
      rotate_left
      · intro w hw
        try dsimp only at hw
        go_simp
        try with_reducible rfl
      try simp only [Act.put, List.setIfInBounds_toArray, List.set_cons_zero, List.set_cons_succ]
      refine takeL (i := 5) (v := ?_) rfl (by kernel_rfl) (by kernel_rfl) (by kernel_rfl) (fun _ _ _ h => h) (Or.inl ⟨by rfl, ?_⟩) HP.out ?_
      rotate_left
      · intro w hw
        try dsimp only at hw
        go_simp
        try with_reducible rfl
      try simp only [Act.put, List.setIfInBounds_toArray, List.set_cons_zero, List.set_cons_succ]
      refine readyL (i := 1) rfl (by kernel_rfl) (by kernel_rfl) fun K hK => ?_
      go_simp
      refine HUN.out.mono ?_
      rintro e w1 ⟨rfl, rfl⟩
      refine hK.out _ _ HP.out ?_
      clear hK K
      try simp only [Act.put, List.setIfInBounds_toArray, List.set_cons_zero, List.set_cons_succ]
      refine takeL (i := 6) (v := .agg ([.int .u64 (units8 s), .int .u64 (s.p.getD 0), .int .i64 s.bad] : List Value).toArray) rfl (by kernel_rfl) (by kernel_rfl) (by kernel_rfl) (fun _ _ _ h => h) (Or.inl ⟨by rfl, fun wz hwz => exec_built wz _ _ _ rfl (by simp only [List.map_toArray, List.map_cons, List.map_nil]; exact built_bud _ _ _)⟩) HP.out ?_
      try simp only [Act.put, List.setIfInBounds_toArray, List.set_cons_zero, List.set_cons_succ]
      refine readyL (i := 7) rfl (by kernel_rfl) (by kernel_rfl) fun K hK => ?_
      refine wp_store_whole 36 (.tmp 2) (.tmp 41) rfl (w.heap.size + 1) _ [.int .u64 (units8 s), .int .u64 (s.p.getD 0), .int .i64 s.bad] HRB2.out (size_bud _ _ _) rfl (bud_one _ _ _) (by go_simp) (by go_simp) ?_
      intro w5 hr5 ht5
      have R5 := Lib.hid hr5
      have B5 := Lib.hid (HBD.out.trans (ht5.below (by omega)))
      have C5 : Hid (w5.cell? ⟨w.heap.size + 2, 6, none⟩ = some (.int .u64 (s.p.getD 0))) := Lib.hid ((ht5.row HRU.out (by omega)).cell 6)
      clear hr5 ht5
      refine hK.out _ _ C5.out ?_
      clear hK K
      try simp only [Act.put]
      refine wpAnyH_done (by kernel_rfl) ?_ _
      go_wp2_with fail
      refine bodyPost_ret (results_cell_row (h := rfl) _ w5 (w.heap.size + 1) 36 _ (0, 0) _ (by rfl) R5.out.is Tryd.underlying36 rfl (size_bud _ _ _)) rfl ?_
      exact ⟨by rw [HIL.out, HS.out, HBU.out], B5.out⟩
end Go.Proofs.YtdeadehcnellpaaDoor

/-
  Of part Lives7: what is needed here.
-/
namespace Go.Proofs.YtdeadehcnellpaaDoor
open Go.RowKit
set_option linter.unusedVariables false
def xq (a : Int) : List Int := a :: List.replicate 31 0
theorem built_xq (a : Int) : Tryd.prog.built 48 [(0, .int .u8 a)] = some (bv (xq a)).toArray := by kernel_rfl
def e7 : List LRole := [⟨xq 1, true, true⟩, ⟨xq 2, true, false⟩, ⟨xq 4, false, true⟩, ⟨k0, false, false⟩]
end Go.Proofs.YtdeadehcnellpaaDoor

/-
  Of part With8: what is needed here.
-/
namespace Go.Proofs.YtdeadehcnellpaaDoor
open Go.RowKit
set_option linter.unusedVariables false
/-- slices of bytes in a slice -/
structure BssIn (w : World) (B : Nat) (A : Option Addr) (n : Nat) (l : List (List Int)) : Prop where
  len : l.length = n
  at_ : ∀ i d, l[i]? = some d → ∃ a v, A = some a ∧ a.block < B ∧ w.cell? (a.add i) = some v ∧ BytesIn w B v d
theorem BssIn.below {w w' : World} {B n : Nat} {A : Option Addr} {l : List (List Int)} (h : BssIn w B A n l) (hb : Below B w w') : BssIn w' B A n l :=
  ⟨h.len, fun i d hd => by
    obtain ⟨a, v, e, h1, h2, h3⟩ := h.at_ i d hd
    exact ⟨a, v, e, h1, (hb.cell (p := a.add i) (by rw [addr_block]; exact h1)).trans h2, h3.below hb⟩⟩
/-- the keys of such a message; its instructions -/
def keys8 : List (List Int) := [xq 7, k3, xq 8]
def m8 (ins : List LIn) : LMsg := ⟨false, 0, 0, 0, keys8, List.replicate 32 0, ins, []⟩
def q8 (g : Nat) (A : Option Addr) (n c : Nat) : Raw := ⟨some ⟨g, 0, none⟩, 3, 3, A, n, c, none, 0, 0⟩
def insD (l : List (List Int)) : List LIn := l.map fun d => ⟨1, [], d⟩
def insW (l : List (List Int)) : List LIn := insD l ++ [⟨2, [], []⟩, ⟨2, [], []⟩]
theorem cells_8 (g : Nat) (A A' : Option Addr) (n n' c c' : Nat) (ins ins' : List LIn) : ((q8 g A n c).cells (m8 ins)).set 37 (.slice A' n' c') = (q8 g A' n' c').cells (m8 ins') := rfl
theorem keys8_len : ∀ k ∈ keys8, k.length = 32 := by
  intro k hk
  simp only [keys8, List.mem_cons, List.not_mem_nil, or_false] at hk
  rcases hk with rfl | rfl | rfl <;> rfl
theorem built_m8 (g : Nat) : Tryd.prog.built 30 [(2, .slice (some ⟨g, 0, none⟩) 3 3)] = some ((q8 g none 0 0).cells (m8 [])).toArray := by kernel_rfl
theorem built_in8 (z : Int) (A : Option Addr) (n c : Nat) : Tryd.prog.built 45 [(0, .int .u8 z), (2, .slice A n c)] = some (inCells z (.slice none 0 0) (.slice A n c)).toArray := by kernel_rfl
theorem built_in0 (z : Int) : Tryd.prog.built 45 [(0, .int .u8 z)] = some (inCells z (.slice none 0 0) (.slice none 0 0)).toArray := by kernel_rfl
def z39 : List Value := (q8 0 none 0 0).cells (m8 []) |>.set 4 (.slice none 0 0)
theorem in8_one (z : Int) (A : Option Addr) (n c : Nat) : ∀ u ∈ inCells z (.slice none 0 0) (.slice A n c), u.oneCell' = true := by
  intro u hu
  simp only [inCells, List.mem_cons, List.not_mem_nil, or_false] at hu
  rcases hu with rfl | rfl | rfl <;> rfl
theorem own_apart {w : World} {base g : Nat} {e t : TypeId} {size n : Nat} {v : Value} {xs ys : List Value} (h : w.ownsRow base e size v n xs) (hr : Row w g t ys) (hne : e ≠ t) : some g ≠ v.ownBlock := fun e1 => by
  obtain ⟨cur, hc⟩ := own_is h e1.symm
  rw [hr.is] at hc
  injection (Option.some.inj hc) with _ h3 _
  exact hne h3.symm
/-- a message in a block of its own, its instructions a row of the call's own -/
structure W8 (B lo : Nat) (w : World) (gk gm : Nat) (A : Option Addr) (n c : Nat) (ins : List LIn) : Prop where
  rk : Row w gk 48 (bv (xq 7) ++ (bv k3 ++ bv (xq 8)))
  rm : Row w gm 30 ((q8 gk A n c).cells (m8 ins))
  own : ∃ news, w.ownsRow lo 45 3 (.slice A n c) n news ∧ InsCells w B ins news
  hk : lo ≤ gk
  hm : lo ≤ gm
  len : ins.length = n
  bl : B ≤ lo
section
variable {B lo : Nat} {w w' : World} {gk gm : Nat} {A : Option Addr} {n c : Nat} {ins : List LIn}
theorem W8.size (h : W8 B lo w gk gm A n c ins) : lo < w.heap.size := by have := h.rm.lt; have := h.hm; omega
theorem W8.below (h : W8 B lo w gk gm A n c ins) (hb : Below w.heap.size w w') : W8 B lo w' gk gm A n c ins := by
  obtain ⟨news, ho, hi⟩ := h.own
  exact ⟨h.rk.below hb h.rk.lt, h.rm.below hb h.rm.lt, ⟨news, own_below ho hb, hi.below (hb.mono (by have := h.size; have := h.bl; omega))⟩, h.hk, h.hm, h.len, h.bl⟩
theorem W8.drew (h : W8 B lo w gk gm A n c ins) : W8 B lo w.drew gk gm A n c ins := h.below (Below.refl _ _).drew
theorem W8.in_ (h : W8 B lo w gk gm A n c ins) : MsgIn w w.heap.size (q8 gk A n c) (m8 ins) := by
  obtain ⟨news, ho, hi⟩ := h.own
  obtain ⟨A', c', he, hs, h1, h2, _⟩ := own_form2 ho
  injection he with e1 e2 e3
  subst e1 e3
  exact ⟨rfl, keys_row (l := keys8) (ys := []) (by rw [List.append_nil]; exact h.rk) rfl keys8_len h.rk.lt, (hi.more (by have := h.size; have := h.bl; omega)).in_ hs h.len, ⟨rfl, by simp [m8]⟩, ⟨Nat.le_refl _, by show 3 ≤ maxLen; unfold maxLen; omega⟩, ⟨h1, h2⟩, ⟨Nat.le_refl _, Nat.zero_le _⟩⟩
theorem W8.grow {A' : Option Addr} {n' c' : Nat} {ins2 : List LIn} {news news' : List Value} (h : W8 B lo w gk gm A n c ins) (ho : w.ownsRow lo 45 3 (.slice A n c) n news) (hg : Grew w w' (.slice A n c) (.slice A' n' c')) (ho' : w'.ownsRow lo 45 3 (.slice A' n' c') n' news') (hi' : InsCells w B (ins ++ ins2) news') (hn : n + ins2.length = n') :
    W8 B lo (w'.setCell ⟨gm, 37, none⟩ (.slice A' n' c')) gk gm A' n' c' (ins ++ ins2) := by
  have hb : Below lo w w' := (Below.refl lo w).grown hg.grown (Nat.le_of_lt h.size) fun k hk => (ho.lt k hk).1
  have hrm : Row w' gm 30 ((q8 gk A n c).cells (m8 ins)) := h.rm.grown hg.grown (own_apart ho h.rm (by decide))
  have hrk : Row w' gk 48 (bv (xq 7) ++ (bv k3 ++ bv (xq 8))) := h.rk.grown hg.grown (own_apart ho h.rk (by decide))
  have hne : gk ≠ gm := fun e => by
    have h1 := h.rk.is
    rw [e, h.rm.is] at h1
    injection (Option.some.inj h1) with _ h3 _
    exact absurd h3 (by decide)
  have hb2 : Below lo w (w'.setCell ⟨gm, 37, none⟩ (.slice A' n' c')) := hb.setCell (p := ⟨gm, 37, none⟩) h.hm _
  refine ⟨hrk.far (p := ⟨gm, 37, none⟩) hne _, ?_, ⟨news', own_turned ho' hrm (by decide) (turned_setCell w' ⟨gm, 37, none⟩ _), hi'.below (hb2.mono h.bl)⟩, h.hk, h.hm, by rw [List.length_append, h.len, hn], h.bl⟩
  have := hrm.set_ 37 (.slice A' n' c')
  rwa [cells_8 gk A A' n n' c c' ins (ins ++ ins2)] at this
end
theorem two_one (z : Int) : ∀ u ∈ inCells z (.slice none 0 0) (.slice none 0 0) ++ inCells z (.slice none 0 0) (.slice none 0 0), u.oneCell' = true := by
  intro u hu
  rcases List.mem_append.1 hu with hu | hu
  · exact in8_one _ _ _ _ u hu
  · exact in8_one _ _ _ _ u hu
theorem app_two {w : World} {B : Nat} {l : List LIn} {x y : LIn} {a b c : List Value} (h : InsCells w B (l ++ [x] ++ [y]) (a ++ b ++ c)) : InsCells w B (l ++ [x, y]) (a ++ (b ++ c)) := by
  have e1 : l ++ [x] ++ [y] = l ++ [x, y] := by simp
  rw [e1, List.append_assoc] at h
  exact h
theorem W8.turned {B lo : Nat} {w w' : World} {gk gm g : Nat} {A : Option Addr} {n c : Nat} {ins : List LIn} (h : W8 B lo w gk gm A n c ins) (ht : Turned w w' g) (hB : B ≤ g) (hg : g < lo) : W8 B lo w' gk gm A n c ins := by
  obtain ⟨news, ho, hi⟩ := h.own
  have h1 := h.hk
  have h2 := h.hm
  exact ⟨ht.row h.rk (by omega), ht.row h.rm (by omega), ⟨news, own_keep ho fun k hk => ht.block k (by have := (ho.lt k hk).1; omega), hi.below (ht.below hB)⟩, h1, h2, h.len, h.bl⟩
/-- what 'with' leaves -/
def WithDone (B lo : Nat) (l : List (List Int)) (e : Ending) (w' : World) : Prop :=
  ∃ gk gm A c, e = .returned (.agg ((q8 gk A (l.length + 2) c).cells (m8 (insW l))).toArray) ∧ W8 B lo w' gk gm A (l.length + 2) c (insW l)
theorem insD_succ {l : List (List Int)} {k : Nat} {d : List Int} (h : l[k]? = some d) : insD (l.take (k + 1)) = insD (l.take k) ++ [⟨1, [], d⟩] := by
  unfold insD
  rw [List.take_add_one, h, List.map_append]
  rfl
theorem byte_1 : IsByte 1 := by constructor <;> decide
theorem byte_2 : IsByte 2 := by constructor <;> decide
theorem m8_one (g : Nat) (A : Option Addr) (n c : Nat) (ins : List LIn) : ∀ u ∈ (q8 g A n c).cells (m8 ins), u.oneCell' = true := cells_one
theorem m8_size (g : Nat) (A : Option Addr) (n c : Nat) (ins : List LIn) : (Tryd.prog.info? 30).map (·.size) = some ((q8 g A n c).cells (m8 ins)).length := by rw [size_msg, cells_len rfl]
theorem m8_len (g : Nat) (A : Option Addr) (n c : Nat) (ins : List LIn) : ((q8 g A n c).cells (m8 ins)).length = 39 := cells_len rfl
set_option maxRecDepth 100000 in
set_option maxHeartbeats 8000000 in
theorem with_ (A : Option Addr) (n c B : Nat) (l : List (List Int)) (w : World) (hl : BssIn w B A n l) (hB : B ≤ w.heap.size) (hn : n ≤ 4) :
    Calls Tryd.prog 14 #[.slice A n c] w fun e w' => WithDone w.heap.size (w.heap.size + 1) l e w' ∧ Below w.heap.size w w' := by
  obtain ⟨W, HX, hb0, hrr, hws⟩ : ∃ W, Hid (∀ c1, c1 = z39.toArray → w.alloc (.cells c1 30) = W) ∧ Below w.heap.size w W ∧ Row W w.heap.size 30 z39 ∧ W.heap.size = w.heap.size + 1 :=
    ⟨_, Lib.hid fun c1 h1 => by rw [h1], (Below.refl w.heap.size w).alloc (Nat.le_refl _) _, Row.new w 30 z39, by simp⟩
  have HLL := Lib.hid hl.len
  have HBS := Lib.hid (hl.below (hb0.mono hB))
  have HBB := Lib.hid hB
  have HB0 := Lib.hid hb0
  have HRR := Lib.hid hrr
  have HWS := Lib.hid hws
  have HBM := Lib.hid built_m8
  clear hl hB hb0 hrr hws
  have HX1 := Lib.hid (show (bv (xq 7)).length = 32 from rfl)
  have HX2 := Lib.hid (show (bv (xq 8)).length = 32 from rfl)
  go_enter Tryd.func14, Tryd.ntmps14
  go_upto_region 1 with fail
  rw [HX.out _ (by kernel_rfl)]
  clear HX
  go_wp2_with ((with_reducible show wpList _ _ _ ({ dst := some 5, op := Op.build _ _, type := _, pos := _, after := _, guard := _ } :: _) _ _); go_must (refine wpList_plain rfl fun K hK => wp_built _ _ _ rfl (by simp only [List.map_toArray, List.map_cons, List.map_nil]; exact built_xq 7) (hK _ _ ?_)))
  refine (budget_ W).mono ?_
  rintro e w1 ⟨rfl, hb1⟩
  have B1 := Lib.hid hb1
  have HS1 : Hid (w.heap.size + 1 ≤ w1.heap.size) := Lib.hid (by have := hb1.size; have := HWS.out; omega)
  clear hb1
  obtain ⟨gk, hgk⟩ : ∃ g, g = w1.heap.size := ⟨_, rfl⟩
  have HRK := Lib.hid (Row.new' w1 48 (bv (xq 7) ++ (bv k3 ++ bv (xq 8))) hgk.symm)
  have HBK : Hid (Below w1.heap.size w1 (w1.alloc (.cells (bv (xq 7) ++ (bv k3 ++ bv (xq 8))).toArray 48))) := Lib.hid ((Below.refl _ _).alloc (Nat.le_refl _) _)
  have HZK : Hid ((w1.alloc (.cells (bv (xq 7) ++ (bv k3 ++ bv (xq 8))).toArray 48)).heap.size = gk + 1) := Lib.hid (by rw [hgk]; simp)
  have HM1 := Lib.hid (m8_one gk none 0 0 [])
  have HSM := Lib.hid (m8_size gk none 0 0 [])
  have HLM := Lib.hid (m8_len gk none 0 0 [])
  have HBM1 := Lib.hid (HBM.out gk)
  have HGK := Lib.hid hgk
  have HMC : Hid (∃ MC, MC = (q8 gk none 0 0).cells (m8 [])) := Lib.hid ⟨_, rfl⟩
  obtain ⟨MC, hMC⟩ := HMC.out
  rw [← hMC] at HM1 HSM HLM HBM1
  have HME := Lib.hid hMC
  clear hMC HMC hgk
  go_wp2_with (first
    | ((with_reducible show wpList _ _ _ ({ dst := some 7, op := Op.build _ _, type := _, pos := _, after := _, guard := _ } :: _) _ _); go_must (refine wpList_plain rfl fun K hK => wp_built _ _ _ rfl (by simp only [List.map_toArray, List.map_cons, List.map_nil]; exact built_xq 8) (hK _ _ ?_)))
    | ((with_reducible show wpList _ _ _ ({ dst := some 8, op := Op.buildSlice _ _ _, type := _, pos := _, after := _, guard := _ } :: _) _ _); go_must (refine wpList_buildThree rfl 24 48 (.tmp 5) (.tmp 6) (.tmp 7) rfl (bv (xq 7)) (bv k3) (bv (xq 8)) _ 32 32 Tryd.underlying24 info_key3 (by kernel_rfl) (by omega) (by omega) rfl rfl rfl ?_ ?_ ?_ ?_; go_simp; go_simp; go_simp; rw [← HGK.out]))
    | ((with_reducible show wpList _ _ _ ({ dst := some 9, op := Op.build _ _, type := _, pos := _, after := _, guard := _ } :: _) _ _); go_must (refine wpList_plain rfl fun K hK => wp_built _ _ _ rfl (by simp only [List.map_toArray, List.map_cons, List.map_nil]; exact HBM1.out) (hK _ _ ?_)))
    | ((with_reducible show wpList _ _ _ ({ dst := none, op := Op.store 30 _ _, type := _, pos := _, after := _, guard := _ } :: _) _ _); go_must (refine wpList_store_new rfl 30 (.tmp 3) (.tmp 9) rfl MC HSM.out HM1.out (by rw [HLM.out]; rfl) ?_ ?_ ?_; go_simp; go_simp; intro w2 hr2 hb2 hz2; have R2 := Lib.hid hr2; have B2 := Lib.hid hb2; clear hr2 hb2 hz2)))
  rw [← HGK.out]
  have HW0 : Hid (W8 w.heap.size (w.heap.size + 1) w2 gk (gk + 1) none 0 0 []) := Lib.hid (by
    have hk2 := HRK.out.below B2.out HRK.out.lt
    have hm2 := R2.out
    rw [HZK.out, HME.out] at hm2
    exact ⟨hk2, hm2, ⟨[], own_nilN _ _ _ _, ⟨rfl, (fun i x h => by simp at h), (fun u h => by simp at h)⟩⟩, by have := HS1.out; have := HGK.out; omega, by have := HS1.out; have := HGK.out; omega, rfl, Nat.le_succ _⟩)
  have HBW : Hid (Below (w.heap.size + 1) W w2) := Lib.hid ((B1.out.mono (by have := HWS.out; omega)).trans ((HBK.out.mono HS1.out).trans (B2.out.mono (by have := HZK.out; have := HGK.out; have := HS1.out; omega))))
  clear R2 B2 HRK HBK HZK HBM1 HM1 HSM HLM HME B1 HBM
  go_loopw [4] (fun i wr => ∃ (k : Nat) (A2 : Option Addr) (c2 : Nat), k ≤ n ∧ i = .int .i64 k ∧ W8 w.heap.size (w.heap.size + 1) wr gk (gk + 1) A2 k c2 (insD (l.take k)) ∧ Below (w.heap.size + 1) W wr) (fun i _ => n - (intOf i).toNat)
  case atStart => exact ⟨0, none, 0, Nat.zero_le _, rfl, HW0.out, HBW.out⟩
  case round =>
    obtain ⟨k, A2, c2, hk, rfl, hw8, hbel⟩ := hrel
    have H8 := Lib.hid hw8
    have HB := Lib.hid hbel
    have c37 : wr.cell? ⟨gk + 1, 37, none⟩ = some (.slice A2 k c2) := hw8.rm.cell 37
    clear hw8 hbel
    by_cases hlt : k < n
    · obtain ⟨d, hd⟩ : ∃ d, l[k]? = some d := ⟨_, List.getElem?_eq_getElem (by rw [HLL.out]; exact hlt)⟩
      obtain ⟨a, v, rfl, hab, hav, hbv⟩ := HBS.out.at_ k d hd
      have HAV : Hid (wr.drew.cell? (a.add k) = some v) := Lib.hid ((HB.out.cell (p := a.add k) (by rw [addr_block]; have := HBB.out; omega)).trans hav)
      have HBV : Hid (BytesIn wr B v d) := Lib.hid (hbv.below (HB.out.mono (by have := HBB.out; omega)))
      have HAB : Hid (a.block < B) := Lib.hid hab
      have HST := Lib.hid (insD_succ hd)
      obtain ⟨DA, dc, hv, _, _, _⟩ := hbv.is
      subst hv
      obtain ⟨dn, hdn⟩ : ∃ z, d.length = z := ⟨_, rfl⟩
      rw [hdn] at HAV HBV
      obtain ⟨news, ho, hi⟩ := H8.out.own
      have HO := Lib.hid ho
      have HI := Lib.hid hi
      clear hav hbv hab hd hdn c37 ho hi
      go_upto_region 5 with fail
      have C37 : Hid (wr.drew.cell? ⟨gk + 1, 37, none⟩ = some (.slice A2 k c2)) := Lib.hid (H8.out.drew.rm.cell 37)
      refine wp_region_held_drew (S := (fun V => V.cell? (a.add k) = some (.slice DA dn dc))) (by kernel_rfl) HAV.out (fun _ => ?_)
      have H80 := Lib.hid H8.out.drew
      have O0 : Hid (wr.drew.ownsRow (w.heap.size + 1) 45 3 (.slice A2 k c2) k news) := Lib.hid HO.out
      have I0 : Hid (InsCells wr.drew w.heap.size (insD (l.take k)) news) := Lib.hid (HI.out.below (Below.refl _ _).drew)
      have V0B : Hid (BytesIn wr.drew w.heap.size (.slice DA dn dc) d) := Lib.hid ((HBV.out.below (Below.refl _ _).drew).more HBB.out)
      have E0 : Hid (Below (w.heap.size + 1) W wr.drew) := Lib.hid HB.out.drew
      clear H8 HO HI HBV HB HW0 HBW
      generalize wr.drew = V0 at *
      refine takeL (i := 0) (v := ?_) rfl (by kernel_rfl) (by kernel_rfl) (by kernel_rfl) (fun _ _ _ h => h) (Or.inl ⟨by rfl, ?_⟩) HAV.out ?_
      rotate_left
      · intro w hw
        try dsimp only at hw
        go_simp
        try with_reducible rfl
      try simp only [Act.put, List.setIfInBounds_toArray, List.set_cons_zero, List.set_cons_succ]
      refine takeL (i := 2) (v := ?_) rfl (by kernel_rfl) (by kernel_rfl) (by kernel_rfl) (fun _ _ _ h => h) (Or.inl ⟨by rfl, ?_⟩) HAV.out ?_
      rotate_left
      · intro w hw
        try dsimp only at hw
        go_simp
        try with_reducible rfl
      try simp only [Act.put, List.setIfInBounds_toArray, List.set_cons_zero, List.set_cons_succ]
      refine takeL (i := 3) (v := ?_) rfl (by kernel_rfl) (by kernel_rfl) (by kernel_rfl) (fun _ _ _ h => h) (Or.inl ⟨by rfl, ?_⟩) HAV.out ?_
      rotate_left
      · intro w hw
        try dsimp only at hw
        go_simp
        try with_reducible rfl
      try simp only [Act.put, List.setIfInBounds_toArray, List.set_cons_zero, List.set_cons_succ]
      refine takeL (i := 4) (v := ?_) rfl (by kernel_rfl) (by kernel_rfl) (by kernel_rfl) (fun _ _ _ h => h) (Or.inl ⟨by rfl, ?_⟩) HAV.out ?_
      rotate_left
      · intro w hw
        try dsimp only at hw
        go_simp
        try with_reducible rfl
      try simp only [Act.put, List.setIfInBounds_toArray, List.set_cons_zero, List.set_cons_succ]
      refine takeL (i := 5) (v := ?_) rfl (by kernel_rfl) (by kernel_rfl) (by kernel_rfl) (fun _ _ _ h => h) (Or.inl ⟨by rfl, ?_⟩) HAV.out ?_
      rotate_left
      · intro w hw
        try dsimp only at hw
        go_simp
        try with_reducible rfl
      try simp only [Act.put, List.setIfInBounds_toArray, List.set_cons_zero, List.set_cons_succ]
      refine takeL (i := 6) (v := .agg (inCells 1 (.slice none 0 0) (.slice DA dn dc)).toArray) rfl (by kernel_rfl) (by kernel_rfl) (by kernel_rfl) (fun _ _ _ h => h) (Or.inl ⟨by rfl, fun wz hwz => exec_built wz _ _ _ rfl (by simp only [List.map_toArray, List.map_cons, List.map_nil]; exact built_in8 1 DA dn dc)⟩) HAV.out ?_
      try simp only [Act.put, List.setIfInBounds_toArray, List.set_cons_zero, List.set_cons_succ]
      have hb1 : Below V0.heap.size V0 (V0.alloc (.cells (inCells 1 (.slice none 0 0) (.slice DA dn dc)).toArray 45)) := (Below.refl _ _).alloc (Nat.le_refl _) _
      have hr1 := Row.new V0 45 (inCells 1 (.slice none 0 0) (.slice DA dn dc))
      have H81 := Lib.hid (H80.out.below hb1)
      have R1 := Lib.hid hr1
      have O1 := Lib.hid (own_below O0.out hb1)
      have S1 : Hid ((V0.alloc (.cells (inCells 1 (.slice none 0 0) (.slice DA dn dc)).toArray 45)).cell? (a.add k) = some (.slice DA dn dc)) := Lib.hid ((hb1.cell (p := a.add k) (by rw [addr_block]; have := HAB.out; have := HBB.out; have := H80.out.size; omega)).trans HAV.out)
      have C1 : Hid ((V0.alloc (.cells (inCells 1 (.slice none 0 0) (.slice DA dn dc)).toArray 45)).cell? ⟨gk + 1, 37, none⟩ = some (.slice A2 k c2)) := Lib.hid ((hb1.cell (p := ⟨gk + 1, 37, none⟩) H80.out.rm.lt).trans C37.out)
      have HZ1 : Hid (w.heap.size + 1 ≤ (V0.alloc (.cells (inCells 1 (.slice none 0 0) (.slice DA dn dc)).toArray 45)).heap.size) := Lib.hid (Nat.le_of_lt H81.out.size)
      have I1 := Lib.hid ((I0.out.below (hb1.mono (by have := H80.out.size; omega))).snoc (y := ⟨1, [], d⟩) byte_1 (bytes_nil _ _) (V0B.out.below (hb1.mono (by have := H80.out.size; omega))))
      have E1 := Lib.hid (E0.out.trans (hb1.mono (Nat.le_of_lt H80.out.size)))
      clear hb1 hr1
      refine readyL2 (i := 1) (j := 7) rfl rfl (by kernel_rfl) (by kernel_rfl) (by kernel_rfl) (fun K hK => ?_) (fun K hK => ?_)
      · have c37 := C37.out
        go_simp
        refine hK.out _ _ HAV.out ?_
        clear hK K
        try simp only [Act.put, List.setIfInBounds_toArray, List.set_cons_zero, List.set_cons_succ]
        refine readyL (i := 7) rfl (by kernel_rfl) (by kernel_rfl) fun K hK => ?_
        refine wp_buildOne 27 45 (.tmp 22) rfl (inCells 1 (.slice none 0 0) (.slice DA dn dc)) _ 3 56 Tryd.underlying27 info_ins5 (by kernel_rfl) (by omega) (by omega) rfl (by go_simp) ?_
        generalize hgb : V0.heap.size = gb at *
        generalize V0.alloc (.cells (inCells 1 (.slice none 0 0) (.slice DA dn dc)).toArray 45) = V1 at *
        refine hK.out _ _ S1.out ?_
        clear hK K
        try simp only [Act.put, List.setIfInBounds_toArray, List.set_cons_zero, List.set_cons_succ]
        refine readyL (i := 8) rfl (by kernel_rfl) (by kernel_rfl) fun K hK => ?_
        refine wp_appendN (.tmp 17) (.tmp 23) 27 45 _ 3 56 rfl Tryd.underlying27 info_ins5 (by kernel_rfl) (by omega) (.slice A2 k c2) k news (w.heap.size + 1) V1.heap.size (some ⟨gb, 0, none⟩) 1 1 (inCells 1 (.slice none 0 0) (.slice DA dn dc)) (by go_simp) O1.out (by go_simp) (by have := R1.out.sees0; exact this) (in8_one _ _ _ _) (by unfold maxLen; omega) (by omega) HZ1.out ?_
        intro v2 V2 ho2 hg2
        obtain ⟨A3, c3, rfl, _, _, _, _⟩ := own_form2 ho2
        have hb2 : Below (w.heap.size + 1) V1 V2 := (Below.refl _ V1).grown hg2.grown HZ1.out fun k hk => (O1.out.lt k hk).1
        have RM2 := Lib.hid (H81.out.rm.grown hg2.grown (own_apart O1.out H81.out.rm (by decide)))
        have H83 := Lib.hid (H81.out.grow (ins2 := [⟨1, [], d⟩]) O1.out hg2 ho2 I1.out rfl)
        have E3 := Lib.hid ((E1.out.trans hb2).setCell (p := ⟨gk + 1, 37, none⟩) H81.out.hm (.slice A3 (k + 1) c3))
        have D2 : Hid (V2.cell? (a.add k) = some (.slice DA dn dc)) := Lib.hid ((hb2.cell (p := a.add k) (by rw [addr_block]; have := HAB.out; have := HBB.out; omega)).trans S1.out)
        have D3 : Hid ((V2.setCell ⟨gk + 1, 37, none⟩ (.slice A3 (k + 1) c3)).cell? (a.add k) = some (.slice DA dn dc)) := Lib.hid ((((Below.refl (w.heap.size + 1) V2).setCell (p := ⟨gk + 1, 37, none⟩) H81.out.hm (.slice A3 (k + 1) c3)).cell (p := a.add k) (by rw [addr_block]; have := HAB.out; have := HBB.out; omega)).trans D2.out)
        clear ho2 hg2 hb2
        refine hK.out _ _ D2.out ?_
        clear hK K
        try simp only [Act.put, List.setIfInBounds_toArray, List.set_cons_zero, List.set_cons_succ]
        refine takeL (i := 9) (v := ?_) rfl (by kernel_rfl) (by kernel_rfl) (by kernel_rfl) (fun _ _ _ h => h) (Or.inl ⟨by rfl, ?_⟩) D2.out ?_
        rotate_left
        · intro w hw
          try dsimp only at hw
          go_simp
          try with_reducible rfl
        try simp only [Act.put, List.setIfInBounds_toArray, List.set_cons_zero, List.set_cons_succ]
        have d37 : V2.cell? ⟨gk + 1, 37, none⟩ = some (.slice A2 k c2) := RM2.out.cell 37
        have f37 := RM2.out.frozen 37
        refine readyL (i := 10) rfl (by kernel_rfl) (by kernel_rfl) fun K hK => ?_
        go_simp
        refine hK.out _ _ D3.out ?_
        clear hK K
        try simp only [Act.put, List.setIfInBounds_toArray, List.set_cons_zero, List.set_cons_succ]
        refine wpAnyH_done (by kernel_rfl) ?_ _
        go_wp2_with fail
        go_roundw
        case rel => exact ⟨k + 1, A3, c3, by omega, by go_num, by rw [HST.out]; exact H83.out, E3.out⟩
        case measure => simp [intOf]; omega
      · refine wp_buildOne 27 45 (.tmp 22) rfl (inCells 1 (.slice none 0 0) (.slice DA dn dc)) _ 3 56 Tryd.underlying27 info_ins5 (by kernel_rfl) (by omega) (by omega) rfl (by go_simp) ?_
        generalize hgb : V0.heap.size = gb at *
        generalize V0.alloc (.cells (inCells 1 (.slice none 0 0) (.slice DA dn dc)).toArray 45) = V1 at *
        refine hK.out _ _ S1.out ?_
        clear hK K
        try simp only [Act.put, List.setIfInBounds_toArray, List.set_cons_zero, List.set_cons_succ]
        refine readyL (i := 1) rfl (by kernel_rfl) (by kernel_rfl) fun K hK => ?_
        have c37 := C1.out
        go_simp
        refine hK.out _ _ S1.out ?_
        clear hK K
        try simp only [Act.put, List.setIfInBounds_toArray, List.set_cons_zero, List.set_cons_succ]
        refine readyL (i := 8) rfl (by kernel_rfl) (by kernel_rfl) fun K hK => ?_
        refine wp_appendN (.tmp 17) (.tmp 23) 27 45 _ 3 56 rfl Tryd.underlying27 info_ins5 (by kernel_rfl) (by omega) (.slice A2 k c2) k news (w.heap.size + 1) V1.heap.size (some ⟨gb, 0, none⟩) 1 1 (inCells 1 (.slice none 0 0) (.slice DA dn dc)) (by go_simp) O1.out (by go_simp) (by have := R1.out.sees0; exact this) (in8_one _ _ _ _) (by unfold maxLen; omega) (by omega) HZ1.out ?_
        intro v2 V2 ho2 hg2
        obtain ⟨A3, c3, rfl, _, _, _, _⟩ := own_form2 ho2
        have hb2 : Below (w.heap.size + 1) V1 V2 := (Below.refl _ V1).grown hg2.grown HZ1.out fun k hk => (O1.out.lt k hk).1
        have RM2 := Lib.hid (H81.out.rm.grown hg2.grown (own_apart O1.out H81.out.rm (by decide)))
        have H83 := Lib.hid (H81.out.grow (ins2 := [⟨1, [], d⟩]) O1.out hg2 ho2 I1.out rfl)
        have E3 := Lib.hid ((E1.out.trans hb2).setCell (p := ⟨gk + 1, 37, none⟩) H81.out.hm (.slice A3 (k + 1) c3))
        have D2 : Hid (V2.cell? (a.add k) = some (.slice DA dn dc)) := Lib.hid ((hb2.cell (p := a.add k) (by rw [addr_block]; have := HAB.out; have := HBB.out; omega)).trans S1.out)
        have D3 : Hid ((V2.setCell ⟨gk + 1, 37, none⟩ (.slice A3 (k + 1) c3)).cell? (a.add k) = some (.slice DA dn dc)) := Lib.hid ((((Below.refl (w.heap.size + 1) V2).setCell (p := ⟨gk + 1, 37, none⟩) H81.out.hm (.slice A3 (k + 1) c3)).cell (p := a.add k) (by rw [addr_block]; have := HAB.out; have := HBB.out; omega)).trans D2.out)
        clear ho2 hg2 hb2
        refine hK.out _ _ D2.out ?_
        clear hK K
        try simp only [Act.put, List.setIfInBounds_toArray, List.set_cons_zero, List.set_cons_succ]
        refine takeL (i := 9) (v := ?_) rfl (by kernel_rfl) (by kernel_rfl) (by kernel_rfl) (fun _ _ _ h => h) (Or.inl ⟨by rfl, ?_⟩) D2.out ?_
        rotate_left
        · intro w hw
          try dsimp only at hw
          go_simp
          try with_reducible rfl
        try simp only [Act.put, List.setIfInBounds_toArray, List.set_cons_zero, List.set_cons_succ]
        have d37 : V2.cell? ⟨gk + 1, 37, none⟩ = some (.slice A2 k c2) := RM2.out.cell 37
        have f37 := RM2.out.frozen 37
        refine readyL (i := 10) rfl (by kernel_rfl) (by kernel_rfl) fun K hK => ?_
        go_simp
        refine hK.out _ _ D3.out ?_
        clear hK K
        try simp only [Act.put, List.setIfInBounds_toArray, List.set_cons_zero, List.set_cons_succ]
        refine wpAnyH_done (by kernel_rfl) ?_ _
        go_wp2_with fail
        go_roundw
        case rel => exact ⟨k + 1, A3, c3, by omega, by go_num, by rw [HST.out]; exact H83.out, E3.out⟩
        case measure => simp [intOf]; omega
    · obtain rfl : k = n := by omega
      have HTK : Hid (l.take k = l) := Lib.hid (List.take_of_length_le (by rw [HLL.out]; exact Nat.le_refl _))
      have H8 : Hid (W8 w.heap.size (w.heap.size + 1) wr gk (gk + 1) A2 k c2 (insD l)) := Lib.hid (by have h := H8.out; rw [HTK.out] at h; exact h)
      obtain ⟨news, ho, hi⟩ := H8.out.own
      have HO := Lib.hid ho
      have HI := Lib.hid hi
      have HSZ := Lib.hid (H8.out.size)
      have hb1 : Below wr.heap.size wr (wr.alloc (.cells (inCells 2 (.slice none 0 0) (.slice none 0 0) ++ inCells 2 (.slice none 0 0) (.slice none 0 0)).toArray 45)) := (Below.refl _ _).alloc (Nat.le_refl _) _
      have H81 := Lib.hid (H8.out.below hb1)
      have R1 := Lib.hid (Row.new wr 45 (inCells 2 (.slice none 0 0) (.slice none 0 0) ++ inCells 2 (.slice none 0 0) (.slice none 0 0)))
      have O1 := Lib.hid (own_below HO.out hb1)
      have I1 := Lib.hid ((((HI.out.below (hb1.mono (by have := HSZ.out; omega))).snoc (y := ⟨2, [], []⟩) byte_2 (bytes_nil _ _) (bytes_nil _ _))).snoc (y := ⟨2, [], []⟩) byte_2 (bytes_nil _ _) (bytes_nil _ _))
      have E1 := Lib.hid (HB.out.trans (hb1.mono (Nat.le_of_lt HSZ.out)))
      clear ho hi HW0 HBW hb1
      go_wp2_with (first
        | ((with_reducible show wpList _ _ _ ({ dst := some 28, op := Op.build _ _, type := _, pos := _, after := _, guard := _ } :: _) _ _); go_must (refine wpList_plain rfl fun K hK => wp_built _ _ _ rfl (by simp only [List.map_toArray, List.map_cons, List.map_nil]; exact built_in0 2) (hK _ _ ?_)))
        | ((with_reducible show wpList _ _ _ ({ dst := some 29, op := Op.build _ _, type := _, pos := _, after := _, guard := _ } :: _) _ _); go_must (refine wpList_plain rfl fun K hK => wp_built _ _ _ rfl (by simp only [List.map_toArray, List.map_cons, List.map_nil]; exact built_in0 2) (hK _ _ ?_)))
        | ((with_reducible show wpList _ _ _ ({ dst := some 30, op := Op.buildSlice _ _ _, type := _, pos := _, after := _, guard := _ } :: _) _ _); go_must (refine wpList_buildTwo rfl 27 45 (.tmp 28) (.tmp 29) rfl (inCells 2 (.slice none 0 0) (.slice none 0 0)) (inCells 2 (.slice none 0 0) (.slice none 0 0)) _ 3 56 Tryd.underlying27 info_ins5 (by kernel_rfl) (by omega) (by omega) rfl rfl ?_ ?_ ?_; go_simp; go_simp))
        | ((with_reducible show wpList _ _ _ ({ dst := some 31, op := _, type := _, pos := _, after := _, guard := _ } :: _) _ _); go_must (refine wpList_appendN rfl (.tmp 27) (.tmp 30) 27 45 _ 3 56 rfl Tryd.underlying27 info_ins5 (by kernel_rfl) (by omega) (.slice A2 k c2) k news (w.heap.size + 1) _ (some ⟨wr.heap.size, 0, none⟩) 2 2 (inCells 2 (.slice none 0 0) (.slice none 0 0) ++ inCells 2 (.slice none 0 0) (.slice none 0 0)) ?_ O1.out ?_ R1.out.sees0 (two_one _) (by unfold maxLen; omega) (by omega) (Nat.le_of_lt H81.out.size) ?_; go_simp; go_simp; intro v2 V2 ho2 hg2; obtain ⟨A3, c3, rfl, _, _, _, _⟩ := own_form2 ho2; have RM2 := Lib.hid (H81.out.rm.grown hg2.grown (own_apart O1.out H81.out.rm (by decide))); have H83 := Lib.hid (H81.out.grow (ins2 := [⟨2, [], []⟩, ⟨2, [], []⟩]) O1.out hg2 ho2 (app_two I1.out) rfl); have hb2 : Below (w.heap.size + 1) _ V2 := (Below.refl _ _).grown hg2.grown (Nat.le_of_lt H81.out.size) fun k hk => (O1.out.lt k hk).1; have E3 := Lib.hid ((E1.out.trans hb2).setCell (p := ⟨gk + 1, 37, none⟩) H81.out.hm (.slice A3 (k + 2) c3)); have d37 : V2.cell? ⟨gk + 1, 37, none⟩ = some (.slice A2 k c2) := RM2.out.cell 37; have f37 := RM2.out.frozen 37; have HLC := Lib.hid (m8_size gk A3 (k + 2) c3 (insW l)); have HLN := Lib.hid (m8_len gk A3 (k + 2) c3 (insW l)); have HRZ := Lib.hid (HRR.out.below E3.out (by omega)); clear ho2 hg2 hb2))
        | ((with_reducible show wpList _ _ _ ({ dst := some 33, op := Op.load _ _, type := _, pos := _, after := _, guard := _ } :: _) _ _); go_must (refine wpList_load_whole rfl 30 (.tmp 3) rfl (gk + 1) 30 ((q8 gk A3 (k + 2) c3).cells (m8 (insW l))) _ Tryd.underlying30 rfl HLC.out H83.out.rm ?_ ?_; go_simp))
        | ((with_reducible show wpList _ _ _ ({ dst := none, op := Op.store 30 _ _, type := _, pos := _, after := _, guard := _ } :: _) _ _); go_must (refine wpList_store_whole rfl 30 (.tmp 2) (.tmp 33) rfl w.heap.size z39 ((q8 gk A3 (k + 2) c3).cells (m8 (insW l))) HRZ.out HLC.out (by rw [HLN.out]; rfl) (m8_one _ _ _ _ _) ?_ ?_ ?_; go_simp; go_simp; intro w5 hr5 ht5; have R5 := Lib.hid hr5; have HT5 := Lib.hid ht5; clear hr5 ht5)))
      refine bodyPost_ret (results_cell_row (h := rfl) _ w5 w.heap.size 30 _ (0, 0) _ (by rfl) R5.out.is Tryd.underlying30 rfl HLC.out) rfl ?_
      exact ⟨⟨gk, gk + 1, A3, c3, by rw [HLL.out], by rw [HLL.out]; exact H83.out.turned HT5.out (Nat.le_refl _) (by omega)⟩, (HB0.out.trans (E3.out.mono (by omega))).trans (HT5.out.below (Nat.le_refl _))⟩
end Go.Proofs.YtdeadehcnellpaaDoor

/-
  Of part Lives8: what is needed here.
-/
namespace Go.Proofs.YtdeadehcnellpaaDoor
open Go.RowKit
set_option linter.unusedVariables false
theorem bud_held : Tryd.prog.stoodInHeld 36 = false := by kernel_rfl
theorem bud_under : Tryd.prog.underlying 36 = some (.struct (Tryd.prog.fieldsOf 36)) := by kernel_rfl
theorem u64_eq9 (a b : Int) (w : World) : (Op.equalIn 9999 34 (.int .u64 a) (.int .u64 b)).run Tryd.prog w = .ok (a == b) w := by
  have := run_equalIn_int (P := Tryd.prog) w 9998 34 .u64 .u64 a b Tryd.underlying34
  rwa [show (9998 + 1 : Nat) = 9999 from rfl] at this
theorem int_eq9 (a b : Int) (w : World) : (Op.equalIn 9999 3 (.int .i64 a) (.int .i64 b)).run Tryd.prog w = .ok (a == b) w := by
  have := run_equalIn_int (P := Tryd.prog) w 9998 3 .i64 .i64 a b Tryd.underlying3
  rwa [show (9998 + 1 : Nat) = 9999 from rfl] at this
theorem bud_fields (X Y : Array Value) (w : World) {a b c a' b' c' : Int} (pa : (part 34 X 0).run Tryd.prog w = .ok (.int .u64 a) w) (pa' : (part 34 Y 0).run Tryd.prog w = .ok (.int .u64 a') w)
    (pb : (part 34 X 1).run Tryd.prog w = .ok (.int .u64 b) w) (pb' : (part 34 Y 1).run Tryd.prog w = .ok (.int .u64 b') w) (pc : (part 3 X 2).run Tryd.prog w = .ok (.int .i64 c) w) (pc' : (part 3 Y 2).run Tryd.prog w = .ok (.int .i64 c') w) :
    (Op.eqFields 9999 X Y (Tryd.prog.fieldsOf 36).toList).run Tryd.prog w = .ok ((a == a') && (b == b') && (c == c')) w := by
  simp only [Program.fieldsOf, Tryd.underlying36]
  have h1 := u64_eq9
  have h2 := int_eq9
  simp only [Op.eqFields, ne_eq, String.reduceEq, not_false_eq_true, if_true, Sem.run_bind, pa, pa', Result.andThen_ok, h1]
  cases (a == a')
  · simp
  · simp only [Bool.not_true, Bool.false_eq_true, if_false, pb, pb', Sem.run_bind, Result.andThen_ok, h1]
    cases (b == b')
    · simp
    · simp only [Bool.not_true, Bool.false_eq_true, if_false, pc, pc', Sem.run_bind, Result.andThen_ok, h2]
      cases (c == c') <;> simp
theorem bud_eqIn (x y z x' y' z' : Int) (w : World) : (Op.equalIn 10000 36 (.agg ([.int .u64 x, .int .u64 y, .int .i64 z] : List Value).toArray) (.agg ([.int .u64 x', .int .u64 y', .int .i64 z'] : List Value).toArray)).run Tryd.prog w = .ok ((x == x') && (y == y') && (z == z')) w := by
  rw [show (10000 : Nat) = 9999 + 1 from rfl, run_equalIn_struct w 9999 36 _ _ bud_under bud_held]
  exact bud_fields _ _ w (run_part_plain (P := Tryd.prog) w (by kernel_rfl) rfl) (run_part_plain (P := Tryd.prog) w (by kernel_rfl) rfl) (run_part_plain (P := Tryd.prog) w (by kernel_rfl) rfl) (run_part_plain (P := Tryd.prog) w (by kernel_rfl) rfl) (run_part_plain (P := Tryd.prog) w (by kernel_rfl) rfl) (run_part_plain (P := Tryd.prog) w (by kernel_rfl) rfl)
/-- budgets that are the same -/
theorem bud_eql (x y z : Int) (w : World) : (binOp .eql 36 (.agg ([.int .u64 x, .int .u64 y, .int .i64 z] : List Value).toArray) (.agg ([.int .u64 x, .int .u64 y, .int .i64 z] : List Value).toArray)).run Tryd.prog w = .ok (.bool true) w := by
  rw [run_eql_struct, bud_eqIn]
  simp
theorem bud_neq (x y z : Int) (w : World) : (binOp .neq 36 (.agg ([.int .u64 x, .int .u64 y, .int .i64 z] : List Value).toArray) (.agg ([.int .u64 x, .int .u64 y, .int .i64 z] : List Value).toArray)).run Tryd.prog w = .ok (.bool false) w := by
  rw [run_neq_struct, bud_eqIn]
  simp
/-- budgets.Of of such a message -/
theorem ofW8 {B lo : Nat} {w : World} {gk gm : Nat} {A : Option Addr} {n c : Nat} {ins : List LIn} (h : W8 B lo w gk gm A n c ins) (hi : ∀ i ∈ ins, IsByte i.p ∧ AllBytes i.dat) (hn : n ≤ 4000) (hl : LenAt w) :
    Calls Tryd.prog 10 #[.agg ((q8 gk A n c).cells (m8 ins)).toArray] w fun e w' => e = .returned (.agg (bud8 (all8 keys8 ins)).toArray) ∧ Below w.heap.size w w' :=
  ofB_ (q8 gk A n c) (m8 ins) w.heap.size w h.in_ (Nat.le_refl _) hi hn hl
theorem insW_ok {l : List (List Int)} (h : ∀ d ∈ l, AllBytes d) : ∀ i ∈ insW l, IsByte i.p ∧ AllBytes i.dat := by
  intro i hi
  unfold insW insD at hi
  rcases List.mem_append.1 hi with hi | hi
  · obtain ⟨d, hd, rfl⟩ := List.mem_map.1 hi
    exact ⟨byte_1, h d hd⟩
  · simp only [List.mem_cons, List.not_mem_nil, or_false] at hi
    rcases hi with rfl | rfl <;> exact ⟨byte_2, fun z hz => by simp at hz⟩
theorem insW_len (l : List (List Int)) : (insW l).length = l.length + 2 := by unfold insW insD; simp
theorem bss_row {w : World} {g t B n : Nat} {vs : List Value} {l : List (List Int)} (hr : Row w g t vs) (hg : g < B) (hn : l.length = n) (h : ∀ (i : Nat) d, l[i]? = some d → ∃ v, vs[i]? = some v ∧ BytesIn w B v d) : BssIn w B (some ⟨g, 0, none⟩) n l :=
  ⟨hn, fun i d hd => by
    obtain ⟨v, hv, hb⟩ := h i d hd
    exact ⟨_, v, rfl, hg, by rw [addr_row, Nat.zero_add, hr.cell, hv], hb⟩⟩
theorem bytes_row8 {w : World} {g t B n : Nat} {l : List Int} (hr : Row w g t (bv l)) (hg : g < B) (hn : l.length = n) (hm : n ≤ maxLen) : BytesIn w B (.slice (some ⟨g, 0, none⟩) n n) l := by
  subst hn
  refine ⟨some ⟨g, 0, none⟩, l.length, rfl, ⟨bv_length l, fun i u hu => ?_⟩, Nat.le_refl _, hm⟩
  exact ⟨_, rfl, hg, by rw [addr_row, Nat.zero_add, hr.cell, hu]⟩
def dU : List Int := [2, 232, 3, 0, 0]
def dP : List Int := [3, 64, 66, 15, 0, 0, 0, 0, 0]
theorem dU_ok : AllBytes dU := by unfold AllBytes IsByte dU; decide
theorem dP_ok : AllBytes dP := by unfold AllBytes IsByte dP; decide
theorem d2_ok : AllBytes [2] := by unfold AllBytes IsByte; decide
theorem ex_1 : bud8 (all8 keys8 (insW [dU, dP])) = [.int .u64 1000, .int .u64 1000000, .int .i64 (-1)] := by kernel_rfl
theorem ex_2 : bud8 (all8 keys8 (insW [dP])) = [.int .u64 400000, .int .u64 1000000, .int .i64 (-1)] := by kernel_rfl
theorem ex_3 : bud8 (all8 keys8 (insW [dU, dP, [2]])) = [.int .u64 1000, .int .u64 1000000, .int .i64 2] := by kernel_rfl
set_option maxRecDepth 100000 in
set_option maxHeartbeats 4000000 in
theorem lives8 (w : World) (hl : LenAt w) : Calls Tryd.prog 8 #[] w fun e w' => e = .returned (.bool true) ∧ Below w.heap.size w w' := by
  have HL := Lib.hid hl
  have HP := Lib.hid hl.pos
  clear hl
  obtain ⟨W2, HW2⟩ : ∃ V, V = (w.alloc (.cells (bv dU).toArray 5)).alloc (.cells (bv dP).toArray 5) := ⟨_, rfl⟩
  have RU : Hid (Row W2 w.heap.size 5 (bv dU)) := Lib.hid (by rw [HW2]; exact (Row.new w 5 (bv dU)).alloc _)
  have RP : Hid (Row W2 (w.heap.size + 1) 5 (bv dP)) := Lib.hid (by rw [HW2]; exact Row.new' _ 5 (bv dP) (by simp))
  have B2 : Hid (Below w.heap.size w W2) := Lib.hid (by rw [HW2]; exact ((Below.refl _ w).alloc (Nat.le_refl _) _).alloc (by simp) _)
  have Z2 : Hid (W2.heap.size = w.heap.size + 2) := Lib.hid (by rw [HW2]; simp)
  have HX := Lib.hid (fun c1 c2 (h1 : c1 = (bv dU).toArray) (h2 : c2 = (bv dP).toArray) => show (w.alloc (.cells c1 5)).alloc (.cells c2 5) = W2 by rw [h1, h2, HW2])
  have HBU : Hid (∀ V : World, Row V w.heap.size 5 (bv dU) → ∀ B, w.heap.size < B → BytesIn V B (.slice (some ⟨w.heap.size, 0, none⟩) 5 5) dU) := Lib.hid fun V h B hB => bytes_row8 h hB rfl (by unfold maxLen; omega)
  have HBP : Hid (∀ V : World, Row V (w.heap.size + 1) 5 (bv dP) → ∀ B, w.heap.size + 1 < B → BytesIn V B (.slice (some ⟨w.heap.size + 1, 0, none⟩) 9 9) dP) := Lib.hid fun V h B hB => bytes_row8 h hB rfl (by unfold maxLen; omega)
  have HE1 := Lib.hid ex_1
  have HE2 := Lib.hid ex_2
  have HE3 := Lib.hid ex_3
  have HOF : Hid (∀ (l : List (List Int)) (B lo : Nat) (V : World) gk gm A c, W8 B lo V gk gm A (l.length + 2) c (insW l) → (∀ d ∈ l, AllBytes d) → l.length ≤ 4 → LenAt V → Calls Tryd.prog 10 #[.agg ((q8 gk A (l.length + 2) c).cells (m8 (insW l))).toArray] V fun e w' => e = .returned (.agg (bud8 (all8 keys8 (insW l))).toArray) ∧ Below V.heap.size V w') := Lib.hid fun l B lo V gk gm A c h hd hn hl => ofW8 h (insW_ok hd) (by omega) hl
  clear HW2
  have N1 := bud_eql 1000 1000000 (-1)
  have N2 := bud_eql 400000 1000000 (-1)
  have N3 := bud_eql 1000 1000000 2
  go_enter Tryd.func8, Tryd.ntmps8
  go_upto_region 3 with fail
  rw [HX.out _ _ (by kernel_rfl) (by kernel_rfl)]
  clear HX
  go_wp2_with fail
  have hb := (Below.refl W2.heap.size W2).alloc (Nat.le_refl _) (.cells #[.slice (some ⟨w.heap.size, 0, none⟩) 5 5, .slice (some ⟨w.heap.size + 1, 0, none⟩) 9 9] 40)
  have hbs : BssIn (W2.alloc (.cells #[.slice (some ⟨w.heap.size, 0, none⟩) 5 5, .slice (some ⟨w.heap.size + 1, 0, none⟩) 9 9] 40)) (W2.alloc (.cells #[.slice (some ⟨w.heap.size, 0, none⟩) 5 5, .slice (some ⟨w.heap.size + 1, 0, none⟩) 9 9] 40)).heap.size (some ⟨W2.heap.size, 0, none⟩) 2 [dU, dP] :=
    bss_row (Row.new W2 40 [.slice (some ⟨w.heap.size, 0, none⟩) 5 5, .slice (some ⟨w.heap.size + 1, 0, none⟩) 9 9]) (by simp) rfl (fun i d hd => match i, hd with
      | 0, e => by cases e; exact ⟨_, rfl, HBU.out _ (RU.out.below hb RU.out.lt) _ (Nat.lt_of_lt_of_le RU.out.lt hb.size)⟩
      | 1, e => by cases e; exact ⟨_, rfl, HBP.out _ (RP.out.below hb RP.out.lt) _ (Nat.lt_of_lt_of_le RP.out.lt hb.size)⟩
      | j + 2, e => by simp at e)
  refine (with_ _ 2 2 _ [dU, dP] _ hbs (Nat.le_refl _) (by omega)).mono ?_
  rintro e u1 ⟨⟨gk, gm, A, c, rfl, h8⟩, hb3⟩
  have hb4 := hb.trans (hb3.mono hb.size)
  have BU1 := Lib.hid (B2.out.trans (hb4.mono B2.out.size))
  have RV1 := Lib.hid (RU.out.below hb4 RU.out.lt)
  have RW1 := Lib.hid (RP.out.below hb4 RP.out.lt)
  have HO := Lib.hid (HOF.out [dU, dP] _ _ u1 gk gm A c h8 (fun d hd => by simp only [List.mem_cons, List.not_mem_nil, or_false] at hd; rcases hd with rfl | rfl; exact dU_ok; exact dP_ok) (by show 2 ≤ 4; omega) (HL.out.below BU1.out HP.out))
  rw [HE1.out] at HO
  generalize (q8 gk A ([dU, dP].length + 2) c).cells (m8 (insW [dU, dP])) = MC at *
  clear hb hb3 hb4 hbs h8
  go_wp2_with fail
  refine HO.out.mono ?_
  rintro e v1 ⟨rfl, hb5⟩
  have BB1 := Lib.hid (BU1.out.trans (hb5.mono BU1.out.size))
  have RU1 := Lib.hid (RV1.out.below hb5 RV1.out.lt)
  have RP1 := Lib.hid (RW1.out.below hb5 RW1.out.lt)
  clear HO hb5
  go_wp2_with ((with_reducible show wpList _ _ _ ({ dst := some 10, op := Op.build _ _, type := _, pos := _, after := _, guard := _ } :: _) _ _); go_must (refine BigFrame.wpList_want (by kernel_rfl) fun K hK => wp_built _ _ _ rfl (by simp only [List.map_toArray, List.map_cons, List.map_nil]; exact built_bud 1000 1000000 (-1)) (hK _ _ ?_)))
  have hb := (Below.refl v1.heap.size v1).alloc (Nat.le_refl _) (.cells #[.slice (some ⟨w.heap.size + 1, 0, none⟩) 9 9] 40)
  have hbs : BssIn (v1.alloc (.cells #[.slice (some ⟨w.heap.size + 1, 0, none⟩) 9 9] 40)) (v1.alloc (.cells #[.slice (some ⟨w.heap.size + 1, 0, none⟩) 9 9] 40)).heap.size (some ⟨v1.heap.size, 0, none⟩) 1 [dP] :=
    bss_row (Row.new v1 40 [.slice (some ⟨w.heap.size + 1, 0, none⟩) 9 9]) (by simp) rfl (fun i d hd => match i, hd with
      | 0, e => by cases e; exact ⟨_, rfl, HBP.out _ (RP1.out.below hb RP1.out.lt) _ (Nat.lt_of_lt_of_le RP1.out.lt hb.size)⟩
      | j + 1, e => by simp at e)
  refine (with_ _ 1 1 _ [dP] _ hbs (Nat.le_refl _) (by omega)).mono ?_
  rintro e u2 ⟨⟨gk, gm, A, c, rfl, h8⟩, hb3⟩
  have hb4 := hb.trans (hb3.mono hb.size)
  have BU2 := Lib.hid (BB1.out.trans (hb4.mono BB1.out.size))
  have RV2 := Lib.hid (RU1.out.below hb4 RU1.out.lt)
  have RW2 := Lib.hid (RP1.out.below hb4 RP1.out.lt)
  have HO := Lib.hid (HOF.out [dP] _ _ u2 gk gm A c h8 (fun d hd => by simp only [List.mem_cons, List.not_mem_nil, or_false] at hd; rw [hd]; exact dP_ok) (by show 1 ≤ 4; omega) (HL.out.below BU2.out HP.out))
  rw [HE2.out] at HO
  generalize (q8 gk A ([dP].length + 2) c).cells (m8 (insW [dP])) = MC at *
  clear hb hb3 hb4 hbs h8
  go_wp2_with fail
  refine HO.out.mono ?_
  rintro e v2 ⟨rfl, hb5⟩
  have BB2 := Lib.hid (BU2.out.trans (hb5.mono BU2.out.size))
  have RU2 := Lib.hid (RV2.out.below hb5 RV2.out.lt)
  have RP2 := Lib.hid (RW2.out.below hb5 RW2.out.lt)
  clear HO hb5
  go_wp2_with ((with_reducible show wpList _ _ _ ({ dst := some 17, op := Op.build _ _, type := _, pos := _, after := _, guard := _ } :: _) _ _); go_must (refine BigFrame.wpList_want (by kernel_rfl) fun K hK => wp_built _ _ _ rfl (by simp only [List.map_toArray, List.map_cons, List.map_nil]; exact built_bud 400000 1000000 (-1)) (hK _ _ ?_)))
  have hb0 := (Below.refl v2.heap.size v2).alloc (Nat.le_refl _) (.cells #[.int .u8 2] 5)
  have R2 := Lib.hid (Row.new v2 5 (bv [2]))
  have RU2 := Lib.hid (RU2.out.below hb0 RU2.out.lt)
  have RP2 := Lib.hid (RP2.out.below hb0 RP2.out.lt)
  have BB2 := Lib.hid (BB2.out.trans (hb0.mono BB2.out.size))
  clear hb0
  have HV2 : Hid (∃ g, g = v2.heap.size) := Lib.hid ⟨_, rfl⟩
  obtain ⟨g2, hg2⟩ := HV2.out
  have R2 : Hid (Row (v2.alloc (.cells #[.int .u8 2] 5)) g2 5 (bv [2])) := Lib.hid (by rw [hg2]; exact R2.out)
  have HZ2 : Hid ((v2.alloc (.cells #[.int .u8 2] 5)).heap.size = g2 + 1) := Lib.hid (by rw [hg2]; simp)
  rw [← hg2]
  clear hg2 HV2
  generalize v2.alloc (.cells #[.int .u8 2] 5) = v2' at *
  have hb := (Below.refl v2'.heap.size v2').alloc (Nat.le_refl _) (.cells #[.slice (some ⟨w.heap.size, 0, none⟩) 5 5, .slice (some ⟨w.heap.size + 1, 0, none⟩) 9 9, .slice (some ⟨g2, 0, none⟩) 1 1] 40)
  have hbs : BssIn (v2'.alloc (.cells #[.slice (some ⟨w.heap.size, 0, none⟩) 5 5, .slice (some ⟨w.heap.size + 1, 0, none⟩) 9 9, .slice (some ⟨g2, 0, none⟩) 1 1] 40)) (v2'.alloc (.cells #[.slice (some ⟨w.heap.size, 0, none⟩) 5 5, .slice (some ⟨w.heap.size + 1, 0, none⟩) 9 9, .slice (some ⟨g2, 0, none⟩) 1 1] 40)).heap.size (some ⟨v2'.heap.size, 0, none⟩) 3 [dU, dP, [2]] :=
    bss_row (Row.new v2' 40 [.slice (some ⟨w.heap.size, 0, none⟩) 5 5, .slice (some ⟨w.heap.size + 1, 0, none⟩) 9 9, .slice (some ⟨g2, 0, none⟩) 1 1]) (by simp) rfl (fun i d hd => match i, hd with
      | 0, e => by cases e; exact ⟨_, rfl, HBU.out _ (RU2.out.below hb RU2.out.lt) _ (Nat.lt_of_lt_of_le RU2.out.lt hb.size)⟩
      | 1, e => by cases e; exact ⟨_, rfl, HBP.out _ (RP2.out.below hb RP2.out.lt) _ (Nat.lt_of_lt_of_le RP2.out.lt hb.size)⟩
      | 2, e => by cases e; exact ⟨_, rfl, bytes_row8 (R2.out.below hb R2.out.lt) (Nat.lt_of_lt_of_le R2.out.lt hb.size) rfl (by unfold maxLen; omega)⟩
      | j + 3, e => by simp at e)
  rw [HZ2.out] at hbs
  refine (with_ _ 3 3 _ [dU, dP, [2]] _ hbs (Nat.le_refl _) (by omega)).mono ?_
  rintro e u3 ⟨⟨gk, gm, A, c, rfl, h8⟩, hb3⟩
  have hb4 := hb.trans (hb3.mono hb.size)
  have BU3 := Lib.hid (BB2.out.trans (hb4.mono BB2.out.size))
  have RV3 := Lib.hid (RU2.out.below hb4 RU2.out.lt)
  have RW3 := Lib.hid (RP2.out.below hb4 RP2.out.lt)
  have HO := Lib.hid (HOF.out [dU, dP, [2]] _ _ u3 gk gm A c h8 (fun d hd => by simp only [List.mem_cons, List.not_mem_nil, or_false] at hd; rcases hd with rfl | rfl | rfl; exact dU_ok; exact dP_ok; exact d2_ok) (by show 3 ≤ 4; omega) (HL.out.below BU3.out HP.out))
  rw [HE3.out] at HO
  generalize (q8 gk A ([dU, dP, [2]].length + 2) c).cells (m8 (insW [dU, dP, [2]])) = MC at *
  clear hb hb3 hb4 hbs h8
  go_wp2_with fail
  refine HO.out.mono ?_
  rintro e v3 ⟨rfl, hb5⟩
  have BB3 := Lib.hid (BU3.out.trans (hb5.mono BU3.out.size))
  have RU3 := Lib.hid (RV3.out.below hb5 RV3.out.lt)
  have RP3 := Lib.hid (RW3.out.below hb5 RW3.out.lt)
  clear HO hb5
  go_wp2_with ((with_reducible show wpList _ _ _ ({ dst := some 27, op := Op.build _ _, type := _, pos := _, after := _, guard := _ } :: _) _ _); go_must (refine BigFrame.wpList_want (by kernel_rfl) fun K hK => wp_built _ _ _ rfl (by simp only [List.map_toArray, List.map_cons, List.map_nil]; exact built_bud 1000 1000000 2) (hK _ _ ?_)))
  go_ret
  exact ⟨rfl, BB3.out⟩
end Go.Proofs.YtdeadehcnellpaaDoor

/-
  Of part RefGetN: what is needed here.
-/
namespace Go.Proofs.YtdeadehcnellpaaDoor
open Go.RowKit
set_option linter.unusedVariables false
theorem bytes_drop {zs : List Int} (hb : Bytes zs) (j : Nat) : Bytes (zs.drop j) := by
  intro i
  have := hb (j + i)
  simpa [List.getD_eq_getElem?_getD] using this
theorem num_down (zs : List Int) (hb : Bytes zs) (k j : Nat) (hk : k + 1 + j ≤ 8) :
    IntKind.u64.wrap (IntKind.u64.wrap (256 * num (zs.drop (k + 1)) j) + IntKind.u64.wrap (zs.getD k 0)) = num (zs.drop k) (j + 1) := by
  have h := hb k
  have hn := num_bound (zs.drop (k + 1)) (bytes_drop hb _) j
  have e : num (zs.drop k) (j + 1) = zs.getD k 0 + 256 * num (zs.drop (k + 1)) j := by
    rw [num_shift, List.drop_drop]
    simp [List.getD_eq_getElem?_getD]
  rw [e]
  have hp : (256 : Int) ^ j ≤ 72057594037927936 := by
    have h1 : (256 : Nat) ^ j ≤ 256 ^ 7 := Nat.pow_le_pow_right (by omega) (by omega)
    have h2 : ((256 ^ j : Nat) : Int) = (256 : Int) ^ j := by simp
    omega
  generalize num (zs.drop (k + 1)) j = p at *
  generalize zs.getD k 0 = z at *
  rw [u64_in (256 * p) (by omega) (by omega), u64_in z (by omega) (by omega), u64_in _ (by omega) (by omega)]
  omega
set_option maxHeartbeats 400000 in
theorem refGet (A : Option Addr) (n c : Nat) (zs : List Int) (m : Int) (w : World) (S : Nat)
    (hx : Sees w S A n (bv zs)) (hn : n ≤ maxLen) (hb : Bytes zs) :
    Calls Tryd.prog 22 #[.slice A n c, .int .i64 m] w fun e w' => e = .returned (.tuple #[.int .u64 (getN zs m).1, .int .i64 (getN zs m).2]) ∧ w = w' := by
  unfold maxLen at hn
  have lx := Lib.hid (show zs.length = n by have := hx.len; rwa [bv_length] at this)
  by_cases hm : m < 1 ∨ 8 < m
  · have hg : getN zs m = (0, 1) := by simp [getN, hm]
    have HG := Lib.hid hg
    clear hg
    rcases hm with hm | hm
    · go_enter Tryd.func22, Tryd.ntmps22
      go_wp2
      go_ret2
      exact ⟨tup2_of HG.out, rfl⟩
    · have h2 : ¬ m < 1 := by omega
      go_enter Tryd.func22, Tryd.ntmps22
      go_wp2
      go_ret2
      exact ⟨tup2_of HG.out, rfl⟩
  · have hm1 : ¬ m < 1 := by omega
    have hm2 : ¬ 8 < m := by omega
    by_cases hl : (n : Int) < m
    · have hg : getN zs m = (0, 5) := by simp [getN, hm]; rw [lx.out]; exact hl
      have HG := Lib.hid hg
      clear hg hm
      go_enter Tryd.func22, Tryd.ntmps22
      go_wp2
      go_ret2
      exact ⟨tup2_of HG.out, rfl⟩
    · obtain ⟨mm, rfl⟩ := Int.eq_ofNat_of_zero_le (show 0 ≤ m by omega)
      have hg : getN zs mm = (num zs mm, 0) := by simp [getN, hm]; rw [lx.out]; omega
      have hm8 : mm ≤ 8 := by omega
      have hm1 : 1 ≤ mm := by omega
      have hmn : mm ≤ n := by omega
      have HG := Lib.hid hg
      clear hg hm hl hm2
      go_enter Tryd.func22, Tryd.ntmps22
      go_wp2
      go_loop [6, 7] (fun v i => ∃ (k : Nat), k ≤ mm ∧ i = .int .i64 ((k : Int) - 1) ∧ v = .int .u64 (num (zs.drop k) (mm - k))) (fun _ i => (intOf i + 1).toNat)
      case atStart => exact ⟨mm, Nat.le_refl _, rfl, by simp [num]⟩
      case round =>
        obtain ⟨k, hk, rfl, rfl⟩ := hrel
        by_cases hlt : 0 < k
        · obtain ⟨k, rfl⟩ : ∃ j, k = j + 1 := ⟨k - 1, by omega⟩
          obtain ⟨a, rfl, ha, hca⟩ := hx.byte (k := k) (by omega)
          have HS := Lib.hid (num_down zs hb k (mm - (k + 1)) (by omega))
          generalize zs.getD k 0 = z at *
          generalize num (zs.drop (k + 1)) (mm - (k + 1)) = p at *
          have hc1 : (((k + 1 : Nat) : Int) - 1) = (k : Int) := by omega
          rw [hc1]
          clear hc1
          go_wp2
          go_round
          case rel => exact ⟨k, by omega, by go_num, by rw [HS.out, show mm - (k + 1) + 1 = mm - k by omega]⟩
          case measure => simp [intOf]
        · have hk0 : k = 0 := by omega
          subst hk0
          have hc1 : (((0 : Nat) : Int) - 1) = -1 := by omega
          rw [hc1]
          clear hc1
          go_wp2
          go_ret2
          exact ⟨tup2_of HG.out, rfl⟩
end Go.Proofs.YtdeadehcnellpaaDoor
