/-
  Parts joined: HoldWalk AppendN MoreMath MoreWalk.
-/
import Derived.Below
import Derived.Laws.OwnMore
import Derived.Deep.AppendLies
import Derived.Deep.Draws
import Derived.Lib.Hide
import Derived.Laws.MakeOwn
import Derived.Laws.CopyOwn
import Derived.Laws.Rows
import Derived.Maps.AppendAt
import Derived.OwnWalk
import Derived.Laws.BitsAllLaws
import Derived.WalkKit
import Derived.Test.YtgdikmgmpleolaaRows
import Derived.WalkSpells
import Derived.WalkLawsBesides
import Derived.IntWalk
import Derived.Deep.MidRow
import Derived.Deep.WholeRow
import Derived.Great.BuildSlice
import Derived.Recover
import Derived.Deep.RegionHeld
import Derived.Deep.QuietTactic
import Derived.BigQuiet
import Derived.ChangeKeysEq
import Derived.Deep.RegionHeld2
import Derived.Deep.CutBlock
import Derived.Laws.Tables
import Derived.ProofKit
import Derived.OpenShut
import Derived.ShutString
import Derived.ChangeOld
import Derived.Lib.SmallJoins
import Derived.Laws.Slices
import Derived.Deep.DeepCutAuto
import Derived.Deep.Slices
import Derived.Deep.Strs
import Derived.SizedLaws
import Derived.Laws.EntriesVeiled
import Derived.Deep.RegionHeld3
import Derived.Maps.OwnSet
import Derived.DeepKeys4
import Derived.WideKeyArr
import Derived.WideKeyEntry
import Derived.Test.YtgdikmgmpleolaaA1
import Derived.Test.YtgdikmgmpleolaaA2
import Derived.Test.YtgdikmgmpleolaaA3
import Derived.Test.YtgdikmgmpleolaaA4
import Derived.Test.YtgdikmgmpleolaaA5
import Derived.Test.YtgdikmgmpleolaaA6
/-
  Of part HoldWalk: what is needed here.
-/
namespace Go.Proofs.Ytgdikmgmpleolaa
open Go.RowKit Go.Maps
set_option linter.unusedVariables false
/-- what a transaction is that breaks no rule -/
structure Holds (x : LTx) : Prop where
  s : x.m.s ≠ 0 ∧ (x.sigs.length : Int) = x.m.s
  r : x.m.r < x.m.s
  o : x.m.s + x.m.o ≤ (x.m.keys.length : Int)
  l : ∀ l ∈ x.m.looks, l.wr.length + l.rd.length ≠ 0
  t : tot x.m ≤ 64
  i : ∀ i ∈ x.m.ins, (i.p ≠ 0 ∧ i.p < (x.m.keys.length : Int)) ∧ ∀ a ∈ i.acc, a < (tot x.m : Int)
  n : x.m.keys.Nodup
theorem holds_of {x : LTx} (h : chk x = 0) : Holds x := by
  have h1 : b1 x = false := by cases e : b1 x; rfl; simp [chk, e] at h
  have h2 : b2 x.m = false := by cases e : b2 x.m; rfl; simp [chk, h1, e] at h
  have h3 : b3 x.m = false := by cases e : b3 x.m; rfl; simp [chk, h1, h2, e] at h
  have h4 : b4 x.m = false := by cases e : b4 x.m; rfl; simp [chk, h1, h2, h3, e] at h
  have h5 : b5 x.m = false := by cases e : b5 x.m; rfl; simp [chk, h1, h2, h3, h4, e] at h
  have h6 : b6 x.m = false := by cases e : b6 x.m; rfl; simp [chk, h1, h2, h3, h4, h5, e] at h
  have g1 := of_decide_eq_false h1
  have g2 := of_decide_eq_false h2
  have g4 := of_decide_eq_false h4
  have g6 := of_decide_eq_false h6
  refine ⟨⟨fun e => g1 (.inl e), Classical.byContradiction fun e => g1 (.inr e)⟩, by omega, by omega, fun l hl e => ?_, by omega, fun i hi => ⟨⟨fun e => ?_, ?_⟩, fun a ha => ?_⟩, Classical.byContradiction g6⟩
  · have : x.m.looks.any noix = true := List.any_eq_true.2 ⟨l, hl, by unfold noix ixs; exact decide_eq_true e⟩
    unfold b3 at h3
    rw [this] at h3
    cases h3
  · have : x.m.ins.any (stray x.m.keys.length (tot x.m)) = true := List.any_eq_true.2 ⟨i, hi, by simp [stray, pstray, e]⟩
    unfold b5 at h5
    rw [this] at h5
    cases h5
  · refine Classical.byContradiction fun e => ?_
    have : x.m.ins.any (stray x.m.keys.length (tot x.m)) = true := List.any_eq_true.2 ⟨i, hi, by simp [stray, pstray]; left; right; omega⟩
    unfold b5 at h5
    rw [this] at h5
    cases h5
  · refine Classical.byContradiction fun e => ?_
    have : x.m.ins.any (stray x.m.keys.length (tot x.m)) = true := List.any_eq_true.2 ⟨i, hi, by
      unfold stray
      rw [Bool.or_eq_true]
      right
      exact List.any_eq_true.2 ⟨a, ha, decide_eq_true (by omega)⟩⟩
    unfold b5 at h5
    rw [this] at h5
    cases h5
def i1 : DataW Unit := .lit (.int .i64 1)
theorem zero_int (w : World) : (zeroValue 3).run Try.prog w = .ok (.int .i64 0) w := by kernel_rfl
set_option maxRecDepth 100000 in
set_option maxHeartbeats 8000000 in
theorem hold_walk (s : TRaw) (x : LTx) (w : World) (hm : TxIn w w.heap.size s x) (hs : Sized x.m) (hwf : x.m.Wf) :
    Calls Try.prog 4 #[.agg (s.cells x).toArray] w fun e w' => e = .returned (.bool true) ∧ Below w.heap.size w w' := by
  have hmm := @run_makeMap Try.prog
  have hrow := Row.new w 33 (s.cells x)
  have hb0 := (Below.refl w.heap.size w).alloc (Nat.le_refl _) (.cells (s.cells x).toArray 33)
  have hm0 := hm.below hb0
  have HG := Lib.hid (great5 s x w.heap.size _ hm0 hb0.size hs)
  have HTS := Lib.hid (show (Try.prog.info? 33).map (·.size) = some (s.cells x).length by rw [size_tx, tcells_len hm.m.recent])
  have HTR := Lib.hid (fun (V : World) (h : Row V w.heap.size 33 (s.cells x)) => TxRow.of h hm.m.recent)
  have HCK := Lib.hid (fun (V : World) (h : TxIn V w.heap.size s x) (hz : w.heap.size ≤ V.heap.size) (hsm : Small x.m) => check_ s x w.heap.size V h hz hsm hwf)
  have HTT := Lib.hid (fun (V : World) (h : TxIn V w.heap.size s x) (hz : w.heap.size ≤ V.heap.size) (hsm : Small x.m) => total_ s x w.heap.size V h hz hsm)
  have lk := hm.m.keys.len
  have ll := hm.m.looks.len
  have li := hm.m.ins.len
  have lsg := hm.sigs.len
  have hsn := hm.sn
  obtain ⟨s0, s1⟩ : 0 ≤ x.m.s ∧ x.m.s < 256 := hwf.s
  obtain ⟨r0, r1⟩ : 0 ≤ x.m.r ∧ x.m.r < 256 := hwf.r
  obtain ⟨o0, o1⟩ : 0 ≤ x.m.o ∧ x.m.o < 256 := hwf.o
  generalize s.cells x = cs at *
  obtain ⟨SA, sn, sc, KA, kn, kc, IA, n, ic, LA, ln, lc⟩ := s
  dsimp only at lk ll li lsg hsn
  unfold maxLen at hsn
  have HLK := Lib.hid lk
  have HLL := Lib.hid ll
  have HLI := Lib.hid li
  have HLS := Lib.hid lsg
  have HROW := Lib.hid hrow
  have HM0 := Lib.hid hm0
  have HB0 := Lib.hid hb0
  have HW := Lib.hid hwf
  clear hrow hb0 hm0 hm hs hwf lk ll li lsg
  go_enter Try.func4, Try.ntmps4
  go_wp2_with ((with_reducible show wpList _ _ _ ({ dst := some 13, op := Op.load _ _, type := _, pos := _, after := _, guard := _ } :: _) _ _); go_must (refine wpList_load_whole rfl 33 (.tmp 1) rfl w.heap.size 33 cs _ Try.underlying33 rfl HTS.out HROW.out ?_ ?_; go_simp))
  refine HG.out.mono ?_
  rintro e w1 ⟨⟨b, rfl, hgr⟩, hb1⟩
  have HB1 := Lib.hid (HB0.out.trans (hb1.mono HB0.out.size))
  have HM1 := Lib.hid (HM0.out.below (hb1.mono HB0.out.size))
  have HR1 := Lib.hid (HROW.out.below hb1 HROW.out.lt)
  clear hb1 HG HM0 HROW
  cases b
  rotate_left
  · clear hgr
    go_wp2_with fail
    refine (lives5 _).mono ?_
    rintro e w2 ⟨rfl, hb2⟩
    go_wp2_with fail
    go_ret
    exact ⟨rfl, HB1.out.trans (hb2.mono HB1.out.size)⟩
  obtain ⟨hsg, ht⟩ := hgr rfl
  have HSM := Lib.hid (Small.of ht)
  have HC1 := Lib.hid (HCK.out w1 HM1.out HB1.out.size HSM.out)
  clear hgr hsg ht HCK
  go_wp2_with ((with_reducible show wpList _ _ _ ({ dst := some 16, op := Op.load _ _, type := _, pos := _, after := _, guard := _ } :: _) _ _); go_must (refine wpList_load_atg (by kernel_rfl) 33 (.tmp 1) rfl ⟨w.heap.size, 0, none⟩ cs _ Try.underlying33 rfl HTS.out (fun j v hv => by rw [addr_row, HR1.out.cell, Nat.zero_add]; exact hv) ?_ ?_; go_simp))
  refine HC1.out.mono ?_
  rintro e w2 ⟨rfl, hb2⟩
  have HB2 := Lib.hid (HB1.out.trans (hb2.mono HB1.out.size))
  have HM2 := Lib.hid (HM1.out.below (hb2.mono HB1.out.size))
  have HR2 := Lib.hid (HR1.out.below hb2 HR1.out.lt)
  clear hb2 HM1 HR1 HC1
  by_cases hck : chk x = 0
  rotate_left
  · have hcb : (chk x != 0) = true := by simp [hck]
    generalize chk x = cx at *
    clear hck
    go_wp2_with fail
    refine (lives5 _).mono ?_
    rintro e w3 ⟨rfl, hb3⟩
    go_wp2_with fail
    go_ret
    exact ⟨rfl, HB2.out.trans (hb3.mono HB2.out.size)⟩
  have HH := Lib.hid (holds_of hck)
  have hcb : (chk x != 0) = false := by simp [hck]
  clear hck
  generalize chk x = cx at *
  have k1 : kn ≤ 4000 := by have := HLK.out; have := HSM.out.keys; omega
  have k2 : ln ≤ 4000 := by have := HLL.out; have := HSM.out.looks; omega
  have k3 : n ≤ 4000 := by have := HLI.out; have := HSM.out.ins; omega
  have hh1 := HH.out.s
  have hh2 := HH.out.r
  have hh3 := HH.out.o
  rw [HLS.out] at hh1
  rw [HLK.out] at hh3
  have htt := HH.out.t
  have HTW : Hid (tot x.m = kn + lookSize x.m.looks) := Lib.hid (by unfold tot; rw [HLK.out])
  obtain ⟨d0, d2, d3, d4, d5, d38, d39⟩ := HTR.out _ HR2.out
  dsimp only at d0 d5 d38 d39
  have hbx := (Below.refl w2.heap.size w2).alloc (Nat.le_refl _) (.cells #[Value.int .u8 x.m.s, .int .u8 x.m.r, .int .u8 x.m.o] 24)
  have RT := Lib.hid (HR2.out.below hbx HR2.out.lt)
  have RH := Lib.hid (Row.new w2 24 [Value.int .u8 x.m.s, .int .u8 x.m.r, .int .u8 x.m.o])
  have BW := Lib.hid (HB2.out.trans (hbx.mono HB2.out.size))
  have HM3 := Lib.hid (HM2.out.below (hbx.mono HB2.out.size))
  obtain ⟨v, hv⟩ : ∃ v, v = x.m.s := ⟨_, rfl⟩
  obtain ⟨r, hr⟩ : ∃ v, v = x.m.r := ⟨_, rfl⟩
  obtain ⟨o, ho⟩ : ∃ v, v = x.m.o := ⟨_, rfl⟩
  rw [← hv, ← hr, ← ho] at RT RH BW HM3
  rw [← hv] at d2 s0 s1 hh1 hh2 hh3
  rw [← hr] at d3 r0 r1 hh2
  rw [← ho] at d4 o0 o1 hh3
  obtain ⟨hv0, hsnv⟩ := hh1
  have HSNV := Lib.hid hsnv
  have HV0 := Lib.hid hv0
  clear hbx hv hr ho hsnv hv0
  obtain ⟨t, htot⟩ : ∃ t, t = tot x.m := ⟨_, rfl⟩
  have HTOT := Lib.hid htot
  rw [← htot] at htt HTW HTT
  clear htot
  go_upto_region 4 with fail
  clear d0 d2 d3 d4 d5 d38 d39 HR2 HM2
  generalize w2.alloc (.cells #[Value.int .u8 v, .int .u8 r, .int .u8 o] 24) = W at *
  generalize w2.heap.size = gh at *
  obtain ⟨d0, d2, d3, d4, d5, d38, d39⟩ := HTR.out _ RT.out
  dsimp only at d0 d5 d38 d39
  have e0 : W.cell? ⟨gh, 0, none⟩ = some (.int .u8 v) := RH.out.cell 0
  have e1 : W.cell? ⟨gh, 1, none⟩ = some (.int .u8 r) := RH.out.cell 1
  have e2 : W.cell? ⟨gh, 2, none⟩ = some (.int .u8 o) := RH.out.cell 2
  clear d2 d3 d4
  go_wp2_with fail
  go_loopw [5, 6] (fun aa i wr => ∃ (k j t : Nat), k ≤ ln ∧ i = .int .i64 k ∧ aa = .int .i64 t ∧ t = kn + lookSize (x.m.looks.take k) ∧ t ≤ 8000 ∧ wr = W.drewN j) (fun aa i _ => ln - (intOf i).toNat)
  case atStart => exact ⟨0, 0, kn, Nat.zero_le _, rfl, rfl, by simp [lookSize], by omega, rfl⟩
  case round =>
    obtain ⟨k, j, t', hk, rfl, rfl, hsum, hs9, rfl⟩ := hrel
    have HSU := Lib.hid hsum
    clear hsum
    by_cases hlt : k < ln
    · obtain ⟨a, y, va, vd, rfl, hab, hx, hat⟩ := HM3.out.m.looks.get hlt
      have hx2 := HSM.out.wr (List.mem_of_getElem? hx)
      have hnz := HH.out.l y (List.mem_of_getElem? hx)
      have hz := lookSize_succ hx
      have hz2 := lookSize_take (l := x.m.looks) (k + 1)
      have hz3 := HSM.out.sum
      have hc1 : W.cell? ((a.add (k * 34)).add 32) = some va := hat.cells 32 va (by rw [List.getElem?_append_right (by rw [bv_length, hat.len]; exact Nat.le_refl _), bv_length, hat.len]; rfl)
      have hc2 : W.cell? ((a.add (k * 34)).add 33) = some vd := hat.cells 33 vd (by rw [List.getElem?_append_right (by rw [bv_length, hat.len]; omega), bv_length, hat.len]; rfl)
      obtain ⟨A1, c1, rfl, _, _, _⟩ := hat.wr.is
      obtain ⟨A2, c2, rfl, _, _, _⟩ := hat.rd.is
      have q1 : W.cell? ⟨(a.add (k * 34)).block, (a.add (k * 34)).off + 32, none⟩ = some (.slice A1 y.wr.length c1) := hc1
      have q2 : W.cell? ⟨(a.add (k * 34)).block, (a.add (k * 34)).off + 33, none⟩ = some (.slice A2 y.rd.length c2) := hc2
      have HZ : Hid (t' + (y.wr.length + y.rd.length) = kn + lookSize (x.m.looks.take (k + 1))) := Lib.hid (by have := HSU.out; omega)
      have hz4 : t' + (y.wr.length + y.rd.length) ≤ 8000 := by have := HZ.out; omega
      obtain ⟨g1, g2⟩ := hx2
      generalize y.wr.length = n1 at *
      generalize y.rd.length = n2 at *
      have hnb : ((n1 : Int) + n2 == 0) = false := by simp; omega
      clear hx hat hz hz2 hz3 hc1 hc2 hnz
      go_wp2_with fail
      go_quiet (fail)
      go_wp2_with fail
      go_roundw
      case rel => exact ⟨k + 1, j + nq, t' + (n1 + n2), by omega, by go_num, by go_num, HZ.out, hz4, by simp⟩
      case measure => simp [intOf]; omega
    have hkn : k = ln := by omega
    obtain rfl : t' = t := by
      have h1 := HSU.out
      rw [hkn, List.take_of_length_le (by rw [HLL.out]; exact Nat.le_refl _)] at h1
      have := HTW.out
      omega
    clear hkn HSU hs9
    have f1 : ((sn : Int) != v) = false := by have := HSNV.out; simp [this]
    have f2 : ¬ v < 1 := by have := HV0.out; omega
    have f3 : ¬ v - r < 1 := by omega
    have f4 : ¬ (kn : Int) - v - o < 0 := by omega
    have f5 : ¬ (64 : Int) < t' := by omega
    have HTT2 := Lib.hid (HTT.out (W.drewN j) (HM3.out.keep fun p hp => rfl) BW.out.size HSM.out)
    have RTJ := Lib.hid (RT.out.drewN j)
    have BWJ := Lib.hid (below_drewN BW.out j)
    have HMJ : Hid (TxIn (W.drewN j) w.heap.size _ x) := Lib.hid (HM3.out.keep fun p hp => rfl)
    go_wp2_with ((with_reducible show wpList _ _ _ ({ dst := some 99, op := Op.load _ _, type := _, pos := _, after := _, guard := _ } :: _) _ _); go_must (refine wpList_load_atg (by kernel_rfl) 33 (.tmp 1) rfl ⟨w.heap.size, 0, none⟩ cs _ Try.underlying33 rfl HTS.out (fun j v hv => by rw [addr_row, RTJ.out.cell, Nat.zero_add]; exact hv) ?_ ?_; go_simp))
    refine HTT2.out.mono ?_
    rintro e w3 ⟨rfl, hb3⟩
    have R3 := Lib.hid (RTJ.out.below hb3 RTJ.out.lt)
    have B3 := Lib.hid (BWJ.out.trans (hb3.mono BWJ.out.size))
    have M3 := Lib.hid (HMJ.out.below (hb3.mono BWJ.out.size))
    have f6 : ((t' : Int) != t') = false := by simp
    clear hb3 RTJ BWJ HMJ HTT2 d0 d5 d38 d39 e0 e1 e2 RT RH BW HM3 HTT
    obtain ⟨_, _, _, _, d5, d38, _⟩ := HTR.out _ R3.out
    dsimp only at d5 d38
    go_wp2_with fail
    clear f1 f2 f3 f4 f5 f6
    have HLT0 : Hid (w.heap.size < w3.heap.size) := Lib.hid R3.out.lt
    have d5b : ∀ V : World, Below w3.heap.size w3 V → V.cell? ⟨w.heap.size, 5, none⟩ = some (.slice KA kn kc) := fun V hb => (hb.cell (p := ⟨w.heap.size, 5, none⟩) HLT0.out).trans d5
    have d38b : ∀ V : World, Below w3.heap.size w3 V → V.cell? ⟨w.heap.size, 38, none⟩ = some (.slice IA n ic) := fun V hb => (hb.cell (p := ⟨w.heap.size, 38, none⟩) HLT0.out).trans d38
    have D5B := Lib.hid d5b
    have D38B := Lib.hid d38b
    obtain ⟨bm, hbm⟩ : ∃ g, g = w3.heap.size := ⟨_, rfl⟩
    have HBM := Lib.hid hbm
    have HOM : Hid ((w3.alloc (.map #[] 0)).ownsMap Try.prog 41 (plainElem Try.prog 3) bm 0 (.map [] : DataW Unit)) := Lib.hid (by rw [hbm]; exact World.ownsMap_made _ _ _ _)
    have BOM : Hid (Below w3.heap.size w3 (w3.alloc (.map #[] 0))) := Lib.hid ((Below.refl _ _).alloc (Nat.le_refl _) _)
    rw [← hbm]
    clear d5 d38 d5b d38b hbm
    go_loopw [9] (fun i wr => ∃ q : Nat, q ≤ kn ∧ i = .int .i64 q ∧ wr.ownsMap Try.prog 41 (plainElem Try.prog 3) bm q (KSet i1 (x.m.keys.take q)) ∧ Below w3.heap.size w3 wr) (fun i _ => kn - (intOf i).toNat)
    case atStart => exact ⟨0, Nat.zero_le _, rfl, HOM.out, BOM.out⟩
    case round =>
      obtain ⟨q, hq, rfl, hown, hbw⟩ := hrel
      have HO := Lib.hid hown
      have HBW := Lib.hid hbw
      clear hown hbw
      by_cases hql : q < kn
      · obtain ⟨a, y, ha, hab, hx, hat⟩ := (M3.out.m.below (HBW.out.mono B3.out.size)).keys.get hql
        obtain rfl : KA = some a := ha
        have hyb := HW.out.keys y (List.mem_of_getElem? hx)
        have hle : ∀ z ∈ x.m.keys.take q, z.length = 32 ∧ AllBytes z := fun z hz => HW.out.keys z (List.mem_of_mem_take hz)
        have hnot : y ∉ x.m.keys.take q := ((nodup_take_succ hx).1 ((List.take_sublist _ _).nodup HH.out.n)).2
        have HC : Hid ((KSet i1 (x.m.keys.take q)).atKey (KL y) (.lit (.int .i64 0)) = .lit (.int .i64 0)) := Lib.hid (by rw [KSet_at i1 _ _ hle y hyb, if_neg hnot])
        have HSX := Lib.hid (show (Try.prog.info? 41).map (·.size) = some (bv y).length by rw [bv_length, hat.len]; exact size_key)
        have CA : Hid (∀ j u, (bv y)[j]? = some u → wr.cell? ((a.add (q * 32)).add j) = some u) := Lib.hid hat.cells
        have HKL := Lib.hid (KL_is hyb.1 hyb.2)
        have HTK := Lib.hid (show (x.m.keys.take (q + 1)) = x.m.keys.take q ++ [y] by rw [List.take_add_one, hx]; rfl)
        have HLT : Hid (w.heap.size < w3.heap.size ∧ a.block < w3.heap.size) := Lib.hid ⟨HLT0.out, Nat.lt_of_lt_of_le hab B3.out.size⟩
        have d5r : wr.drew.cell? ⟨w.heap.size, 5, none⟩ = some (.slice (some a) kn kc) := D5B.out wr HBW.out
        have wr1 : IntKind.i64.wrap 1 = 1 := IntWalk.i64_in _ (by omega)
        generalize bv y = X at *
        clear hyb hle hnot hx hat hab
        go_wp2_with fail
        have HS0 : Hid (wr.drew.cell? ⟨w.heap.size, 5, none⟩ = some (.slice (some a) kn kc) ∧ (∀ j u, X[j]? = some u → wr.drew.cell? ((a.add (q * 32)).add j) = some u)) := Lib.hid ⟨d5r, CA.out⟩
        have HO0 : Hid (wr.drew.ownsMap Try.prog 41 (plainElem Try.prog 3) bm q (KSet i1 (x.m.keys.take q))) := Lib.hid HO.out.drew
        have BD0 : Hid (Below w3.heap.size w3 wr.drew) := Lib.hid HBW.out.drew
        refine wp_region_held_drew (S := fun V => V.cell? ⟨w.heap.size, 5, none⟩ = some (.slice (some a) kn kc) ∧ (∀ j u, X[j]? = some u → V.cell? ((a.add (q * 32)).add j) = some u)) (by kernel_rfl) HS0.out (fun _ => ?_)
        have hgs : w.heap.size < wr.drew.heap.size ∧ a.block < wr.drew.heap.size ∧ bm ≠ w.heap.size ∧ bm ≠ a.block := ⟨Nat.lt_of_lt_of_le HLT.out.1 HBW.out.size, Nat.lt_of_lt_of_le HLT.out.2 HBW.out.size, Ne.symm (Nat.ne_of_lt (Nat.lt_of_lt_of_eq HLT.out.1 HBM.out.symm)), Ne.symm (Nat.ne_of_lt (Nat.lt_of_lt_of_eq HLT.out.2 HBM.out.symm))⟩
        have HGS := Lib.hid hgs
        clear hgs
        generalize wr.drew = V0 at *
        refine takeL (i := 0) (v := ?_) rfl (by kernel_rfl) (by kernel_rfl) (by kernel_rfl) (fun _ _ _ h => h) (Or.inl ⟨by rfl, ?_⟩) HS0.out ?_
        rotate_left
        · intro w hw
          try dsimp only at hw
          obtain ⟨q0, q1⟩ := hw
          go_simp
          try with_reducible rfl
        try simp only [Act.put, List.setIfInBounds_toArray, List.set_cons_zero, List.set_cons_succ]
        refine takeL (i := 1) (v := ?_) rfl (by kernel_rfl) (by kernel_rfl) (by kernel_rfl) (fun _ _ _ h => h) (Or.inl ⟨by rfl, ?_⟩) HS0.out ?_
        rotate_left
        · intro w hw
          try dsimp only at hw
          obtain ⟨q0, q1⟩ := hw
          go_simp
          try with_reducible rfl
        try simp only [Act.put, List.setIfInBounds_toArray, List.set_cons_zero, List.set_cons_succ]
        refine takeL (i := 2) (v := ?_) rfl (by kernel_rfl) (by kernel_rfl) (by kernel_rfl) (fun _ _ _ h => h) (Or.inl ⟨by rfl, ?_⟩) HS0.out ?_
        rotate_left
        · intro w hw
          try dsimp only at hw
          obtain ⟨q0, q1⟩ := hw
          go_simp
          try with_reducible rfl
        try simp only [Act.put, List.setIfInBounds_toArray, List.set_cons_zero, List.set_cons_succ]
        refine takeL (i := 3) (v := ?_) rfl (by kernel_rfl) (by kernel_rfl) (by kernel_rfl) (fun _ _ _ h => h) (Or.inl ⟨by rfl, ?_⟩) HS0.out ?_
        rotate_left
        · intro w hw
          try dsimp only at hw
          obtain ⟨q0, q1⟩ := hw
          go_simp
          try with_reducible rfl
        try simp only [Act.put, List.setIfInBounds_toArray, List.set_cons_zero, List.set_cons_succ]
        refine takeL (i := 4) (v := ?_) rfl (by kernel_rfl) (by kernel_rfl) (by kernel_rfl) (fun _ _ _ h => h) (Or.inl ⟨by rfl, ?_⟩) HS0.out ?_
        rotate_left
        · intro w hw
          try dsimp only at hw
          obtain ⟨q0, q1⟩ := hw
          go_simp
          try with_reducible rfl
        try simp only [Act.put, List.setIfInBounds_toArray, List.set_cons_zero, List.set_cons_succ]
        refine takeL (i := 5) (v := ?_) rfl (by kernel_rfl) (by kernel_rfl) (by kernel_rfl) (fun _ _ _ h => h) (Or.inl ⟨by rfl, ?_⟩) HS0.out ?_
        rotate_left
        · intro w hw
          try dsimp only at hw
          obtain ⟨q0, q1⟩ := hw
          go_simp
          try with_reducible rfl
        try simp only [Act.put, List.setIfInBounds_toArray, List.set_cons_zero, List.set_cons_succ]
        refine takeL (i := 6) (v := .agg X.toArray) rfl (by kernel_rfl) (by kernel_rfl) (by kernel_rfl) (fun _ _ _ h => h) (Or.inl ⟨by kernel_rfl, fun w hw => ?_⟩) HS0.out ?_
        · exact exec_load_at w 41 (.tmp 114) rfl (a.add (q * 32)) X _ Try.underlying41 rfl HSX.out hw.2 (by go_simp)
        try simp only [Act.put, List.setIfInBounds_toArray, List.set_cons_zero, List.set_cons_succ]
        obtain ⟨st, V1, hl0, hm1, hg1, hl1, hst⟩ := own_entry HO0.out arr_key.law Try.underlying45 Try.underlying3 zero_int (by unfold maxLen; omega) HKL.out HC.out
        obtain ⟨V2, hs2, ho2, hg2⟩ := hst 1 (by decide)
        have HSV : Hid (∀ V : World, V0.grownBy V (some bm) → V.cell? ⟨w.heap.size, 5, none⟩ = some (.slice (some a) kn kc) ∧ (∀ j u, X[j]? = some u → V.cell? ((a.add (q * 32)).add j) = some u)) := Lib.hid fun V hg => ⟨(hg.cell_far _ HGS.out.1 (by intro e; exact HGS.out.2.2.1 (Option.some.inj e).symm)).trans HS0.out.1, fun j u hu => (hg.cell_far _ (by rw [addr_block, addr_block]; exact HGS.out.2.1) (by rw [addr_block, addr_block]; intro e; exact HGS.out.2.2.2 (Option.some.inj e).symm)).trans (HS0.out.2 j u hu)⟩
        have HS1 := Lib.hid (HSV.out V1 hg1)
        have HS2 := Lib.hid (HSV.out V2 hg2)
        have O2 := Lib.hid ho2
        have BD2 := Lib.hid (BD0.out.grown hg2 BD0.out.size (fun j hj => by cases hj; exact Nat.le_of_eq HBM.out.symm))
        clear hst hg1 hg2 ho2
        refine readyL2 (i := 7) (j := 9) rfl rfl (by kernel_rfl) (by kernel_rfl) (by kernel_rfl) (fun K hK => ?_) (fun K hK => ?_)
        · go_simp
          refine hK.out _ _ HS0.out ?_
          clear hK K
          try simp only [Act.put, List.setIfInBounds_toArray, List.set_cons_zero, List.set_cons_succ]
          refine takeL (i := 8) (v := ?_) rfl (by kernel_rfl) (by kernel_rfl) (by kernel_rfl) (fun _ _ _ h => h) (Or.inl ⟨by rfl, ?_⟩) HS0.out ?_
          rotate_left
          · intro w hw
            try dsimp only at hw
            go_simp
            try with_reducible rfl
          try simp only [Act.put, List.setIfInBounds_toArray, List.set_cons_zero, List.set_cons_succ]
          refine readyL (i := 9) rfl (by kernel_rfl) (by kernel_rfl) fun K hK => ?_
          go_simp
          refine hK.out _ _ HS1.out ?_
          clear hK K
          try simp only [Act.put, List.setIfInBounds_toArray, List.set_cons_zero, List.set_cons_succ]
          refine takeL (i := 10) (v := ?_) rfl (by kernel_rfl) (by kernel_rfl) (by kernel_rfl) (fun _ _ _ h => h) (Or.inl ⟨by rfl, ?_⟩) HS1.out ?_
          rotate_left
          · intro w hw
            try dsimp only at hw
            go_simp
            try with_reducible rfl
          try simp only [Act.put, List.setIfInBounds_toArray, List.set_cons_zero, List.set_cons_succ]
          refine readyL (i := 11) rfl (by kernel_rfl) (by kernel_rfl) fun K hK => ?_
          go_simp
          refine hK.out _ _ HS2.out ?_
          clear hK K
          try simp only [Act.put, List.setIfInBounds_toArray, List.set_cons_zero, List.set_cons_succ]
          refine wpAnyH_done (by kernel_rfl) ?_ _
          go_wp2_with fail
          go_roundw
          case rel => exact ⟨q + 1, by omega, by go_num, by rw [HTK.out, KSet_snoc]; exact O2.out, BD2.out⟩
          case measure => simp [intOf]; omega
        · go_simp
          refine hK.out _ _ HS1.out ?_
          clear hK K
          try simp only [Act.put, List.setIfInBounds_toArray, List.set_cons_zero, List.set_cons_succ]
          refine takeL (i := 10) (v := ?_) rfl (by kernel_rfl) (by kernel_rfl) (by kernel_rfl) (fun _ _ _ h => h) (Or.inl ⟨by rfl, ?_⟩) HS1.out ?_
          rotate_left
          · intro w hw
            try dsimp only at hw
            go_simp
            try with_reducible rfl
          try simp only [Act.put, List.setIfInBounds_toArray, List.set_cons_zero, List.set_cons_succ]
          refine readyL (i := 7) rfl (by kernel_rfl) (by kernel_rfl) fun K hK => ?_
          go_simp
          refine hK.out _ _ HS1.out ?_
          clear hK K
          try simp only [Act.put, List.setIfInBounds_toArray, List.set_cons_zero, List.set_cons_succ]
          refine takeL (i := 8) (v := ?_) rfl (by kernel_rfl) (by kernel_rfl) (by kernel_rfl) (fun _ _ _ h => h) (Or.inl ⟨by rfl, ?_⟩) HS1.out ?_
          rotate_left
          · intro w hw
            try dsimp only at hw
            go_simp
            try with_reducible rfl
          try simp only [Act.put, List.setIfInBounds_toArray, List.set_cons_zero, List.set_cons_succ]
          refine readyL (i := 11) rfl (by kernel_rfl) (by kernel_rfl) fun K hK => ?_
          go_simp
          refine hK.out _ _ HS2.out ?_
          clear hK K
          try simp only [Act.put, List.setIfInBounds_toArray, List.set_cons_zero, List.set_cons_succ]
          refine wpAnyH_done (by kernel_rfl) ?_ _
          go_wp2_with fail
          go_roundw
          case rel => exact ⟨q + 1, by omega, by go_num, by rw [HTK.out, KSet_snoc]; exact O2.out, BD2.out⟩
          case measure => simp [intOf]; omega
      have hqn : q = kn := by omega
      have HSIZE : Hid (Go.Maps.size (KSet i1 (x.m.keys.take q)) = kn) := Lib.hid (by
        rw [hqn, List.take_of_length_le (by rw [HLK.out]; exact Nat.le_refl _), KSet_size i1 _ HW.out.keys HH.out.n, HLK.out])
      clear hqn
      generalize KSet i1 (x.m.keys.take q) = DD at *
      obtain ⟨wm, hwm⟩ : ∃ u : World, u = wr := ⟨_, rfl⟩
      subst hwm
      go_wp2_with fail
      go_loopw [10] (fun i wr => ∃ k : Nat, k ≤ n ∧ i = .int .i64 k ∧ Below wm.heap.size wm wr) (fun i _ => n - (intOf i).toNat)
      case atStart => exact ⟨0, Nat.zero_le _, rfl, Below.refl _ _⟩
      case round =>
        obtain ⟨i, hi, rfl, hbz⟩ := hrel
        have HBZ := Lib.hid hbz
        have HB3Z := Lib.hid (HBW.out.trans (hbz.mono HBW.out.size))
        have c38 := D38B.out wr HB3Z.out
        have HMW := Lib.hid (M3.out.m.below (HB3Z.out.mono B3.out.size))
        have BWZ := Lib.hid (B3.out.trans (HB3Z.out.mono B3.out.size))
        clear hbz
        by_cases hlt : i < n
        · obtain ⟨a, y, va, vd, rfl, hab, hx, hat⟩ := HMW.out.ins.get hlt
          obtain ⟨⟨p0, p1⟩, hacb, _⟩ := HW.out.ins y (List.mem_of_getElem? hx)
          have hacl := HSM.out.acc y (List.mem_of_getElem? hx)
          obtain ⟨⟨g0, g1⟩, g2⟩ := HH.out.i y (List.mem_of_getElem? hx)
          rw [HLK.out] at g1
          obtain ⟨A1, c1, rfl, hs1, hn1, hn2⟩ := hat.acc.is
          obtain ⟨A2, c2, rfl, _, _, _⟩ := hat.dat.is
          have HACB := Lib.hid hacb
          have HG2 := Lib.hid g2
          have HSE := Lib.hid hs1
          have HL := Lib.hid (size_in y.p (Value.slice A1 y.acc.length c1) (Value.slice A2 y.dat.length c2))
          have HAT := Lib.hid hat.cells
          have H1 := Lib.hid (inCells_one (p := y.p) hat.acc hat.dat)
          have HL3 : Hid ((inCells y.p (Value.slice A1 y.acc.length c1) (Value.slice A2 y.dat.length c2)).length = 3) := Lib.hid rfl
          have HIC : Hid (∀ (V : World) (g : Nat), Row V g 47 (inCells y.p (Value.slice A1 y.acc.length c1) (Value.slice A2 y.dat.length c2)) → V.cell? ⟨g, 0, none⟩ = some (.int .u8 y.p) ∧ V.cell? ⟨g, 1, none⟩ = some (.slice A1 y.acc.length c1)) := Lib.hid fun V g h => ⟨(in_cells h).1, (in_cells h).2.1⟩
          clear hx hacb hs1 hat g2
          generalize inCells y.p (Value.slice A1 y.acc.length c1) (Value.slice A2 y.dat.length c2) = lc' at *
          obtain ⟨p, hp⟩ : ∃ p, p = y.p := ⟨_, rfl⟩
          rw [← hp] at p0 p1 HIC g0 g1
          clear hp
          obtain ⟨m, hm⟩ : ∃ m, m = y.acc.length := ⟨_, rfl⟩
          rw [← hm] at hacl HIC HSE hn1
          have HM := Lib.hid hm
          clear hm
          have h1 : ¬ p < 1 := by omega
          have h2 : ¬ (kn : Int) - 1 < p := by omega
          clear g0
          go_wp2_with (first
            | ((with_reducible show wpList _ _ _ ({ dst := some 133, op := Op.load _ _, type := _, pos := _, after := _, guard := _ } :: _) _ _); go_must (refine wpList_load_at rfl 47 (.tmp 132) rfl (a.add (i * 3)) lc' _ Try.underlying47 rfl HL.out HAT.out ?_ ?_; go_simp))
            | ((with_reducible show wpList _ _ _ ({ dst := none, op := Op.store 47 _ _, type := _, pos := _, after := _, guard := _ } :: _) _ _); go_must (refine wpList_store_new rfl 47 (.tmp 11) (.tmp 133) rfl lc' HL.out H1.out (by rw [HL3.out]; rfl) ?_ ?_ ?_; go_simp; go_simp; intro w5 hr5 hb5 hz5; obtain ⟨i0, i1⟩ := HIC.out w5 _ hr5; have B5 := Lib.hid hb5; clear hr5 hb5 hz5)))
          have HS5 := Lib.hid (HSE.out.below (B5.out.mono BWZ.out.size))
          clear h1 h2
          go_loop [12] (fun jv => ∃ j : Nat, j ≤ m ∧ jv = .int .i64 j) (fun jv => m - (intOf jv).toNat)
          case atStart => exact ⟨0, Nat.zero_le _, rfl⟩
          case round =>
            obtain ⟨j, hj, rfl⟩ := hrel
            by_cases hjl : j < m
            · obtain ⟨b, rfl, hbb, hcb⟩ := HS5.out.byte hjl
              have hzx := getD_at (l := y.acc) (k := j) (by have := HM.out; omega)
              obtain ⟨z0, z1⟩ := HACB.out _ (List.mem_of_getElem? hzx)
              have hzt := HG2.out _ (List.mem_of_getElem? hzx)
              rw [← HTOT.out] at hzt
              clear hzx
              generalize y.acc.getD j 0 = z at *
              have h3 : ¬ (t' : Int) - 1 < z := by omega
              go_wp2_with fail
              go_round
              case rel => exact ⟨j + 1, by omega, by go_num⟩
              case measure => simp [intOf]; omega
            · go_wp2_with fail
              go_roundw
              case rel => exact ⟨i + 1, by omega, by go_num, HBZ.out.trans (B5.out.mono HBZ.out.size)⟩
              case measure => simp [intOf]; omega
        have HOZ : Hid (wr.ownsMap Try.prog 41 (plainElem Try.prog 3) bm q DD) := Lib.hid (HO.out.kept (grown_none HBZ.out) (by simp))
        have hsz : ((Go.Maps.size DD : Nat) : Int) = (kn : Int) := by rw [HSIZE.out]
        go_wp2_with ((with_reducible show wpList _ _ _ ({ dst := some 162, op := _, type := _, pos := _, after := _, guard := _ } :: _) _ _); refine wpList_len_own _ rfl _ 45 rfl 41 3 Try.underlying45 _ bm q _ rfl HOZ.out ?_)
        refine (lives5 _).mono ?_
        rintro e w6 ⟨rfl, hb6⟩
        go_wp2_with fail
        go_ret
        exact ⟨rfl, BWZ.out.trans (hb6.mono BWZ.out.size)⟩
end Go.Proofs.Ytgdikmgmpleolaa

/-
  Of part AppendN: what is needed here.
-/
namespace Go.Proofs.Ytgdikmgmpleolaa
open Go.RowKit
set_option linter.unusedVariables false
section
variable {P : Program} {w : World} {base : Nat} {t ty e : TypeId} {i : TypeInfo} {z : Value} {size bytes : Nat} {v : Value} {n m c B : Nat} {A : Option Addr} {xs news : List Value}
theorem run_append_nothingN (ht : P.underlying t = some (.slice e)) (hi : P.info? e = some i) (hown : w.ownsRow base e size v n xs) (c : Nat) :
    (Builtin.append_ #[t, t] ty #[v, .slice none 0 c]).run P w = .ok v w := by
  rcases hown.2 with ⟨rfl, rfl⟩ | ⟨g, cap, cur, rfl, _, _, hnc, _⟩ <;>
    simp [Builtin.append_, run_underlying ht, sizeOf, typeInfo, hi, Builtin.lenOf, Builtin.firstCells, storeCells, *]
theorem wp_appendN {o : Oper} {a : Act} {K : Act → World → Prop} {Q : Exit → Act → World → Prop} (s x : Operand) (t e : TypeId) (z : Value) (size bytes : Nat)
    (ho : o.op = .call { callee := .builtin .append, args := #[s, x], argTypes := #[t, t] })
    (ht : P.underlying t = some (.slice e)) (hi : (P.info? e).map (fun i => (i.zero, i.size, i.bytes)) = some (some z, size, bytes)) (hzs : z.cells.size = size) (hs0 : 0 < size)
    (v : Value) (n : Nat) (xs : List Value) (base B : Nat) (A : Option Addr) (m c : Nat) (news : List Value)
    (hs : a.eval s = v) (hown : w.ownsRow base e size v n xs) (hx : a.eval x = .slice A m c) (hr : Sees w B A (m * size) news) (h1 : ∀ u ∈ news, u.oneCell' = true)
    (hnm : n + m ≤ maxLen) (hbytes : (n + m) * bytes ≤ 140737488355328) (hbase : base ≤ w.heap.size)
    (h : ∀ v' w', w'.ownsRow base e size v' (n + m) (xs ++ news) → Grew w w' v v' → K (a.put o.dst v') w') : o.wp P a w K Q := by
  obtain ⟨i0, hi, hz0, hz1, hz2⟩ := info_parts hi
  have hrun : ∃ v' w', (Builtin.append_ #[t, t] o.type #[v, .slice A m c]).run P w = .ok v' w' ∧ w'.ownsRow base e size v' (n + m) (xs ++ news) ∧ Grew w w' v v' := by
    cases A with
    | none =>
      have hn : news = [] := by
        cases news with
        | nil => rfl
        | cons u r =>
          obtain ⟨a, h, _⟩ := hr.cell 0 u rfl
          cases h
      subst hn
      have hl : m * size = 0 := by simpa using hr.len.symm
      obtain rfl : m = 0 := by
        rcases Nat.mul_eq_zero.1 hl with h | h
        · exact h
        · omega
      exact ⟨v, w, run_append_nothingN ht hi hown c, by simpa using hown, Grew.refl _ _⟩
    | some ad =>
      obtain ⟨v', w', hrun, h2, h3, _, h5⟩ := run_append_own_at (P := P) w base t o.type e i0 z size bytes ht hi hz0 hz1 hz2 hzs hs0 v n xs hown ad m c news hr.len
        (fun j u hu => by
          obtain ⟨a, h, _, hc⟩ := hr.cell j u hu
          cases h
          exact hc) h1 hnm hbytes hbase
      refine ⟨v', w', hrun, h2, ⟨h3, fun k hk => ?_⟩⟩
      rcases h5 with h5 | h5
      · exact .inl (h5 ▸ hk)
      · rw [h5] at hk
        cases hk
        exact .inr (Nat.le_refl _)
  obtain ⟨v', w', hr2, h2, h3⟩ := hrun
  unfold Oper.wp execOp
  simp only [ho, resolve, invoke, builtin, Sem.run_bind, Sem.run_pure, Result.andThen_ok, List.map_toArray, List.map_cons, List.map_nil, hs, hx, hr2]
  exact h v' w' h2 h3
theorem wpList_appendN {ops : Array Oper} {rest : List Oper} {o : Oper} {a : Act} {Q : Exit → Act → World → Prop} (hgd : o.guard = none) (s x : Operand) (t e : TypeId) (z : Value) (size bytes : Nat)
    (ho : o.op = .call { callee := .builtin .append, args := #[s, x], argTypes := #[t, t] })
    (ht : P.underlying t = some (.slice e)) (hi : (P.info? e).map (fun i => (i.zero, i.size, i.bytes)) = some (some z, size, bytes)) (hzs : z.cells.size = size) (hs0 : 0 < size)
    (v : Value) (n : Nat) (xs : List Value) (base B : Nat) (A : Option Addr) (m c : Nat) (news : List Value)
    (hs : a.eval s = v) (hown : w.ownsRow base e size v n xs) (hx : a.eval x = .slice A m c) (hr : Sees w B A (m * size) news) (h1 : ∀ u ∈ news, u.oneCell' = true)
    (hnm : n + m ≤ maxLen) (hbytes : (n + m) * bytes ≤ 140737488355328) (hbase : base ≤ w.heap.size)
    (h : ∀ v' w', w'.ownsRow base e size v' (n + m) (xs ++ news) → Grew w w' v v' → wpList P ops Q rest (a.put o.dst v') w') : wpList P ops Q (o :: rest) a w :=
  wpList_plain hgd fun _ hK => wp_appendN s x t e z size bytes ho ht hi hzs hs0 v n xs base B A m c news hs hown hx hr h1 hnm hbytes hbase fun v' w' h2 h3 => hK _ _ (h v' w' h2 h3)
end
theorem own_nilN (w : World) (base : Nat) (e : TypeId) (size : Nat) : w.ownsRow base e size (.slice none 0 0) 0 [] := World.ownsRow_nil w base e size
theorem own_form2 {w : World} {base : Nat} {e : TypeId} {size n : Nat} {v : Value} {xs : List Value} (h : w.ownsRow base e size v n xs) : ∃ A c, v = .slice A n c ∧ Sees w w.heap.size A (n * size) xs ∧ n ≤ c ∧ c ≤ maxLen ∧ (∀ g, v.ownBlock = some g → base ≤ g ∧ g < w.heap.size) := by
  have hlt := h.lt
  rcases h.2 with ⟨rfl, rfl⟩ | ⟨g, cap, cur, rfl, hg, hh, h1, h2, h3, h4⟩
  · have hx : xs = [] := List.eq_nil_of_length_eq_zero (by simpa using h.1)
    subst hx
    exact ⟨none, 0, rfl, by rw [Nat.zero_mul]; exact Sees.nil _ _ _, Nat.le_refl _, by simp [maxLen], hlt⟩
  · refine ⟨_, cap, rfl, ⟨h.1, fun j u hu => ⟨_, rfl, (Array.getElem?_eq_some_iff.1 hh).1, h.cells (g := g) rfl j u hu⟩⟩, h1, h2, hlt⟩
/-- a list of instructions as cells -/
structure InsCells (w : World) (B : Nat) (l : List LIn) (news : List Value) : Prop where
  len : news.length = l.length * 3
  at_ : ∀ i x, l[i]? = some x → ∃ va vd, news[i * 3]? = some (.int .u8 x.p) ∧ news[i * 3 + 1]? = some va ∧ news[i * 3 + 2]? = some vd ∧ BytesIn w B va x.acc ∧ BytesIn w B vd x.dat
  one : ∀ u ∈ news, u.oneCell' = true
theorem BytesIn.one {w : World} {B : Nat} {v : Value} {l : List Int} (h : BytesIn w B v l) : v.oneCell' = true := by
  obtain ⟨A, c, rfl, _⟩ := h.is
  rfl
theorem InsIn.cells {w : World} {B n : Nat} {A : Option Addr} {l : List LIn} (h : InsIn w B A n l) : ∃ news, InsCells w B l news ∧ Sees w B A (n * 3) news := by
  obtain ⟨ps, hps, hp⟩ : ∃ ps : List (Value × Value), ps.length = l.length ∧ ∀ i x p, l[i]? = some x → ps[i]? = some p → ∃ a, A = some a ∧ a.block < B ∧ w.cell? (a.add (i * 3)) = some (.int .u8 x.p) ∧ w.cell? (a.add (i * 3 + 1)) = some p.1 ∧ w.cell? (a.add (i * 3 + 2)) = some p.2 ∧ BytesIn w B p.1 x.acc ∧ BytesIn w B p.2 x.dat := by
    obtain ⟨ps, h1, h2⟩ := list_of (α := Value × Value) (p := fun i p => ∀ x, l[i]? = some x → ∃ a, A = some a ∧ a.block < B ∧ w.cell? (a.add (i * 3)) = some (.int .u8 x.p) ∧ w.cell? (a.add (i * 3 + 1)) = some p.1 ∧ w.cell? (a.add (i * 3 + 2)) = some p.2 ∧ BytesIn w B p.1 x.acc ∧ BytesIn w B p.2 x.dat) l.length fun i hi => by
      obtain ⟨a, va, vd, e1, e2, e3, e4, e5, e6, e7⟩ := h.at_ i _ (List.getElem?_eq_getElem hi)
      refine ⟨(va, vd), fun x hx => ?_⟩
      rw [List.getElem?_eq_getElem hi] at hx
      obtain rfl := Option.some.inj hx
      exact ⟨a, e1, e2, e3, e4, e5, e6, e7⟩
    exact ⟨ps, h1, fun i x p hx hp => h2 i p hp x hx⟩
  let f : Nat → Value := fun j => if j % 3 = 0 then .int .u8 ((l.getD (j / 3) ⟨0, [], []⟩).p) else if j % 3 = 1 then (ps.getD (j / 3) (undef, undef)).1 else (ps.getD (j / 3) (undef, undef)).2
  have hf : ∀ i x, l[i]? = some x → ∃ p, ps[i]? = some p ∧ f (i * 3) = .int .u8 x.p ∧ f (i * 3 + 1) = p.1 ∧ f (i * 3 + 2) = p.2 := by
    intro i x hx
    have hi := (List.getElem?_eq_some_iff.1 hx).1
    obtain ⟨p, hpi⟩ : ∃ p, ps[i]? = some p := ⟨_, List.getElem?_eq_getElem (by omega)⟩
    have hl : l.getD i ⟨0, [], []⟩ = x := by rw [List.getD_eq_getElem?_getD, hx]; rfl
    have hq : ps.getD i (undef, undef) = p := by rw [List.getD_eq_getElem?_getD, hpi]; rfl
    refine ⟨p, hpi, ?_, ?_, ?_⟩
    · show (if i * 3 % 3 = 0 then _ else _) = _
      rw [if_pos (by omega), show i * 3 / 3 = i by omega, hl]
    · show (if (i * 3 + 1) % 3 = 0 then _ else _) = _
      rw [if_neg (by omega), if_pos (by omega), show (i * 3 + 1) / 3 = i by omega, hq]
    · show (if (i * 3 + 2) % 3 = 0 then _ else _) = _
      rw [if_neg (by omega), if_neg (by omega), show (i * 3 + 2) / 3 = i by omega, hq]
  have hget : ∀ j, j < l.length * 3 → ((List.range (l.length * 3)).map f)[j]? = some (f j) := fun j hj => by rw [List.getElem?_map, List.getElem?_range hj]; rfl
  have hall : ∀ j, j < l.length * 3 → ∃ a, A = some a ∧ a.block < B ∧ w.cell? (a.add j) = some (f j) ∧ (f j).oneCell' = true := by
    intro j hj
    have hx := List.getElem?_eq_getElem (l := l) (i := j / 3) (by omega)
    obtain ⟨p, hpi, f0, f1, f2⟩ := hf _ _ hx
    obtain ⟨a, e1, e2, e3, e4, e5, e6, e7⟩ := hp _ _ _ hx hpi
    refine ⟨a, e1, e2, ?_⟩
    rcases (show j = j / 3 * 3 ∨ j = j / 3 * 3 + 1 ∨ j = j / 3 * 3 + 2 by omega) with h | h | h
    · rw [← h] at f0 e3; rw [e3, f0]; exact ⟨rfl, rfl⟩
    · rw [← h] at f1 e4; rw [e4, f1]; exact ⟨rfl, e6.one⟩
    · rw [← h] at f2 e5; rw [e5, f2]; exact ⟨rfl, e7.one⟩
  refine ⟨(List.range (l.length * 3)).map f, ⟨by simp, fun i x hx => ?_, fun u hu => ?_⟩, ⟨by rw [List.length_map, List.length_range, h.len], fun j u hu => ?_⟩⟩
  · have hi := (List.getElem?_eq_some_iff.1 hx).1
    obtain ⟨p, hpi, f0, f1, f2⟩ := hf _ _ hx
    obtain ⟨a, e1, e2, e3, e4, e5, e6, e7⟩ := hp _ _ _ hx hpi
    exact ⟨p.1, p.2, by rw [hget _ (by omega), f0], by rw [hget _ (by omega), f1], by rw [hget _ (by omega), f2], e6, e7⟩
  · obtain ⟨j, hj, rfl⟩ := List.mem_map.1 hu
    obtain ⟨_, _, _, _, h1⟩ := hall j (by simpa using hj)
    exact h1
  · have hj := (List.getElem?_eq_some_iff.1 hu).1
    rw [List.length_map, List.length_range] at hj
    rw [hget j hj] at hu
    obtain ⟨a, e1, e2, e3, _⟩ := hall j hj
    exact ⟨a, e1, e2, by rw [e3, Option.some.inj hu]⟩
theorem InsCells.below {w w' : World} {B : Nat} {l : List LIn} {news : List Value} (h : InsCells w B l news) (hb : Below B w w') : InsCells w' B l news :=
  ⟨h.len, fun i x hx => by
    obtain ⟨va, vd, e1, e2, e3, e4, e5⟩ := h.at_ i x hx
    exact ⟨va, vd, e1, e2, e3, e4.below hb, e5.below hb⟩, h.one⟩
theorem InsCells.more {w : World} {B B' : Nat} {l : List LIn} {news : List Value} (h : InsCells w B l news) (hb : B ≤ B') : InsCells w B' l news :=
  ⟨h.len, fun i x hx => by
    obtain ⟨va, vd, e1, e2, e3, e4, e5⟩ := h.at_ i x hx
    exact ⟨va, vd, e1, e2, e3, e4.more hb, e5.more hb⟩, h.one⟩
theorem InsCells.in_ {w : World} {B n : Nat} {A : Option Addr} {l : List LIn} {news : List Value} (h : InsCells w B l news) (hs : Sees w B A (n * 3) news) (hn : l.length = n) : InsIn w B A n l :=
  ⟨hn, fun i x hx => by
    obtain ⟨va, vd, e1, e2, e3, e4, e5⟩ := h.at_ i x hx
    obtain ⟨a, ha, hb, c0⟩ := hs.cell _ _ e1
    obtain ⟨a1, ha1, _, c1⟩ := hs.cell _ _ e2
    obtain ⟨a2, ha2, _, c2⟩ := hs.cell _ _ e3
    rw [ha] at ha1 ha2
    obtain rfl := Option.some.inj ha1
    obtain rfl := Option.some.inj ha2
    exact ⟨a, va, vd, ha, hb, c0, c1, c2, e4, e5⟩⟩
theorem InsCells.snoc {w : World} {B : Nat} {l : List LIn} {news : List Value} (h : InsCells w B l news) {y : LIn} {va vd : Value} (hb : IsByte y.p) (ha : BytesIn w B va y.acc) (hd : BytesIn w B vd y.dat) : InsCells w B (l ++ [y]) (news ++ inCells y.p va vd) := by
  refine ⟨by rw [List.length_append, h.len, List.length_append]; simp [inCells]; omega, fun i x hx => ?_, fun u hu => ?_⟩
  · by_cases hi : i < l.length
    · rw [List.getElem?_append_left hi] at hx
      obtain ⟨va, vd, e1, e2, e3, e4, e5⟩ := h.at_ i x hx
      exact ⟨va, vd, by rw [List.getElem?_append_left (by rw [h.len]; omega)]; exact e1, by rw [List.getElem?_append_left (by rw [h.len]; omega)]; exact e2, by rw [List.getElem?_append_left (by rw [h.len]; omega)]; exact e3, e4, e5⟩
    · have hlen := (List.getElem?_eq_some_iff.1 hx).1
      rw [List.length_append, List.length_singleton] at hlen
      obtain rfl : i = l.length := by omega
      rw [List.getElem?_append_right (Nat.le_refl _), Nat.sub_self] at hx
      obtain rfl : y = x := by simpa using hx
      exact ⟨va, vd, by rw [List.getElem?_append_right (by rw [h.len]; omega), h.len, Nat.sub_self]; rfl, by rw [List.getElem?_append_right (by rw [h.len]; omega), h.len, show l.length * 3 + 1 - l.length * 3 = 1 by omega]; rfl, by rw [List.getElem?_append_right (by rw [h.len]; omega), h.len, show l.length * 3 + 2 - l.length * 3 = 2 by omega]; rfl, ha, hd⟩
  · rcases List.mem_append.1 hu with hu | hu
    · exact h.one u hu
    · exact inCells_one ha hd u hu
/-- another list of keys, of instructions -/
def withKeys (x : LTx) (ks : List (List Int)) : LTx := ⟨x.sigs, { x.m with keys := ks }⟩
def withIns (x : LTx) (l : List LIn) : LTx := ⟨x.sigs, { x.m with ins := l }⟩
def rawKeys (s : TRaw) (A : Option Addr) (n c : Nat) : TRaw := { s with q := { s.q with KA := A, kn := n, kc := c } }
def rawIns (s : TRaw) (A : Option Addr) (n c : Nat) : TRaw := { s with q := { s.q with IA := A, n := n, ic := c } }
theorem cells_keys (s : TRaw) (x : LTx) (A : Option Addr) (n c : Nat) (ks : List (List Int)) : (TRaw.cells s x).set 5 (.slice A n c) = TRaw.cells (rawKeys s A n c) (withKeys x ks) := rfl
theorem cells_ins (s : TRaw) (x : LTx) (h : x.m.recent.length = 32) (A : Option Addr) (n c : Nat) (l : List LIn) : (TRaw.cells s x).set 38 (.slice A n c) = TRaw.cells (rawIns s A n c) (withIns x l) := by
  unfold TRaw.cells Raw.cells
  rw [show (38 : Nat) = 37 + 1 from rfl, List.set_cons_succ, List.set_append_right _ _ (by simp), List.set_append_right _ _ (by rw [bv_length, h]; simp), bv_length, h]
  rfl
theorem in_keys {w : World} {B g c : Nat} {s : TRaw} {x : LTx} {ks : List (List Int)} (h : TxIn w B s x) (hk : ∀ k ∈ ks, k.length = 32) {A : Option Addr} {n : Nat} (hs : Sees w B A (n * 32) (bv ks.flatten)) (hn : ks.length = n) (hc : n ≤ c ∧ c ≤ maxLen) : TxIn w B (rawKeys s A n c) (withKeys x ks) :=
  ⟨h.sigs, h.sn, ⟨h.m.recent, ⟨hn, hk, hs⟩, h.m.ins, h.m.looks, hc, h.m.n, h.m.ln⟩⟩
theorem in_ins {w : World} {B c : Nat} {s : TRaw} {x : LTx} {l : List LIn} (h : TxIn w B s x) {A : Option Addr} {n : Nat} (hs : InsIn w B A n l) (hc : n ≤ c ∧ c ≤ maxLen) : TxIn w B (rawIns s A n c) (withIns x l) :=
  ⟨h.sigs, h.sn, ⟨h.m.recent, h.m.keys, hs, h.m.looks, h.m.kn, hc, h.m.ln⟩⟩
end Go.Proofs.Ytgdikmgmpleolaa

/-
  Of part MoreMath: what is needed here.
-/
namespace Go.Proofs.Ytgdikmgmpleolaa
open Go.RowKit
set_option linter.unusedVariables false
theorem Holds.bs {x : LTx} (h : Holds x) : b1 x = false ∧ b2 x.m = false ∧ b3 x.m = false ∧ b4 x.m = false ∧ b5 x.m = false ∧ b6 x.m = false := by
  refine ⟨decide_eq_false fun e => ?_, decide_eq_false fun e => ?_, ?_, decide_eq_false (by have := h.t; omega), ?_, decide_eq_false fun e => e h.n⟩
  · rcases e with e | e
    · exact h.s.1 e
    · exact e h.s.2
  · have := h.r
    have := h.o
    omega
  · unfold b3
    rw [List.any_eq_false]
    intro l hl e
    exact h.l l hl (of_decide_eq_true e)
  · unfold b5
    rw [List.any_eq_false]
    intro i hi e
    unfold stray at e
    rw [Bool.or_eq_true] at e
    rcases e with e | e
    · have := of_decide_eq_true e
      have := (h.i i hi).1
      omega
    · obtain ⟨a, ha, e⟩ := List.any_eq_true.1 e
      have := of_decide_eq_true e
      have := (h.i i hi).2 a ha
      omega
theorem tot_keys (x : LTx) (ks : List (List Int)) : tot (withKeys x ks).m = ks.length + lookSize x.m.looks := rfl
theorem tot_more (x : LTx) (k : List Int) : tot (withKeys x (x.m.keys ++ [k])).m = tot x.m + 1 := by
  rw [tot_keys, List.length_append, List.length_singleton]
  unfold tot
  omega
theorem nodup_snoc {l : List (List Int)} {k : List Int} : (l ++ [k]).Nodup ↔ l.Nodup ∧ k ∉ l := by
  have := nodup_take_succ (l := l ++ [k]) (k := l.length) (x := k) (by simp)
  rwa [List.take_of_length_le (by simp), List.take_left'] at this
  rfl
/-- one key more behind the others -/
theorem chk_key {x : LTx} (h : Holds x) (k : List Int) : chk (withKeys x (x.m.keys ++ [k])) = if tot x.m = 64 then 3 else if k ∈ x.m.keys then 9 else 0 := by
  obtain ⟨h1, h2, h3, h4, h5, h6⟩ := h.bs
  have g1 : b1 (withKeys x (x.m.keys ++ [k])) = false := h1
  have hl : (withKeys x (x.m.keys ++ [k])).m.keys.length = x.m.keys.length + 1 := by simp [withKeys]
  have g2 : b2 (withKeys x (x.m.keys ++ [k])).m = false := by
    refine decide_eq_false fun e => ?_
    rw [hl] at e
    have a1 := h.r
    have a2 := h.o
    rcases e with e | e
    · exact absurd (show x.m.s ≤ x.m.r from e) (by omega)
    · have e : ((x.m.keys.length + 1 : Nat) : Int) < x.m.s + x.m.o := e
      omega
  have g3 : b3 (withKeys x (x.m.keys ++ [k])).m = false := h3
  have ht := h.t
  by_cases h64 : tot x.m = 64
  · have g4 : b4 (withKeys x (x.m.keys ++ [k])).m = true := decide_eq_true (by rw [tot_more]; omega)
    rw [if_pos h64]
    simp [chk, g1, g2, g3, g4]
  · have g4 : b4 (withKeys x (x.m.keys ++ [k])).m = false := decide_eq_false (by rw [tot_more]; omega)
    have g5 : b5 (withKeys x (x.m.keys ++ [k])).m = false := by
      unfold b5
      rw [List.any_eq_false]
      intro i hi e
      have hi : i ∈ x.m.ins := hi
      unfold stray at e
      rw [Bool.or_eq_true, hl, tot_more] at e
      rcases e with e | e
      · have := of_decide_eq_true e
        have := (h.i i hi).1
        omega
      · obtain ⟨a, ha, e⟩ := List.any_eq_true.1 e
        have := of_decide_eq_true e
        have := (h.i i hi).2 a ha
        omega
    rw [if_neg h64]
    by_cases hk : k ∈ x.m.keys
    · have g6 : b6 (withKeys x (x.m.keys ++ [k])).m = true := decide_eq_true fun e => (nodup_snoc.1 e).2 hk
      rw [if_pos hk]
      simp [chk, g1, g2, g3, g4, g5, g6]
    · have g6 : b6 (withKeys x (x.m.keys ++ [k])).m = false := decide_eq_false fun e => e (nodup_snoc.2 ⟨h.n, hk⟩)
      rw [if_neg hk]
      simp [chk, g1, g2, g3, g4, g5, g6]
/-- one instruction more, without accounts -/
theorem chk_ins {x : LTx} (h : Holds x) (p : Int) (hp : IsByte p) : chk (withIns x (x.m.ins ++ [⟨p, [], []⟩])) = if 0 < p ∧ p < (x.m.keys.length : Int) then 0 else 8 := by
  obtain ⟨h1, h2, h3, h4, h5, h6⟩ := h.bs
  have g1 : b1 (withIns x (x.m.ins ++ [⟨p, [], []⟩])) = false := h1
  have g2 : b2 (withIns x (x.m.ins ++ [⟨p, [], []⟩])).m = false := h2
  have g3 : b3 (withIns x (x.m.ins ++ [⟨p, [], []⟩])).m = false := h3
  have g4 : b4 (withIns x (x.m.ins ++ [⟨p, [], []⟩])).m = false := h4
  have g6 : b6 (withIns x (x.m.ins ++ [⟨p, [], []⟩])).m = false := h6
  have g5 : b5 (withIns x (x.m.ins ++ [⟨p, [], []⟩])).m = pstray x.m.keys.length p := by
    show (x.m.ins ++ [(⟨p, [], []⟩ : LIn)]).any (stray x.m.keys.length (tot x.m)) = _
    unfold b5 at h5
    rw [List.any_append, h5]
    simp [stray]
  have h0 := hp.1
  by_cases hc : 0 < p ∧ p < (x.m.keys.length : Int)
  · have g5 := g5.trans (show pstray x.m.keys.length p = false from decide_eq_false (by omega))
    rw [if_pos hc]
    simp [chk, g1, g2, g3, g4, g5, g6]
  · have g5 := g5.trans (show pstray x.m.keys.length p = true from decide_eq_true (by omega))
    rw [if_neg hc]
    simp [chk, g1, g2, g3, g4, g5]
theorem small_keys {x : LTx} (h : Small x.m) {ks : List (List Int)} (hk : ks.length ≤ 4000) : Small (withKeys x ks).m := ⟨hk, h.ins, h.looks, h.sum, h.acc⟩
theorem small_ins {x : LTx} (h : Small x.m) {l : List LIn} (hk : l.length ≤ 4000) (ha : ∀ i ∈ l, i.acc.length ≤ 4000) : Small (withIns x l).m := ⟨h.keys, hk, h.looks, h.sum, ha⟩
theorem wf_keys {x : LTx} (h : x.m.Wf) {ks : List (List Int)} (hk : ∀ k ∈ ks, k.length = 32 ∧ AllBytes k) : (withKeys x ks).m.Wf := ⟨h.s, h.r, h.o, hk, h.recent, h.ins, h.looks⟩
theorem wf_ins {x : LTx} (h : x.m.Wf) {l : List LIn} (hk : ∀ i ∈ l, IsByte i.p ∧ AllBytes i.acc ∧ AllBytes i.dat) : (withIns x l).m.Wf := ⟨h.s, h.r, h.o, h.keys, h.recent, hk, h.looks⟩
end Go.Proofs.Ytgdikmgmpleolaa

/-
  Of part MoreWalk: what is needed here.
-/
namespace Go.Proofs.Ytgdikmgmpleolaa
open Go.RowKit
set_option linter.unusedVariables false
theorem Sees.far {w : World} {B n : Nat} {A : Option Addr} {xs : List Value} (h : Sees w B A n xs) {p : Addr} (hp : ∀ a, A = some a → a.block ≠ p.block) (u : Value) : Sees (w.setCell p u) B A n xs :=
  ⟨h.len, fun i v hv => by
    obtain ⟨a, ha, hb, hc⟩ := h.cell i v hv
    exact ⟨a, ha, hb, (World.cell?_setCell_other w p _ u (fun e => hp a ha (by rw [e, addr_block]))).trans hc⟩⟩
theorem Held.drew {w : World} {b : Nat} {cs : List Value} {x : LTx} (h : Held w b cs x) : Held w.drew b cs x := by
  obtain ⟨s, h1, h2⟩ := h.tx
  exact ⟨h.row.drew, s, h1, h2.keep fun p hp => rfl⟩
/-- what the law holds on to: the transaction that came in, a key, in boxes of their own -/
structure MCtx (w V : World) (cs : List Value) (s : TRaw) (x : LTx) (kc : List Value) : Prop where
  tx : Row V w.heap.size 33 cs
  key : Row V (w.heap.size + 1) 41 kc
  m : TxIn V w.heap.size s x
  b : Below w.heap.size w V
theorem MCtx.low {w V V' : World} {B : Nat} {cs kc : List Value} {s : TRaw} {x : LTx} (h : MCtx w V cs s x kc) (hb : Below B V V') (hB : w.heap.size + 2 ≤ B) : MCtx w V' cs s x kc :=
  ⟨h.tx.below hb (by omega), h.key.below hb (by omega), h.m.below (hb.mono (by omega)), h.b.trans (hb.mono (by omega))⟩
theorem MCtx.size {w V : World} {cs kc : List Value} {s : TRaw} {x : LTx} (h : MCtx w V cs s x kc) : w.heap.size + 2 ≤ V.heap.size := h.key.lt
theorem MCtx.below {w V V' : World} {cs kc : List Value} {s : TRaw} {x : LTx} (h : MCtx w V cs s x kc) (hb : Below V.heap.size V V') : MCtx w V' cs s x kc := h.low hb h.size
theorem MCtx.drew {w V : World} {cs kc : List Value} {s : TRaw} {x : LTx} (h : MCtx w V cs s x kc) : MCtx w V.drew cs s x kc := h.below (Below.refl _ _).drew
theorem MCtx.drewN {w V : World} {cs kc : List Value} {s : TRaw} {x : LTx} (h : MCtx w V cs s x kc) (n : Nat) : MCtx w (V.drewN n) cs s x kc := h.below (below_drewN (Below.refl _ _) n)
theorem MCtx.far {w V : World} {cs kc : List Value} {s : TRaw} {x : LTx} (h : MCtx w V cs s x kc) {p : Addr} (hp : w.heap.size + 2 ≤ p.block) (u : Value) : MCtx w (V.setCell p u) cs s x kc :=
  h.low ((Below.refl (w.heap.size + 2) V).setCell hp u) (Nat.le_refl _)
theorem MCtx.wide {w V : World} {cs kc : List Value} {s : TRaw} {x : LTx} (h : MCtx w V cs s x kc) : TxIn V V.heap.size s x := h.m.more h.b.size
theorem bytes_nil (w : World) (B : Nat) : BytesIn w B (.slice none 0 0) [] := ⟨⟨none, 0, rfl, Sees.nil _ _ _, Nat.le_refl _, by simp [maxLen]⟩⟩
theorem nil_one (p : Int) : ∀ u ∈ inCells p (.slice none 0 0) (.slice none 0 0), u.oneCell' = true := by
  intro u hu
  simp only [inCells, List.mem_cons, List.not_mem_nil, or_false] at hu
  rcases hu with rfl | rfl | rfl <;> rfl
theorem info_ins5 : (Try.prog.info? 47).map (fun i => (i.zero, i.size, i.bytes)) = some (some (.agg #[.int .u8 0, .slice none 0 0, .slice none 0 0]), 3, 56) := by kernel_rfl
set_option maxRecDepth 100000 in
set_option maxHeartbeats 8000000 in
theorem more_walk (s : TRaw) (x : LTx) (k : List Int) (pr : Int) (w : World) (hm : TxIn w w.heap.size s x) (hs : Sized x.m) (hwf : x.m.Wf) (hk : k.length = 32 ∧ AllBytes k) (hp : IsByte pr) :
    Calls Try.prog 6 #[.agg (s.cells x).toArray, .agg (bv k).toArray, .int .u8 pr] w fun e w' => e = .returned (.bool true) ∧ Below w.heap.size w w' := by
  have hb0 := ((Below.refl w.heap.size w).alloc (Nat.le_refl _) (.cells (s.cells x).toArray 33)).alloc (by simp) (.cells (bv k).toArray 41)
  have hc0 : MCtx w ((w.alloc (.cells (s.cells x).toArray 33)).alloc (.cells (bv k).toArray 41)) (s.cells x) s x (bv k) :=
    ⟨(Row.new w 33 (s.cells x)).alloc _, Row.new' _ 41 (bv k) (by simp), hm.below hb0, hb0⟩
  have HG := Lib.hid (great5 s x w.heap.size _ hc0.m hb0.size hs)
  have HTS := Lib.hid (show (Try.prog.info? 33).map (·.size) = some (s.cells x).length by rw [size_tx, tcells_len hm.m.recent])
  have HTO := Lib.hid (tcells_one (s := s) (x := x))
  have HTL := Lib.hid (show (s.cells x).length = 40 from tcells_len hm.m.recent)
  have HTRG := Lib.hid (fun (V : World) (g : Nat) (h : Row V g 33 (s.cells x)) => TxRow.of h hm.m.recent)
  have HTR := Lib.hid (fun (V : World) (h : Row V w.heap.size 33 (s.cells x)) => TxRow.of h hm.m.recent)
  have HCK := Lib.hid (fun (V : World) (h : TxIn V w.heap.size s x) (hz : w.heap.size ≤ V.heap.size) (hsm : Small x.m) => check_ s x w.heap.size V h hz hsm hwf)
  have HTT := Lib.hid (fun (V : World) (h : TxIn V w.heap.size s x) (hz : w.heap.size ≤ V.heap.size) (hsm : Small x.m) => total_ s x w.heap.size V h hz hsm)
  have HKS := Lib.hid (show (Try.prog.info? 41).map (·.size) = some (bv k).length by rw [bv_length, hk.1]; exact size_key)
  have HK32 := Lib.hid (show (bv k).length = 32 by rw [bv_length, hk.1])
  have HKO := Lib.hid (bv_one k)
  have HSET := Lib.hid (fun A n c => cells_keys s x A n c (x.m.keys ++ [k]))
  have HSETI := Lib.hid (fun A n c => cells_ins s x hm.m.recent A n c (x.m.ins ++ [⟨pr, [], []⟩]))
  have hk2 : ∀ y ∈ x.m.keys ++ [k], y.length = 32 := fun y hy => by
    rcases List.mem_append.1 hy with hy | hy
    · exact (hwf.keys y hy).1
    · rw [List.mem_singleton.1 hy]; exact hk.1
  have HINK := Lib.hid (fun (V : World) A n c (h : TxIn V V.heap.size s x) (hs : Sees V V.heap.size A (n * 32) (bv (x.m.keys ++ [k]).flatten)) (hc : n ≤ c ∧ c ≤ maxLen) (hn : (x.m.keys ++ [k]).length = n) => in_keys (g := 0) h hk2 hs hn hc)
  have HFL : Hid (bv x.m.keys.flatten ++ bv k = bv (x.m.keys ++ [k]).flatten) := Lib.hid (by rw [← bv_append, List.flatten_append]; simp)
  have HXC := Lib.hid (fun (V : World) (h : MCtx w V (s.cells x) s x (bv k)) => show Held V w.heap.size (s.cells x) x from ⟨h.tx, s, rfl, h.wide⟩)
  have lk := hm.m.keys.len
  have li := hm.m.ins.len
  have hpr := hp
  obtain ⟨p0, p1⟩ := hp
  generalize s.cells x = cs at *
  have HKK := Lib.hid hk
  obtain ⟨kc32, hkc⟩ : ∃ kc, kc = bv k := ⟨_, rfl⟩
  rw [← hkc] at HKS HK32 HKO HFL HXC HG hc0 ⊢
  have HKC := Lib.hid hkc
  clear hkc
  obtain ⟨SA, sn, sc, KA, kn, kc, IA, n, ic, LA, ln, lc⟩ := s
  dsimp only at lk li
  have HLK := Lib.hid lk
  have HLI := Lib.hid li
  have HC0 := Lib.hid hc0
  have HW := Lib.hid hwf
  have HPR := Lib.hid hpr
  clear hb0 hm hs hwf lk li hc0 hk hk2 hpr
  go_enter Try.func6, Try.ntmps6
  go_wp2_with ((with_reducible show wpList _ _ _ ({ dst := some 12, op := Op.load _ _, type := _, pos := _, after := _, guard := _ } :: _) _ _); go_must (refine wpList_load_whole rfl 33 (.tmp 3) rfl w.heap.size 33 cs _ Try.underlying33 rfl HTS.out HC0.out.tx ?_ ?_; go_simp))
  refine HG.out.mono ?_
  rintro e w1 ⟨⟨b, rfl, hgr⟩, hb1⟩
  have C1 := Lib.hid (HC0.out.below hb1)
  clear hb1 HG HC0
  cases b
  rotate_left
  · clear hgr
    go_wp2_with fail
    refine (lives5 _).mono ?_
    rintro e w2 ⟨rfl, hb2⟩
    go_wp2_with fail
    go_ret
    exact ⟨rfl, C1.out.b.trans (hb2.mono C1.out.b.size)⟩
  obtain ⟨hsg, ht⟩ := hgr rfl
  have HSM := Lib.hid (Small.of ht)
  have hkn : kn ≤ 3000 := by have := HLK.out; unfold total at ht; omega
  have hin : n ≤ 3000 := by have := HLI.out; unfold total at ht; omega
  have HCC := Lib.hid (HCK.out w1 C1.out.m C1.out.b.size HSM.out)
  clear hgr hsg ht HCK
  go_wp2_with ((with_reducible show wpList _ _ _ ({ dst := some 15, op := Op.load _ _, type := _, pos := _, after := _, guard := _ } :: _) _ _); go_must (refine wpList_load_atg (by kernel_rfl) 33 (.tmp 3) rfl ⟨w.heap.size, 0, none⟩ cs _ Try.underlying33 rfl HTS.out (fun j v hv => by rw [addr_row, C1.out.tx.cell, Nat.zero_add]; exact hv) ?_ ?_; go_simp))
  refine HCC.out.mono ?_
  rintro e w2 ⟨rfl, hb2⟩
  have C2 := Lib.hid (C1.out.below hb2)
  clear hb2 C1 HCC
  by_cases hck : chk x = 0
  rotate_left
  · have hcb : (chk x != 0) = true := by simp [hck]
    generalize chk x = cx at *
    clear hck
    go_wp2_with fail
    refine (lives5 _).mono ?_
    rintro e w3 ⟨rfl, hb3⟩
    go_wp2_with fail
    go_ret
    exact ⟨rfl, C2.out.b.trans (hb3.mono C2.out.b.size)⟩
  have HH := Lib.hid (holds_of hck)
  have hcb : (chk x != 0) = false := by simp [hck]
  clear hck
  generalize chk x = cx at *
  go_wp2_with fail
  have d5 : w2.cell? ⟨w.heap.size, 5, none⟩ = some (.slice KA kn kc) := (HTR.out _ C2.out.tx).c5
  go_loopw [7] (fun i wr => ∃ (q j : Nat), q ≤ kn ∧ i = .int .i64 q ∧ k ∉ x.m.keys.take q ∧ wr = w2.drewN j) (fun i _ => kn - (intOf i).toNat)
  case atStart => exact ⟨0, 0, Nat.zero_le _, rfl, by simp, rfl⟩
  case round =>
    obtain ⟨q, j, hq, rfl, hnot, rfl⟩ := hrel
    have HN := Lib.hid hnot
    clear hnot
    by_cases hql : q < kn
    · obtain ⟨a, y, ha, hab, hx, hat⟩ := C2.out.m.m.keys.get hql
      obtain rfl : KA = some a := ha
      have CA := Lib.hid hat.cells
      have HX := Lib.hid hx
      have HSX := Lib.hid (show (Try.prog.info? 41).map (·.size) = some (bv y).length by rw [size_key, bv_length, hat.len])
      have NQ : ∀ w, (binOp .eql 41 (.agg (bv y).toArray) (.agg kc32.toArray)).run Try.prog w = .ok (.bool (decide (y = k))) w := fun w => by rw [HKC.out]; exact key_eql hat.len HKK.out.1 w
      generalize bv y = X at *
      clear hx hat
      by_cases hyy : y = k
      · rw [decide_eq_true hyy] at NQ
        clear hyy
        go_wp2_with fail
        refine wp_region_quiet_lit (by kernel_rfl) (by kernel_rfl) ?_
        repeat (first
          | ((with_reducible show wpQuiet _ _ _ _ ({ dst := some 33, op := Op.load _ _, type := _, pos := _, after := _, guard := _ } :: _) _); go_must (refine quiet_load_at (by kernel_rfl) 41 (.tmp 32) rfl (a.add (q * 32)) X _ Try.underlying41 rfl HSX.out (by rintro _ ⟨nq, rfl⟩; exact CA.out) ?_ ?_; go_simp; go_simp))
          | ((with_reducible show wpQuiet _ _ _ _ ({ dst := some 34, op := Op.load _ _, type := _, pos := _, after := _, guard := _ } :: _) _); go_must (refine quiet_load_at (by kernel_rfl) 41 (.tmp 4) rfl ⟨w.heap.size + 1, 0, none⟩ kc32 _ Try.underlying41 rfl HKS.out (by rintro _ ⟨nq, rfl⟩; exact fun j v hv => by rw [addr_row, (C2.out.drewN _).key.cell, Nat.zero_add]; exact hv) ?_ ?_; go_simp; go_simp))
          | go_big_quiet_step (fail))
        refine wpQuiet_nil ?_
        intro nq
        go_wp2_with fail
        refine (lives5 _).mono ?_
        rintro e w3 ⟨rfl, hb3⟩
        go_wp2_with fail
        go_ret
        try rw [World.drewN_drewN] at hb3
        have h := (C2.out.drewN (j + nq)).b
        exact ⟨rfl, h.trans (hb3.mono h.size)⟩
      · rw [decide_eq_false hyy] at NQ
        have HP : Hid (k ∉ x.m.keys.take (q + 1)) := Lib.hid (by
          rw [List.take_add_one, HX.out, Option.toList_some, List.mem_append, List.mem_singleton]
          exact fun h => h.elim HN.out (fun e => hyy e.symm))
        clear hyy
        go_wp2_with fail
        refine wp_region_quiet_lit (by kernel_rfl) (by kernel_rfl) ?_
        repeat (first
          | ((with_reducible show wpQuiet _ _ _ _ ({ dst := some 33, op := Op.load _ _, type := _, pos := _, after := _, guard := _ } :: _) _); go_must (refine quiet_load_at (by kernel_rfl) 41 (.tmp 32) rfl (a.add (q * 32)) X _ Try.underlying41 rfl HSX.out (by rintro _ ⟨nq, rfl⟩; exact CA.out) ?_ ?_; go_simp; go_simp))
          | ((with_reducible show wpQuiet _ _ _ _ ({ dst := some 34, op := Op.load _ _, type := _, pos := _, after := _, guard := _ } :: _) _); go_must (refine quiet_load_at (by kernel_rfl) 41 (.tmp 4) rfl ⟨w.heap.size + 1, 0, none⟩ kc32 _ Try.underlying41 rfl HKS.out (by rintro _ ⟨nq, rfl⟩; exact fun j v hv => by rw [addr_row, (C2.out.drewN _).key.cell, Nat.zero_add]; exact hv) ?_ ?_; go_simp; go_simp))
          | go_big_quiet_step (fail))
        refine wpQuiet_nil ?_
        intro nq
        go_wp2_with fail
        go_roundw
        case rel => exact ⟨q + 1, j + nq, by omega, by go_num, HP.out, by simp⟩
        case measure => simp [intOf]; omega
    have hqn : q = kn := by omega
    have HNK : Hid (k ∉ x.m.keys) := Lib.hid (by
      have h1 := HN.out
      rwa [hqn, List.take_of_length_le (by rw [HLK.out]; exact Nat.le_refl _)] at h1)
    have C5 := Lib.hid (C2.out.drewN j)
    clear hqn HN C2
    go_upto_region 8 with fail
    clear d5 hql
    generalize w2.drewN j = V1 at *
    go_upto_region 9 with (first
      | ((with_reducible show wpList _ _ _ ({ dst := some 37, op := Op.load _ _, type := _, pos := _, after := _, guard := _ } :: _) _ _); go_must (refine wpList_load_whole rfl 33 (.tmp 3) rfl w.heap.size 33 cs _ Try.underlying33 rfl HTS.out C5.out.tx ?_ ?_; go_simp))
      | ((with_reducible show wpList _ _ _ ({ dst := none, op := Op.store 33 _ _, type := _, pos := _, after := _, guard := _ } :: _) _ _); go_must (refine wpList_store_new rfl 33 (.tmp 8) (.tmp 37) rfl cs HTS.out HTO.out (by rw [HTL.out]; rfl) ?_ ?_ ?_; go_simp; go_simp; intro w6 hr6 hb6 hz6; have RY := Lib.hid hr6; have B6 := Lib.hid hb6; clear hr6 hb6 hz6)))
    have C6 := Lib.hid (C5.out.below B6.out)
    have HGY : Hid (w.heap.size + 2 ≤ V1.heap.size) := Lib.hid C5.out.size
    obtain ⟨gy, hgy⟩ : ∃ g, g = V1.heap.size := ⟨_, rfl⟩
    rw [← hgy] at RY HGY ⊢
    have HGV : Hid (V1.heap.size ≤ gy) := Lib.hid (Nat.le_of_eq hgy.symm)
    clear hgy
    have HL0 : Hid (w.heap.size + 2 ≤ w6.drew.heap.size) := Lib.hid C6.out.size
    have HLN : Hid ((x.m.keys ++ [k]).length = kn + 1) := Lib.hid (by rw [List.length_append, HLK.out]; rfl)
    simp only [Act.put]
    go_cut [46] (fun _ wx => ∃ cy, Held wx gy cy (withKeys x (x.m.keys ++ [k])) ∧ Below V1.heap.size V1 wx)
    case first =>
      have HSS : Hid (∀ V : World, V.cell? ⟨w.heap.size, 5, none⟩ = some (.slice KA kn kc) → Row V (w.heap.size + 1) 41 kc32 → V.cell? ⟨w.heap.size, 5, none⟩ = some (.slice KA kn kc) ∧ V.rangeAt (w.heap.size + 1) 0 kc32) := Lib.hid fun V h h' => ⟨h, fun j u hu => by rw [h'.cell, Nat.zero_add]; exact hu⟩
      have Y0 := Lib.hid RY.out.drew
      have C0 : Hid (MCtx w w6.drew cs ⟨SA, sn, sc, ⟨KA, kn, kc, IA, n, ic, LA, ln, lc⟩⟩ x kc32) := Lib.hid C6.out.drew
      have E0 : Hid (Below V1.heap.size V1 w6.drew) := Lib.hid B6.out.drew
      have HD5 : Hid (∀ V : World, MCtx w V cs ⟨SA, sn, sc, ⟨KA, kn, kc, IA, n, ic, LA, ln, lc⟩⟩ x kc32 → V.cell? ⟨w.heap.size, 5, none⟩ = some (.slice KA kn kc)) := Lib.hid fun V h => (HTR.out V h.tx).c5
      have S0 := Lib.hid (HSS.out _ (HD5.out _ C0.out) C0.out.key)
      refine wp_region_held_drew (S := fun V => V.cell? ⟨w.heap.size, 5, none⟩ = some (.slice KA kn kc) ∧ V.rangeAt (w.heap.size + 1) 0 kc32) (by kernel_rfl) S0.out (fun _ => ?_)
      have HG0 : Hid (gy < w6.drew.heap.size ∧ V1.heap.size ≤ w6.drew.heap.size) := Lib.hid ⟨Y0.out.lt, E0.out.size⟩
      generalize w6.drew = V0 at *
      refine takeL (i := 0) (v := ?_) rfl (by kernel_rfl) (by kernel_rfl) (by kernel_rfl) (fun _ _ _ h => h) (Or.inl ⟨by rfl, ?_⟩) S0.out ?_
      rotate_left
      · intro w hw
        try dsimp only at hw
        obtain ⟨q0, q1⟩ := hw
        go_simp
        try with_reducible rfl
      try simp only [Act.put, List.setIfInBounds_toArray, List.set_cons_zero, List.set_cons_succ]
      refine takeL (i := 1) (v := ?_) rfl (by kernel_rfl) (by kernel_rfl) (by kernel_rfl) (fun _ _ _ h => h) (Or.inl ⟨by rfl, ?_⟩) S0.out ?_
      rotate_left
      · intro w hw
        try dsimp only at hw
        obtain ⟨q0, q1⟩ := hw
        go_simp
        try with_reducible rfl
      try simp only [Act.put, List.setIfInBounds_toArray, List.set_cons_zero, List.set_cons_succ]
      refine takeL (i := 2) (v := ?_) rfl (by kernel_rfl) (by kernel_rfl) (by kernel_rfl) (fun _ _ _ h => h) (Or.inl ⟨by rfl, ?_⟩) S0.out ?_
      rotate_left
      · intro w hw
        try dsimp only at hw
        obtain ⟨q0, q1⟩ := hw
        go_simp
        try with_reducible rfl
      try simp only [Act.put, List.setIfInBounds_toArray, List.set_cons_zero, List.set_cons_succ]
      refine takeL (i := 4) (v := .agg kc32.toArray) rfl (by kernel_rfl) (by kernel_rfl) (by kernel_rfl) (fun _ _ _ h => h) (yieldsIf_load_mid (by kernel_rfl) 41 (.tmp 4) rfl (w.heap.size + 1) 0 (by go_simp) kc32 _ (fun w hw => hw.2) Try.underlying41 rfl HKS.out) S0.out ?_
      try simp only [Act.put, List.setIfInBounds_toArray, List.set_cons_zero, List.set_cons_succ]
      have HZ0 : Hid (V0.heap.size ≤ V0.heap.size) := Lib.hid (Nat.le_refl _)
      refine readyL2 (i := 3) (j := 5) rfl rfl (by kernel_rfl) (by kernel_rfl) (by kernel_rfl) (fun K hK => ?_) (fun K hK => ?_)
      · refine wp_appendN (.const (.slice none 0 0)) (.tmp 40) 25 41 _ 32 32 rfl Try.underlying25 info_key (by kernel_rfl) (by omega) (.slice none 0 0) 0 [] V0.heap.size w.heap.size KA kn kc (bv x.m.keys.flatten) rfl (own_nilN _ _ _ _) (by go_simp) C0.out.m.m.keys.sees (bv_one _) (by unfold maxLen; omega) (by omega) HZ0.out ?_
        intro v1 V1a ho1 hg1
        rw [Nat.zero_add, List.nil_append] at ho1
        obtain ⟨A1, c1, rfl, _, _, _, hlt1⟩ := own_form2 ho1
        have hb1 : Below V0.heap.size V0 V1a := (Below.refl V0.heap.size V0).grown hg1.grown (Nat.le_refl _) (fun k hk => by cases hk)
        have C1 := Lib.hid (C0.out.below hb1)
        have E1 := Lib.hid (E0.out.trans (hb1.mono (Nat.le_trans HG0.out.2 HZ0.out)))
        have Y1 := Lib.hid (Y0.out.below hb1 Y0.out.lt)
        have HZ1 := Lib.hid (Nat.le_trans HZ0.out hb1.size)
        have S1 := Lib.hid (HSS.out _ (HD5.out _ C1.out) C1.out.key)
        have O1 := Lib.hid ho1
        clear hg1 ho1 hb1
        refine hK.out _ _ S1.out ?_
        clear hK K
        try simp only [Act.put, List.setIfInBounds_toArray, List.set_cons_zero, List.set_cons_succ]
        refine readyL (i := 5) rfl (by kernel_rfl) (by kernel_rfl) fun K hK => ?_
        refine wp_buildOne 25 41 (.tmp 42) rfl kc32 _ 32 32 Try.underlying25 info_key (by kernel_rfl) (by omega) (by omega) HK32.out (by go_simp) ?_
        have hb2 := (Below.refl V1a.heap.size V1a).alloc (Nat.le_refl _) (.cells kc32.toArray 41)
        have C2 := Lib.hid (C1.out.below hb2)
        have E2 := Lib.hid (E1.out.trans (hb2.mono (Nat.le_trans HG0.out.2 HZ1.out)))
        have Y2 := Lib.hid (Y1.out.below hb2 Y1.out.lt)
        have HZ2 := Lib.hid (Nat.le_trans HZ1.out hb2.size)
        have S2 := Lib.hid (HSS.out _ (HD5.out _ C2.out) C2.out.key)
        have O2 := Lib.hid (O1.out.alloc (.cells kc32.toArray 41))
        have GB2 := Lib.hid (Row.new V1a 41 kc32)
        clear hb2
        generalize V1a.alloc (.cells kc32.toArray 41) = V2 at *
        generalize V1a.heap.size = gb at *
        refine hK.out _ _ S2.out ?_
        clear hK K
        try simp only [Act.put, List.setIfInBounds_toArray, List.set_cons_zero, List.set_cons_succ]
        refine readyL (i := 6) rfl (by kernel_rfl) (by kernel_rfl) fun K hK => ?_
        refine wp_appendN (.tmp 41) (.tmp 43) 25 41 _ 32 32 rfl Try.underlying25 info_key (by kernel_rfl) (by omega) (.slice A1 kn c1) kn (bv x.m.keys.flatten) V0.heap.size V2.heap.size (some ⟨gb, 0, none⟩) 1 1 kc32 (by go_simp) O2.out (by go_simp) (by have := GB2.out.sees0; rwa [HK32.out] at this) HKO.out (by unfold maxLen; omega) (by omega) HZ2.out ?_
        intro v2 V3 ho3 hg3
        obtain ⟨A2, c2, rfl, hs3, hc1, hc2, hlt3⟩ := own_form2 ho3
        have hne : ∀ g, (Value.slice A1 kn c1).ownBlock = some g → V0.heap.size ≤ g := fun g hg => (O2.out.lt g hg).1
        have hb3 : Below V0.heap.size V2 V3 := (Below.refl V0.heap.size V2).grown hg3.grown HZ2.out (fun k hk => hne k hk)
        have C3 := Lib.hid (C2.out.low hb3 HL0.out)
        have E3 := Lib.hid (E2.out.trans (hb3.mono HG0.out.2))
        have Y3 := Lib.hid (Y2.out.below hb3 HG0.out.1)
        have S3 := Lib.hid (HSS.out _ (HD5.out _ C3.out) C3.out.key)
        have A3 := Lib.hid hs3
        have CC := Lib.hid (And.intro hc1 hc2)
        have LT3 := Lib.hid hlt3
        clear ho3 hg3 hs3 hlt3 hne hb3 hc1 hc2
        refine hK.out _ _ S3.out ?_
        clear hK K
        try simp only [Act.put, List.setIfInBounds_toArray, List.set_cons_zero, List.set_cons_succ]
        refine takeL (i := 7) (v := ?_) rfl (by kernel_rfl) (by kernel_rfl) (by kernel_rfl) (fun _ _ _ h => h) (Or.inl ⟨by rfl, ?_⟩) S3.out ?_
        rotate_left
        · intro w hw
          try dsimp only at hw
          obtain ⟨q0, q1⟩ := hw
          go_simp
          try with_reducible rfl
        try simp only [Act.put, List.setIfInBounds_toArray, List.set_cons_zero, List.set_cons_succ]
        refine takeL (i := 8) (v := ?_) rfl (by kernel_rfl) (by kernel_rfl) (by kernel_rfl) (fun _ _ _ h => h) (Or.inl ⟨by rfl, ?_⟩) S3.out ?_
        rotate_left
        · intro w hw
          try dsimp only at hw
          obtain ⟨q0, q1⟩ := hw
          go_simp
          try with_reducible rfl
        try simp only [Act.put, List.setIfInBounds_toArray, List.set_cons_zero, List.set_cons_succ]
        have c5 : V3.cell? ⟨gy, 5, none⟩ = some (.slice KA kn kc) := (HTRG.out V3 gy Y3.out).c5
        have f5 := Y3.out.frozen 5
        refine readyL (i := 9) rfl (by kernel_rfl) (by kernel_rfl) fun K hK => ?_
        go_simp
        have hcy := HSET.out A2 (kn + 1) c2
        have C4 := Lib.hid (C3.out.far (p := ⟨gy, 5, none⟩) HGY.out (.slice A2 (kn + 1) c2))
        have S4 := Lib.hid (HSS.out _ (HD5.out _ C4.out) C4.out.key)
        refine hK.out _ _ S4.out ?_
        clear hK K
        try simp only [Act.put, List.setIfInBounds_toArray, List.set_cons_zero, List.set_cons_succ]
        refine wpAnyH_done (by kernel_rfl) ?_ _
        go_wp2_with fail
        go_meet
        refine ⟨cs.set 5 (.slice A2 (kn + 1) c2), ⟨Y3.out.set_ 5 _, _, hcy, HINK.out _ A2 (kn + 1) c2 C4.out.wide ?_ CC.out HLN.out⟩, E3.out.setCell HGV.out _⟩
        have h := A3.out.far (p := ⟨gy, 5, none⟩) (fun a ha => by have := (LT3.out a.block (by rw [ha]; rfl)).1; have := HG0.out.1; intro e; have e : a.block = gy := e; omega) (.slice A2 (kn + 1) c2)
        exact (HFL.out ▸ h).more (by simp)
      · refine wp_buildOne 25 41 (.tmp 42) rfl kc32 _ 32 32 Try.underlying25 info_key (by kernel_rfl) (by omega) (by omega) HK32.out (by go_simp) ?_
        have hb1 := (Below.refl V0.heap.size V0).alloc (Nat.le_refl _) (.cells kc32.toArray 41)
        have C1 := Lib.hid (C0.out.below hb1)
        have E1 := Lib.hid (E0.out.trans (hb1.mono (Nat.le_trans HG0.out.2 HZ0.out)))
        have Y1 := Lib.hid (Y0.out.below hb1 Y0.out.lt)
        have HZ1 := Lib.hid (Nat.le_trans HZ0.out hb1.size)
        have S1 := Lib.hid (HSS.out _ (HD5.out _ C1.out) C1.out.key)
        have GB1 := Lib.hid (Row.new V0 41 kc32)
        clear hb1
        generalize hgb : V0.heap.size = gb at *
        generalize V0.alloc (.cells kc32.toArray 41) = V1a at *
        refine hK.out _ _ S1.out ?_
        clear hK K
        try simp only [Act.put, List.setIfInBounds_toArray, List.set_cons_zero, List.set_cons_succ]
        refine readyL (i := 3) rfl (by kernel_rfl) (by kernel_rfl) fun K hK => ?_
        refine wp_appendN (.const (.slice none 0 0)) (.tmp 40) 25 41 _ 32 32 rfl Try.underlying25 info_key (by kernel_rfl) (by omega) (.slice none 0 0) 0 [] gb w.heap.size KA kn kc (bv x.m.keys.flatten) rfl (own_nilN _ _ _ _) (by go_simp) C1.out.m.m.keys.sees (bv_one _) (by unfold maxLen; omega) (by omega) HZ1.out ?_
        intro v1 V2 ho1 hg1
        rw [Nat.zero_add, List.nil_append] at ho1
        obtain ⟨A1, c1, rfl, _, _, _, hlt1⟩ := own_form2 ho1
        have hb2 : Below V1a.heap.size V1a V2 := (Below.refl V1a.heap.size V1a).grown hg1.grown (Nat.le_refl _) (fun k hk => by cases hk)
        have C2 := Lib.hid (C1.out.below hb2)
        have E2 := Lib.hid (E1.out.trans (hb2.mono (Nat.le_trans HG0.out.2 HZ1.out)))
        have Y2 := Lib.hid (Y1.out.below hb2 Y1.out.lt)
        have HZ2 := Lib.hid (Nat.le_trans HZ1.out hb2.size)
        have S2 := Lib.hid (HSS.out _ (HD5.out _ C2.out) C2.out.key)
        have O2 := Lib.hid ho1
        have GB2 := Lib.hid (GB1.out.below hb2 GB1.out.lt)
        clear hg1 ho1 hb2
        refine hK.out _ _ S2.out ?_
        clear hK K
        try simp only [Act.put, List.setIfInBounds_toArray, List.set_cons_zero, List.set_cons_succ]
        refine readyL (i := 6) rfl (by kernel_rfl) (by kernel_rfl) fun K hK => ?_
        refine wp_appendN (.tmp 41) (.tmp 43) 25 41 _ 32 32 rfl Try.underlying25 info_key (by kernel_rfl) (by omega) (.slice A1 kn c1) kn (bv x.m.keys.flatten) gb V2.heap.size (some ⟨gb, 0, none⟩) 1 1 kc32 (by go_simp) O2.out (by go_simp) (by have := GB2.out.sees0; rwa [HK32.out] at this) HKO.out (by unfold maxLen; omega) (by omega) HZ2.out ?_
        intro v2 V3 ho3 hg3
        obtain ⟨A2, c2, rfl, hs3, hc1, hc2, hlt3⟩ := own_form2 ho3
        have hne : ∀ g, (Value.slice A1 kn c1).ownBlock = some g → gb ≤ g := fun g hg => (O2.out.lt g hg).1
        have hb3 : Below gb V2 V3 := (Below.refl gb V2).grown hg3.grown HZ2.out (fun k hk => hne k hk)
        have C3 := Lib.hid (C2.out.low hb3 HL0.out)
        have E3 := Lib.hid (E2.out.trans (hb3.mono HG0.out.2))
        have Y3 := Lib.hid (Y2.out.below hb3 HG0.out.1)
        have S3 := Lib.hid (HSS.out _ (HD5.out _ C3.out) C3.out.key)
        have A3 := Lib.hid hs3
        have CC := Lib.hid (And.intro hc1 hc2)
        have LT3 := Lib.hid hlt3
        clear ho3 hg3 hs3 hlt3 hne hb3 hc1 hc2
        refine hK.out _ _ S3.out ?_
        clear hK K
        try simp only [Act.put, List.setIfInBounds_toArray, List.set_cons_zero, List.set_cons_succ]
        refine takeL (i := 7) (v := ?_) rfl (by kernel_rfl) (by kernel_rfl) (by kernel_rfl) (fun _ _ _ h => h) (Or.inl ⟨by rfl, ?_⟩) S3.out ?_
        rotate_left
        · intro w hw
          try dsimp only at hw
          obtain ⟨q0, q1⟩ := hw
          go_simp
          try with_reducible rfl
        try simp only [Act.put, List.setIfInBounds_toArray, List.set_cons_zero, List.set_cons_succ]
        refine takeL (i := 8) (v := ?_) rfl (by kernel_rfl) (by kernel_rfl) (by kernel_rfl) (fun _ _ _ h => h) (Or.inl ⟨by rfl, ?_⟩) S3.out ?_
        rotate_left
        · intro w hw
          try dsimp only at hw
          obtain ⟨q0, q1⟩ := hw
          go_simp
          try with_reducible rfl
        try simp only [Act.put, List.setIfInBounds_toArray, List.set_cons_zero, List.set_cons_succ]
        have c5 : V3.cell? ⟨gy, 5, none⟩ = some (.slice KA kn kc) := (HTRG.out V3 gy Y3.out).c5
        have f5 := Y3.out.frozen 5
        refine readyL (i := 9) rfl (by kernel_rfl) (by kernel_rfl) fun K hK => ?_
        go_simp
        have hcy := HSET.out A2 (kn + 1) c2
        have C4 := Lib.hid (C3.out.far (p := ⟨gy, 5, none⟩) HGY.out (.slice A2 (kn + 1) c2))
        have S4 := Lib.hid (HSS.out _ (HD5.out _ C4.out) C4.out.key)
        refine hK.out _ _ S4.out ?_
        clear hK K
        try simp only [Act.put, List.setIfInBounds_toArray, List.set_cons_zero, List.set_cons_succ]
        refine wpAnyH_done (by kernel_rfl) ?_ _
        go_wp2_with fail
        go_meet
        refine ⟨cs.set 5 (.slice A2 (kn + 1) c2), ⟨Y3.out.set_ 5 _, _, hcy, HINK.out _ A2 (kn + 1) c2 C4.out.wide ?_ CC.out HLN.out⟩, E3.out.setCell HGV.out _⟩
        have h := A3.out.far (p := ⟨gy, 5, none⟩) (fun a ha => by have := (LT3.out a.block (by rw [ha]; rfl)).1; have := HG0.out.1; intro e; have e : a.block = gy := e; omega) (.slice A2 (kn + 1) c2)
        exact (HFL.out ▸ h).more (by simp)
    case rest =>
      obtain ⟨cy, hhy, hby⟩ := hcut
      have HY1 := Lib.hid hhy
      have C6 := Lib.hid (C5.out.below hby)
      clear hhy hby C5 HSET HINK RY B6 HGY HGV HL0
      go_wp2_with ((with_reducible show wpList _ _ _ ({ dst := some 47, op := Op.load _ _, type := _, pos := _, after := _, guard := _ } :: _) _ _); go_must (refine wpList_load_whole rfl 33 (.tmp 3) rfl w.heap.size 33 cs _ Try.underlying33 rfl HTS.out C6.out.tx ?_ ?_; go_simp))
      refine (HTT.out wc C6.out.m C6.out.b.size HSM.out).mono ?_
      rintro e w7 ⟨rfl, hb7⟩
      have C7 := Lib.hid (C6.out.below hb7)
      have HY7 := Lib.hid (HY1.out.below hb7)
      have HT64 := Lib.hid HH.out.t
      have HTY := Lib.hid (fun (V : World) (h : Held V gy cy (withKeys x (x.m.keys ++ [k]))) => held_total h (small_keys HSM.out (by rw [List.length_append, HLK.out, List.length_singleton]; omega)) (tot_more x k))
      have HTX := Lib.hid (fun (V : World) (h : Held V w.heap.size cs x) => held_total h HSM.out rfl)
      obtain ⟨wn, hwn⟩ : ∃ wn : Int, wn = if tot x.m = 64 then 3 else 0 := ⟨_, rfl⟩
      have HCY := Lib.hid (fun (V : World) (h : Held V gy cy (withKeys x (x.m.keys ++ [k]))) => held_check h (small_keys HSM.out (by rw [List.length_append, HLK.out, List.length_singleton]; omega)) (wf_keys HW.out (fun y hy => by
        rcases List.mem_append.1 hy with hy | hy
        · exact HW.out.keys y hy
        · rw [List.mem_singleton.1 hy]; exact HKK.out)) (show chk (withKeys x (x.m.keys ++ [k])) = wn by rw [chk_key HH.out k, if_neg HNK.out, hwn]))
      have HWN := Lib.hid hwn
      clear hb7 C6 HY1 hwn
      generalize tot x.m = tt at *
      generalize withKeys x (x.m.keys ++ [k]) = y at *
      go_upto_if 49 with fail
      go_cut [9] (fun s9 wx => s9 = .int .i64 wn ∧ MCtx w wx cs ⟨SA, sn, sc, ⟨KA, kn, kc, IA, n, ic, LA, ln, lc⟩⟩ x kc32 ∧ Held wx gy cy y)
      case first =>
        by_cases h64 : tt = 64
        · have q1 : ((tt : Int) == 64) = true := by simp [h64]
          have HW3 : Hid (wn = 3) := Lib.hid (by rw [HWN.out, if_pos h64])
          clear h64
          go_wp2_with fail
          go_meet
          exact ⟨by rw [HW3.out], C7.out, HY7.out⟩
        · have q1 : ((tt : Int) == 64) = false := by simp; omega
          have HW3 : Hid (wn = 0) := Lib.hid (by rw [HWN.out, if_neg h64])
          clear h64
          go_wp2_with fail
          go_meet
          exact ⟨by rw [HW3.out], C7.out, HY7.out⟩
      case rest =>
        obtain ⟨rfl, hc, hhy⟩ := hcut
        have C7 := Lib.hid hc
        have HY7 := Lib.hid hhy
        clear hc hhy
        go_upto_region 14 with (first
          | ((with_reducible show wpList _ _ _ ({ dst := some 50, op := Op.load _ _, type := _, pos := _, after := _, guard := _ } :: _) _ _); go_must (refine wpList_load_whole rfl 33 (.tmp 3) rfl w.heap.size 33 cs _ Try.underlying33 rfl HTS.out C7.out.tx ?_ ?_; go_simp))
          | ((with_reducible show wpList _ _ _ ({ dst := none, op := Op.store 33 _ _, type := _, pos := _, after := _, guard := _ } :: _) _ _); go_must (refine wpList_store_new rfl 33 (.tmp 10) (.tmp 50) rfl cs HTS.out HTO.out (by rw [HTL.out]; rfl) ?_ ?_ ?_; go_simp; go_simp; intro w8 hr8 hb8 hz8; have RZ := Lib.hid hr8; have B8 := Lib.hid hb8; clear hr8 hb8 hz8)))
        have C8 := Lib.hid (C7.out.below B8.out)
        have d38 : w8.cell? ⟨w.heap.size, 38, none⟩ = some (.slice IA n ic) := (HTR.out _ C8.out.tx).c38
        obtain ⟨news, hic, hsees⟩ := C8.out.m.m.ins.cells
        have HIC := Lib.hid hic
        have HSEE := Lib.hid hsees
        obtain ⟨gz, hgz⟩ : ∃ g, g = wc.heap.size := ⟨_, rfl⟩
        have HGZ := Lib.hid hgz
        rw [← hgz] at RZ ⊢
        have HGZ2 : Hid (w.heap.size + 2 ≤ gz) := Lib.hid (by rw [hgz]; exact C7.out.size)
        have HGZ3 : Hid (gz < w8.heap.size) := Lib.hid RZ.out.lt
        have HZR : Hid (w.heap.size ≤ w8.heap.size) := Lib.hid C8.out.b.size
        clear hic hsees hgz
        go_upto_region 15 with (first
          | ((with_reducible show wpList _ _ _ ({ dst := some 54, op := _, type := _, pos := _, after := _, guard := _ } :: _) _ _); go_must (refine wpList_appendN rfl (.const (.slice none 0 0)) (.tmp 53) 28 47 _ 3 56 rfl Try.underlying28 info_ins5 (by kernel_rfl) (by omega) (.slice none 0 0) 0 [] w8.heap.size w.heap.size IA n ic news rfl (own_nilN _ _ _ _) ?_ HSEE.out HIC.out.one (by unfold maxLen; omega) (by omega) (Nat.le_refl _) ?_; go_simp; intro v1 u1 ho1 hg1; rw [Nat.zero_add, List.nil_append] at ho1; obtain ⟨A1, c1, rfl, _, _, _, hlt1⟩ := own_form2 ho1; have hb1 : Below w8.heap.size w8 u1 := (Below.refl w8.heap.size w8).grown hg1.grown (Nat.le_refl _) (fun k hk => by cases hk); have BU1 := Lib.hid hb1; have O1 := Lib.hid ho1; have RB := Lib.hid (Row.new u1 47 (inCells pr (.slice none 0 0) (.slice none 0 0))); have OA := Lib.hid (ho1.alloc (.cells (inCells pr (.slice none 0 0) (.slice none 0 0)).toArray 47)); have ZA : Hid (w8.heap.size ≤ (u1.alloc (.cells (inCells pr (.slice none 0 0) (.slice none 0 0)).toArray 47)).heap.size) := Lib.hid (Nat.le_trans hb1.size (by simp)); have BUA : Hid (Below w8.heap.size w8 (u1.alloc (.cells (inCells pr (.slice none 0 0) (.slice none 0 0)).toArray 47))) := Lib.hid (hb1.alloc hb1.size _); clear ho1 hg1 hlt1 hb1))
          | ((with_reducible show wpList _ _ _ ({ dst := some 58, op := _, type := _, pos := _, after := _, guard := _ } :: _) _ _); go_must (refine wpList_appendN rfl (.tmp 54) (.tmp 57) 28 47 _ 3 56 rfl Try.underlying28 info_ins5 (by kernel_rfl) (by omega) (.slice A1 n c1) n news w8.heap.size _ (some ⟨u1.heap.size, 0, none⟩) 1 1 (inCells pr (.slice none 0 0) (.slice none 0 0)) ?_ OA.out ?_ RB.out.sees0 (nil_one _) (by unfold maxLen; omega) (by omega) ZA.out ?_; go_simp; go_simp; intro v2 u3 ho3 hg3; obtain ⟨A2, c2, rfl, hs3, hc1, hc2, hlt3⟩ := own_form2 ho3; have hne : ∀ g, (Value.slice A1 n c1).ownBlock = some g → w8.heap.size ≤ g := fun g hg => (OA.out.lt g hg).1; have hb3 : Below w8.heap.size w8 u3 := BUA.out.grown hg3.grown ZA.out (fun k hk => hne k hk); have BU3 := Lib.hid hb3; have SE3 := Lib.hid hs3; have CC := Lib.hid (And.intro hc1 hc2); have LT3 := Lib.hid hlt3; have RZ3 := Lib.hid (RZ.out.below hb3 HGZ3.out); have c38 : u3.cell? ⟨gz, 38, none⟩ = some (.slice IA n ic) := (HTRG.out u3 gz RZ3.out).c38; have f38 := RZ3.out.frozen 38; clear ho3 hg3 hs3 hlt3 hne hb3 hc1 hc2)))
        clear d38 c38 f38
        have C9 := Lib.hid ((C8.out.low BU3.out C8.out.size).far (p := ⟨gz, 38, none⟩) HGZ2.out (.slice A2 (n + 1) c2))
        have HY9 := Lib.hid (HY7.out.below ((B8.out.trans (BU3.out.mono B8.out.size)).setCell (p := ⟨gz, 38, none⟩) (show wc.heap.size ≤ gz by rw [HGZ.out]; exact Nat.le_refl _) (.slice A2 (n + 1) c2)))
        have HZ9 : Hid (Held (u3.setCell ⟨gz, 38, none⟩ (.slice A2 (n + 1) c2)) gz (cs.set 38 (.slice A2 (n + 1) c2)) (withIns x (x.m.ins ++ [⟨pr, [], []⟩]))) := Lib.hid (by
          refine ⟨RZ3.out.set_ 38 _, _, HSETI.out A2 (n + 1) c2, in_ins C9.out.wide ?_ CC.out⟩
          have h := SE3.out.far (p := ⟨gz, 38, none⟩) (fun a ha => by have := (LT3.out a.block (by rw [ha]; rfl)).1; have := HGZ3.out; intro e; have e : a.block = gz := e; omega) (.slice A2 (n + 1) c2)
          have hic2 : InsCells (u3.setCell ⟨gz, 38, none⟩ (.slice A2 (n + 1) c2)) w.heap.size x.m.ins news := (HIC.out.below (BU3.out.mono HZR.out)).below ((Below.refl w.heap.size u3).setCell (p := ⟨gz, 38, none⟩) (show w.heap.size ≤ gz by have := HGZ2.out; omega) _)
          have hic3 := (hic2.more C9.out.b.size).snoc (y := ⟨pr, [], []⟩) HPR.out (bytes_nil _ _) (bytes_nil _ _)
          exact hic3.in_ (h.more (by simp)) (by rw [List.length_append, HLI.out]; rfl))
        have HCZ := Lib.hid (fun (V : World) (h : Held V gz (cs.set 38 (.slice A2 (n + 1) c2)) (withIns x (x.m.ins ++ [⟨pr, [], []⟩]))) => held_check h (small_ins HSM.out (by rw [List.length_append, HLI.out, List.length_singleton]; omega) (fun i hi => by
          rcases List.mem_append.1 hi with hi | hi
          · exact HSM.out.acc i hi
          · rw [List.mem_singleton.1 hi]; simp)) (wf_ins HW.out (fun i hi => by
          rcases List.mem_append.1 hi with hi | hi
          · exact HW.out.ins i hi
          · rw [List.mem_singleton.1 hi]; exact ⟨HPR.out, fun z hz => by simp at hz, fun z hz => by simp at hz⟩)) (chk_ins HH.out pr HPR.out))
        have HSZ := Lib.hid (show (Try.prog.info? 33).map (·.size) = some (cs.set 38 (.slice A2 (n + 1) c2)).length by rw [List.length_set]; exact HTS.out)
        have HSY : Hid ((Try.prog.info? 33).map (·.size) = some cy.length) := Lib.hid (by
          obtain ⟨s', e, h⟩ := HY9.out.tx
          rw [e, size_tx, tcells_len h.m.recent])
        generalize u3.setCell ⟨gz, 38, none⟩ (.slice A2 (n + 1) c2) = W9 at *
        generalize cs.set 38 (.slice A2 (n + 1) c2) = cz at *
        clear C7 C8 HY7 RZ RZ3 B8 HIC HSEE HGZ HGZ2 HGZ3 HZR O1 OA ZA RB BU1 BUA BU3 SE3 LT3 CC HSETI
        obtain ⟨mb, hmb⟩ : ∃ mb, mb = decide (0 < pr ∧ pr < (x.m.keys.length : Int)) := ⟨_, rfl⟩
        obtain ⟨zc, hzc⟩ : ∃ zc : Int, zc = if 0 < pr ∧ pr < (x.m.keys.length : Int) then 0 else 8 := ⟨_, rfl⟩
        rw [← hzc] at HCZ
        have HMB : Hid ((zc == 0) = mb) := Lib.hid (by
          rw [hzc, hmb]
          by_cases h : 0 < pr ∧ pr < (x.m.keys.length : Int)
          · rw [if_pos h, decide_eq_true h]; rfl
          · rw [if_neg h, decide_eq_false h]; rfl)
        have HMD : Hid (mb = decide (0 < pr ∧ pr < (kn : Int))) := Lib.hid (by rw [hmb, HLK.out])
        clear hmb hzc
        generalize withIns x (x.m.ins ++ [⟨pr, [], []⟩]) = zz at *
        have d5 : W9.cell? ⟨w.heap.size, 5, none⟩ = some (.slice KA kn kc) := (HTR.out _ C9.out.tx).c5
        go_cut [11] (fun s11 wx => s11 = .bool mb ∧ MCtx w wx cs ⟨SA, sn, sc, ⟨KA, kn, kc, IA, n, ic, LA, ln, lc⟩⟩ x kc32 ∧ Held wx gy cy y ∧ Held wx gz cz zz)
        case first =>
          by_cases hz0 : 0 < pr
          · by_cases hz1 : pr < (kn : Int)
            · have HM2 : Hid (mb = true) := Lib.hid (by rw [HMD.out]; simp [hz0, hz1])
              go_wp2_with fail
              go_meet
              exact ⟨by rw [HM2.out], C9.out, HY9.out, HZ9.out⟩
            · have HM2 : Hid (mb = false) := Lib.hid (by rw [HMD.out]; simp [hz1])
              go_wp2_with fail
              go_meet
              exact ⟨by rw [HM2.out], C9.out, HY9.out, HZ9.out⟩
          · have HM2 : Hid (mb = false) := Lib.hid (by rw [HMD.out]; simp [hz0])
            go_wp2_with fail
            go_meet
            exact ⟨by rw [HM2.out], C9.out, HY9.out, HZ9.out⟩
        case rest =>
          obtain ⟨rfl, hc, hhy, hhz⟩ := hcut
          have B8 := Lib.hid hc.b
          have HX8 := Lib.hid (HXC.out _ hc)
          have HY8 := Lib.hid hhy
          have HZ8 := Lib.hid hhz
          have htt := HT64.out
          have WR1 : Hid (IntKind.i64.wrap ((tt : Int) + 1) = (tt : Int) + 1) := Lib.hid (IntWalk.i64_in _ (by omega))
          have HTY2 : Hid (∀ V : World, Held V gy cy y → Calls Try.prog 10 #[.agg cy.toArray] V fun e w' => e = .returned (.int .i64 ((tt : Int) + 1)) ∧ Below V.heap.size V w') := Lib.hid fun V h => by
            have := HTY.out V h
            rwa [show ((tt + 1 : Nat) : Int) = (tt : Int) + 1 by omega] at this
          have HTY := HTY2
          clear hc hhy hhz d5 C9 HY9 HZ9 HTY2
          go_upto_region 16 with fail
          obtain ⟨W8, hW8⟩ : ∃ u : World, u = wc := ⟨_, rfl⟩
          subst hW8
          have HS3 : Hid (∀ V : World, Row V w.heap.size 33 cs → Row V gy 33 cy → Row V gz 33 cz → V.rangeAt w.heap.size 0 cs ∧ V.rangeAt gy 0 cy ∧ V.rangeAt gz 0 cz) := Lib.hid fun V h h' h'' => ⟨fun j u hu => by rw [h.cell, Nat.zero_add]; exact hu, fun j u hu => by rw [h'.cell, Nat.zero_add]; exact hu, fun j u hu => by rw [h''.cell, Nat.zero_add]; exact hu⟩
          have X0 := Lib.hid HX8.out.drew
          have Y0 := Lib.hid HY8.out.drew
          have Z0 := Lib.hid HZ8.out.drew
          have BB0 := Lib.hid B8.out.drew
          have T0 := Lib.hid (HS3.out _ X0.out.row Y0.out.row Z0.out.row)
          refine wp_region_held_drew (S := fun V => V.rangeAt w.heap.size 0 cs ∧ V.rangeAt gy 0 cy ∧ V.rangeAt gz 0 cz) (by kernel_rfl) T0.out (fun _ => ?_)
          generalize W8.drew = V0 at *
          refine takeL (i := 0) (v := .agg (cy).toArray) rfl (by kernel_rfl) (by kernel_rfl) (by kernel_rfl) (fun _ _ _ h => h) (yieldsIf_load_mid (by kernel_rfl) 33 (.tmp 8) rfl gy 0 (by go_simp) (cy) _ (fun w hw => hw.2.1) Try.underlying33 rfl HSY.out) T0.out ?_
          try simp only [Act.put, List.setIfInBounds_toArray, List.set_cons_zero, List.set_cons_succ]
          refine takeL (i := 2) (v := ?_) rfl (by kernel_rfl) (by kernel_rfl) (by kernel_rfl) (fun _ _ _ h => h) (Or.inl ⟨by rfl, ?_⟩) T0.out ?_
          rotate_left
          · intro w hw
            try dsimp only at hw
            go_simp
            try with_reducible rfl
          try simp only [Act.put, List.setIfInBounds_toArray, List.set_cons_zero, List.set_cons_succ]
          refine readyL (i := 1) rfl (by kernel_rfl) (by kernel_rfl) fun K hK => ?_
          go_simp
          refine (HCY.out V0 Y0.out).mono ?_
          rintro e V1 ⟨rfl, hb⟩
          simp only []
          have X1 := Lib.hid (X0.out.below hb)
          have Y1 := Lib.hid (Y0.out.below hb)
          have Z1 := Lib.hid (Z0.out.below hb)
          have BB1 := Lib.hid (BB0.out.trans (hb.mono BB0.out.size))
          have T1 := Lib.hid (HS3.out _ X1.out.row Y1.out.row Z1.out.row)
          clear hb
          refine hK.out _ _ T1.out ?_
          clear hK K
          try simp only [Act.put, List.setIfInBounds_toArray, List.set_cons_zero, List.set_cons_succ]
          refine takeL (i := 3) (v := .bool true) rfl (by kernel_rfl) (by kernel_rfl) (by kernel_rfl) (fun _ _ _ h => h) (Or.inl ⟨by kernel_rfl, fun w hw => by go_simp⟩) T1.out ?_
          try simp only [Act.put, List.setIfInBounds_toArray, List.set_cons_zero, List.set_cons_succ]
          refine takeL (i := 4) (v := ?_) rfl (by kernel_rfl) (by kernel_rfl) (by kernel_rfl) (fun _ _ _ h => h) (Or.inl ⟨by rfl, ?_⟩) T1.out ?_
          rotate_left
          · intro w hw
            try dsimp only at hw
            go_simp
            try with_reducible rfl
          try simp only [Act.put, List.setIfInBounds_toArray, List.set_cons_zero, List.set_cons_succ]
          refine takeL (i := 5) (v := .agg (cy).toArray) rfl (by kernel_rfl) (by kernel_rfl) (by kernel_rfl) (fun _ _ _ h => h) (yieldsIf_load_mid (by kernel_rfl) 33 (.tmp 8) rfl gy 0 (by go_simp) (cy) _ (fun w hw => hw.2.1) Try.underlying33 rfl HSY.out) T1.out ?_
          try simp only [Act.put, List.setIfInBounds_toArray, List.set_cons_zero, List.set_cons_succ]
          refine takeL (i := 7) (v := .agg (cs).toArray) rfl (by kernel_rfl) (by kernel_rfl) (by kernel_rfl) (fun _ _ _ h => h) (yieldsIf_load_mid (by kernel_rfl) 33 (.tmp 3) rfl w.heap.size 0 (by go_simp) (cs) _ (fun w hw => hw.1) Try.underlying33 rfl HTS.out) T1.out ?_
          try simp only [Act.put, List.setIfInBounds_toArray, List.set_cons_zero, List.set_cons_succ]
          refine readyL (i := 6) rfl (by kernel_rfl) (by kernel_rfl) fun K hK => ?_
          go_simp
          refine (HTY.out V1 Y1.out).mono ?_
          rintro e V2 ⟨rfl, hb⟩
          simp only []
          have X2 := Lib.hid (X1.out.below hb)
          have Y2 := Lib.hid (Y1.out.below hb)
          have Z2 := Lib.hid (Z1.out.below hb)
          have BB2 := Lib.hid (BB1.out.trans (hb.mono BB1.out.size))
          have T2 := Lib.hid (HS3.out _ X2.out.row Y2.out.row Z2.out.row)
          clear hb
          refine hK.out _ _ T2.out ?_
          clear hK K
          try simp only [Act.put, List.setIfInBounds_toArray, List.set_cons_zero, List.set_cons_succ]
          refine readyL (i := 8) rfl (by kernel_rfl) (by kernel_rfl) fun K hK => ?_
          go_simp
          refine (HTX.out V2 X2.out).mono ?_
          rintro e V3 ⟨rfl, hb⟩
          simp only []
          have X3 := Lib.hid (X2.out.below hb)
          have Y3 := Lib.hid (Y2.out.below hb)
          have Z3 := Lib.hid (Z2.out.below hb)
          have BB3 := Lib.hid (BB2.out.trans (hb.mono BB2.out.size))
          have T3 := Lib.hid (HS3.out _ X3.out.row Y3.out.row Z3.out.row)
          clear hb
          refine hK.out _ _ T3.out ?_
          clear hK K
          try simp only [Act.put, List.setIfInBounds_toArray, List.set_cons_zero, List.set_cons_succ]
          refine takeL (i := 9) (v := .int .i64 ((tt : Int) + 1)) rfl (by kernel_rfl) (by kernel_rfl) (by kernel_rfl) (fun _ _ _ h => h) (Or.inl ⟨by kernel_rfl, fun w hw => by (go_simp; try rw [WR1.out])⟩) T3.out ?_
          try simp only [Act.put, List.setIfInBounds_toArray, List.set_cons_zero, List.set_cons_succ]
          refine takeL (i := 10) (v := .bool true) rfl (by kernel_rfl) (by kernel_rfl) (by kernel_rfl) (fun _ _ _ h => h) (Or.inl ⟨by kernel_rfl, fun w hw => by go_simp⟩) T3.out ?_
          try simp only [Act.put, List.setIfInBounds_toArray, List.set_cons_zero, List.set_cons_succ]
          refine takeL (i := 11) (v := .bool true) rfl (by kernel_rfl) (by kernel_rfl) (by kernel_rfl) (fun _ _ _ h => h) (Or.inl ⟨by kernel_rfl, fun w hw => by go_simp⟩) T3.out ?_
          try simp only [Act.put, List.setIfInBounds_toArray, List.set_cons_zero, List.set_cons_succ]
          refine takeL (i := 12) (v := ?_) rfl (by kernel_rfl) (by kernel_rfl) (by kernel_rfl) (fun _ _ _ h => h) (Or.inl ⟨by rfl, ?_⟩) T3.out ?_
          rotate_left
          · intro w hw
            try dsimp only at hw
            go_simp
            try with_reducible rfl
          try simp only [Act.put, List.setIfInBounds_toArray, List.set_cons_zero, List.set_cons_succ]
          refine takeL (i := 13) (v := .agg (cz).toArray) rfl (by kernel_rfl) (by kernel_rfl) (by kernel_rfl) (fun _ _ _ h => h) (yieldsIf_load_mid (by kernel_rfl) 33 (.tmp 10) rfl gz 0 (by go_simp) (cz) _ (fun w hw => hw.2.2) Try.underlying33 rfl HSZ.out) T3.out ?_
          try simp only [Act.put, List.setIfInBounds_toArray, List.set_cons_zero, List.set_cons_succ]
          refine takeL (i := 16) (v := ?_) rfl (by kernel_rfl) (by kernel_rfl) (by kernel_rfl) (fun _ _ _ h => h) (Or.inl ⟨by rfl, ?_⟩) T3.out ?_
          rotate_left
          · intro w hw
            try dsimp only at hw
            go_simp
            try with_reducible rfl
          try simp only [Act.put, List.setIfInBounds_toArray, List.set_cons_zero, List.set_cons_succ]
          refine readyL (i := 14) rfl (by kernel_rfl) (by kernel_rfl) fun K hK => ?_
          go_simp
          refine (HCZ.out V3 Z3.out).mono ?_
          rintro e V4 ⟨rfl, hb⟩
          simp only []
          have X4 := Lib.hid (X3.out.below hb)
          have Y4 := Lib.hid (Y3.out.below hb)
          have Z4 := Lib.hid (Z3.out.below hb)
          have BB4 := Lib.hid (BB3.out.trans (hb.mono BB3.out.size))
          have T4 := Lib.hid (HS3.out _ X4.out.row Y4.out.row Z4.out.row)
          clear hb
          refine hK.out _ _ T4.out ?_
          clear hK K
          try simp only [Act.put, List.setIfInBounds_toArray, List.set_cons_zero, List.set_cons_succ]
          refine takeL (i := 15) (v := .bool mb) rfl (by kernel_rfl) (by kernel_rfl) (by kernel_rfl) (fun _ _ _ h => h) (Or.inl ⟨by kernel_rfl, fun w hw => by (go_simp; try rw [HMB.out])⟩) T4.out ?_
          try simp only [Act.put, List.setIfInBounds_toArray, List.set_cons_zero, List.set_cons_succ]
          refine takeL (i := 17) (v := .bool true) rfl (by kernel_rfl) (by kernel_rfl) (by kernel_rfl) (fun _ _ _ h => h) (Or.inl ⟨by kernel_rfl, fun w hw => by go_simp⟩) T4.out ?_
          try simp only [Act.put, List.setIfInBounds_toArray, List.set_cons_zero, List.set_cons_succ]
          refine takeL (i := 18) (v := .bool true) rfl (by kernel_rfl) (by kernel_rfl) (by kernel_rfl) (fun _ _ _ h => h) (Or.inl ⟨by kernel_rfl, fun w hw => by go_simp⟩) T4.out ?_
          try simp only [Act.put, List.setIfInBounds_toArray, List.set_cons_zero, List.set_cons_succ]
          refine takeL (i := 19) (v := ?_) rfl (by kernel_rfl) (by kernel_rfl) (by kernel_rfl) (fun _ _ _ h => h) (Or.inl ⟨by rfl, ?_⟩) T4.out ?_
          rotate_left
          · intro w hw
            try dsimp only at hw
            go_simp
            try with_reducible rfl
          try simp only [Act.put, List.setIfInBounds_toArray, List.set_cons_zero, List.set_cons_succ]
          refine readyL (i := 20) rfl (by kernel_rfl) (by kernel_rfl) fun K hK => ?_
          go_simp
          refine (lives5 V4).mono ?_
          rintro e V5 ⟨rfl, hb⟩
          simp only []
          have X5 := Lib.hid (X4.out.below hb)
          have Y5 := Lib.hid (Y4.out.below hb)
          have Z5 := Lib.hid (Z4.out.below hb)
          have BB5 := Lib.hid (BB4.out.trans (hb.mono BB4.out.size))
          have T5 := Lib.hid (HS3.out _ X5.out.row Y5.out.row Z5.out.row)
          clear hb
          refine hK.out _ _ T5.out ?_
          clear hK K
          try simp only [Act.put, List.setIfInBounds_toArray, List.set_cons_zero, List.set_cons_succ]
          refine takeL (i := 21) (v := .bool true) rfl (by kernel_rfl) (by kernel_rfl) (by kernel_rfl) (fun _ _ _ h => h) (Or.inl ⟨by kernel_rfl, fun w hw => by go_simp⟩) T5.out ?_
          try simp only [Act.put, List.setIfInBounds_toArray, List.set_cons_zero, List.set_cons_succ]
          refine takeL (i := 22) (v := ?_) rfl (by kernel_rfl) (by kernel_rfl) (by kernel_rfl) (fun _ _ _ h => h) (Or.inl ⟨by rfl, ?_⟩) T5.out ?_
          rotate_left
          · intro w hw
            try dsimp only at hw
            go_simp
            try with_reducible rfl
          try simp only [Act.put, List.setIfInBounds_toArray, List.set_cons_zero, List.set_cons_succ]
          refine wpAnyH_done (by kernel_rfl) ?_ _
          go_wp2_with fail
          go_ret
          exact ⟨rfl, BB5.out⟩
end Go.Proofs.Ytgdikmgmpleolaa
