/-
  Parts joined: PartsWalk11 TabsCells11 TablesWalk11.
-/
import Derived.Test.YtdgbodljmdcagaaGreatDoorChecked
import Derived.WalkKit
import Derived.LaidEql
import Derived.Stop.Asserts
import Derived.RowKitTokens
import Derived.Lib.IfaceEq
import Derived.Lib.Hide
import Derived.Below
import Derived.Laws.OwnMore
import Derived.Deep.AppendLies
import Derived.Deep.Draws
import Derived.Laws.MakeOwn
import Derived.Laws.CopyOwn
import Derived.Laws.Rows
import Derived.Maps.AppendAt
import Derived.OwnWalk
import Derived.Laws.BitsAllLaws
import Derived.Test.YtdgbodljmdcagaaGreatDoorRows
import Derived.WalkSpells
import Derived.WalkLawsBesides
import Derived.IntWalk
import Derived.Deep.QuietTactic
import Derived.BigQuiet
import Derived.Deep.MidRow
import Derived.Deep.WholeRow
import Derived.Great.BuildSlice
import Derived.Recover
import Derived.Deep.RegionHeld
import Derived.ChangeKeysEq
import Derived.Deep.RegionHeld2
import Derived.Deep.CutBlock
import Derived.Laws.Tables
import Derived.ProofKit
import Derived.OpenShut
import Derived.ShutString
import Derived.ChangeOld
import Derived.Lib.SmallJoins
import Derived.Deep.Slices
import Derived.Deep.Strs
import Derived.SizedLaws
import Derived.Laws.StructEq
import Derived.Laws.Slices
import Derived.Defers
import Derived.Deep.DeepCutAuto
import Derived.Laws.EntriesVeiled
import Derived.Deep.RegionHeld3
import Derived.Maps.OwnSet
import Derived.DeepKeys4
import Derived.WideKeyArr
import Derived.WideKeyEntry
import Derived.Shelf.SlMaps.Clone
import Derived.Lib.Mul64
import Derived.Laws.Bits64b
import Derived.Laws.Externs
import Derived.Lib.BitFns
import Derived.Shelf.Small.Bits
import Derived.Laws.NewBlocks
import Derived.Laws.Append
import Derived.Laws.AppendOwn
import Derived.RangeFuncNested
import Derived.RangeFuncBound
import Derived.RangeFuncCalls
import Derived.RangeFuncLeaves
import Derived.Shelf.Abstract
import Derived.Shelf.RegionOpen
import Derived.OwnWalkIn
import Derived.TacticsInMore
import Derived.LoopNIn
import Derived.LoopIn
import Derived.LaidMore
import Derived.Deep.RegionWith
import Derived.Test.YtdgbodljmdcagaaGreatDoorA1
import Derived.Test.YtdgbodljmdcagaaGreatDoorA2
import Derived.Test.YtdgbodljmdcagaaGreatDoorA3
import Derived.Test.YtdgbodljmdcagaaGreatDoorA4
import Derived.Test.YtdgbodljmdcagaaGreatDoorA5
import Derived.Test.YtdgbodljmdcagaaGreatDoorA6
import Derived.Test.YtdgbodljmdcagaaGreatDoorA7
import Derived.Test.YtdgbodljmdcagaaGreatDoorA8
import Derived.Test.YtdgbodljmdcagaaGreatDoorA9
import Derived.Test.YtdgbodljmdcagaaGreatDoorA10
import Derived.Test.YtdgbodljmdcagaaGreatDoorA11
import Derived.Test.YtdgbodljmdcagaaGreatDoorA12
import Derived.Test.YtdgbodljmdcagaaGreatDoorA13
import Derived.Test.YtdgbodljmdcagaaGreatDoorA14
/-
  Of part PartsWalk11: what is needed here.
-/
set_option linter.unusedSimpArgs false
namespace Go.Proofs.YtdgbodljmdcagaaGreatDoor
open Go.RowKit
set_option linter.unusedVariables false
set_option maxRecDepth 100000
/-- the cells that the statement reads -/
structure PC11 (CX : List Value) (q : YRaw) (x : LReady) (n : Nat) : Prop where
  c0 : CX[0]? = some (.slice q.BA n q.bc)
  c1 : CX[1]? = some (.slice q.t.SA q.t.sn q.t.sc)
  c41 : CX[41]? = some (.slice q.RA q.rn q.rc)
  c42 : CX[42]? = some (.int .u64 x.u)
  c45 : CX[45]? = some (.int .u64 x.fee)
  c46 : CX[46]? = some (.int .u64 x.cost)
  c47 : CX[47]? = some (.int .u64 x.pri)
theorem PC11.of {q : YRaw} {x : LReady} {n : Nat} (h : x.tx.m.recent.length = 32) (hn : q.bn = n) : PC11 (q.cells x) q x n := by
  subst hn
  exact ⟨rfl, ycells_t (j := 0) rfl, (ycells_41 h 0).trans rfl, (ycells_41 h 1).trans rfl, (ycells_41 h 4).trans rfl, (ycells_41 h 5).trans rfl, (ycells_41 h 6).trans rfl⟩
set_option maxRecDepth 100000 in
set_option maxHeartbeats 16000000 in
theorem parts_walk11 (A TA : Option Addr) (n c tn tc : Nat) (zs : List Int) (l : List LTab) (w : World) (hs : Sees w w.heap.size A n (bv zs)) (hnc : n ≤ c) (hc : c ≤ maxLen) (hz : AllBytes zs) (ht : TabsIn w w.heap.size TA tn l) (htm : tn ≤ maxLen) (hok : ∀ t ∈ l, TabOk11 t) (hl : LenAt w) :
    Calls Tryz.prog 5 #[.slice A n c, .slice TA tn tc] w fun e w' => e = .returned (.bool true) ∧ Below w.heap.size w w' := by
  have hzn : zs.length = n := by have := hs.len; rwa [bv_length] at this
  have HLE := Lib.hid (fun (V : World) (hb : Below w.heap.size w V) => hl.below hb hl.pos)
  have HS := Lib.hid (fun (V : World) (hb : Below w.heap.size w V) => hs.below hb)
  have HNC := Lib.hid (And.intro hnc hc)
  have HZ := Lib.hid hz
  have HT := Lib.hid ht
  have HOK := Lib.hid hok
  have HTS : Hid (TsB11 (laidT [] l)) := Lib.hid (tsB_laid l tsB_nil fun t h => (hok t h).keys)
  have HGR := Lib.hid (great11 A TA n c tn tc w.heap.size l w ht htm)
  clear hs hnc hc hz ht hok hl
  by_cases hg : (decide (5000 < n) || decide (20 < tn) || isGreat11 l) = true
  · rw [hg] at HGR
    clear hg
    go_enter Tryz.func5, Tryz.ntmps5
    go_wp2_with (go_at_call 8; refine HGR.out.mono ?_; rintro e w' ⟨rfl, hw⟩; obtain rfl := hw.symm)
    refine (lives11 _ (HLE.out _ (Below.refl _ _))).mono ?_
    rintro e w2 ⟨rfl, hb⟩
    have HB := Lib.hid hb
    clear hb
    go_wp2_with fail
    go_ret
    exact ⟨rfl, HB.out⟩
  have hg : (decide (5000 < n) || decide (20 < tn) || isGreat11 l) = false := by simpa using hg
  rw [hg] at HGR
  have hn5 : n ≤ 5000 ∧ tn ≤ 20 := by
    simp only [Bool.or_eq_false_iff, decide_eq_false_iff_not] at hg
    omega
  obtain ⟨hn5, ht20⟩ := hn5
  clear hg
  go_enter Tryz.func5, Tryz.ntmps5
  go_wp2_with (go_at_call 8; refine HGR.out.mono ?_; rintro e w' ⟨rfl, hw⟩; obtain rfl := hw.symm)
  refine (laid11 TA tn tc w.heap.size l w HT.out (Nat.le_refl _) HOK.out (by omega)).mono ?_
  rintro e w1 ⟨rb, mb, pb, v, rfl, hst⟩
  have L1 := Lib.hid hst
  clear hst HGR
  go_wp2_with fail
  obtain ⟨nr, _, hrg⟩ := L1.out.r
  refine (of11 rb mb _ nr _ A n c w.heap.size zs w1 hrg HTS.out (HS.out _ L1.out.b) L1.out.b.size HNC.out.1 HNC.out.2 HZ.out (HLE.out _ L1.out.b)).mono ?_
  rintro e w2 ⟨q, rfl, hv, hb2⟩
  have HXL := Lib.hid (ycells_len (q := q) hv.is.tx.m.recent)
  have HX1 := Lib.hid (ycells_one (q := q) (x := rdX (laidT [] l) zs))
  have HXS := Lib.hid (show (Tryz.prog.info? 48).map (·.size) = some (q.cells (rdX (laidT [] l) zs)).length by rw [HXL.out]; exact size_ready)
  have BW2 := Lib.hid (L1.out.b.trans (hb2.mono L1.out.b.size))
  have HVI := Lib.hid hv
  clear hv hb2 hrg L1
  by_cases he : rdErr (laidT [] l) zs = 0
  · obtain ⟨hw0, _, _⟩ := rdErr_zero he
    obtain ⟨tx, htx1, htx2, htx3⟩ := wErr_zero HZ.out hw0
    have hgot := got11 HZ.out htx1
    have few := few11 hgot
    have hlen := rdRoles_len he
    have hmost := rdRoles_most HZ.out he
    have hxx := rdX_ok he
    rw [htx3] at hlen hxx
    obtain ⟨lr, hlr⟩ : ∃ lr, lr = rdRoles (laidT [] l) zs := ⟨_, rfl⟩
    rw [← hlr] at hlen hxx hmost
    obtain ⟨x, hx⟩ : ∃ x, x = xReady zs tx lr := ⟨_, rfl⟩
    rw [← hx] at hxx
    rw [hxx] at HXL HX1 HXS HVI ⊢
    rw [he]
    have xtx : x.tx = tx := by rw [hx]; rfl
    have xlr : x.roles = lr := by rw [hx]; rfl
    have xby : x.bytes = zs := by rw [hx]; rfl
    have hre := HVI.out.is.tx.m.recent
    have hbn : q.bn = n := by have := HVI.out.is.bs.len; rw [bv_length, xby] at this; omega
    have hrn : q.rn = tot tx.m := by have := HVI.out.is.rs.len; rw [xlr] at this; omega
    have HC := Lib.hid (PC11.of (q := q) (x := x) hre hbn)
    have HCT : Hid (∀ j u, (q.t.cells x.tx)[j]? = some u → (q.cells x)[1 + j]? = some u) := Lib.hid fun j u hu => ycells_t hu
    have HCM : Hid (∀ j u, (q.t.q.cells x.tx.m)[j]? = some u → (q.cells x)[2 + j]? = some u) := Lib.hid fun j u hu => by
      have := ycells_t (q := q) (x := x) (j := 1 + j) ((tcells_m j).trans hu)
      rwa [← Nat.add_assoc] at this
    have HCB : Hid (∀ j u, ([.int .u64 x.u, .int .u64 x.p, .int .i64 x.bad] : List Value)[j]? = some u → (q.cells x)[42 + j]? = some u) := Lib.hid fun j u hu => by
      rw [show 42 + j = 41 + (j + 1) by omega, ycells_41 hre]
      have hj := (List.getElem?_eq_some_iff.1 hu).1
      rcases (show j = 0 ∨ j = 1 ∨ j = 2 by simp at hj; omega) with rfl | rfl | rfl <;> exact hu
    have HTS := Lib.hid (show (Tryz.prog.info? 42).map (·.size) = some (q.t.cells x.tx).length by rw [size_tx, tcells_len hre])
    have HMS := Lib.hid (show (Tryz.prog.info? 40).map (·.size) = some (q.t.q.cells x.tx.m).length by rw [size_msg, cells_len hre])
    have HBS := Lib.hid (size_bud x.u x.p x.bad)
    have hbe := bud_eql x.u x.p x.bad
    have HI2 : Hid (∀ V, Below w2.heap.size w2 V → TxIn V w2.heap.size q.t x.tx ∧ RolesIn V w2.heap.size q.RA q.rn x.roles ∧ Sees V w2.heap.size q.BA n (bv zs)) := Lib.hid fun V hb => by
      have h := HVI.out.is.below hb
      refine ⟨h.tx, h.rs, ?_⟩
      have := h.bs
      rw [hbn, xby] at this
      exact this
    have hsl := HVI.out.is.tx.sigs.len
    have hil := HVI.out.is.tx.m.ins.len
    have HPT := Lib.hid (fun (V : World) (hb : Below w2.heap.size w2 V) => putTx q.t x.tx w2.heap.size V (HI2.out V hb).1 hb.size (by rw [xtx]; have := few.sigs; omega) (by have h1 := hgot.put; rw [xtx]; unfold encTx at h1; simp only [List.length_append] at h1; omega))
    have HCK := Lib.hid (fun (V : World) (hb : Below w2.heap.size w2 V) => check_ q.t x.tx w2.heap.size V (HI2.out V hb).1 hb.size (by rw [xtx]; exact hgot.small) (by rw [xtx]; exact hgot.wf.m))
    rw [show chk x.tx = 0 by rw [xtx]; exact htx2] at HCK
    have HTO := Lib.hid (fun (V : World) (hb : Below w2.heap.size w2 V) => total_ q.t x.tx w2.heap.size V (HI2.out V hb).1 hb.size (by rw [xtx]; exact hgot.small))
    rw [show tot x.tx.m = q.rn by rw [xtx]; exact hrn.symm] at HTO
    have HBO := Lib.hid (fun (V : World) (hb : Below w2.heap.size w2 V) => ofB_ q.t.q x.tx.m w2.heap.size V (HI2.out V hb).1.m hb.size (fun i hi => by rw [xtx] at hi; exact ⟨(hgot.wf.m.ins i hi).1, (hgot.wf.m.ins i hi).2.2⟩) (by have := few.ins; rw [xtx] at hil; omega) (HLE.out V (BW2.out.trans (hb.mono BW2.out.size))))
    have E1 : Hid (bud8 (all8 x.tx.m.keys x.tx.m.ins) = [.int .u64 x.u, .int .u64 x.p, .int .i64 x.bad]) := Lib.hid (by rw [hx]; rfl)
    rw [E1.out] at HBO
    have hu : Word x.u := by rw [hx]; exact few.uw
    have hp : Word x.p := by rw [hx]; exact few.p
    have hst : x.tx.sigs.length ≤ 1232 := by rw [xtx]; exact few.sigs
    have HFE := Lib.hid (fun (V : World) => fee_ (q.t.sn : Int) x.u x.p x.bad V (by omega) (by rw [← hsl]; omega) hu hp)
    have E3 : Hid (fee10 (q.t.sn : Int) x.p x.u = x.fee) := Lib.hid (by rw [← hsl, hx]; rfl)
    rw [E3.out] at HFE
    have HWR := Lib.hid (fun (V : World) (hb : Below w2.heap.size w2 V) => written_ q.RA q.rn q.rc w2.heap.size x.roles V (HI2.out V hb).2.1 hb.size (by rw [hrn, ← hlen]; omega))
    have HCO := Lib.hid (fun (V : World) (hb : Below w2.heap.size w2 V) => cost_ (q.t.cells x.tx) q.t.sn q.t.q.n q.t.SA q.t.q.IA q.t.sc q.t.q.ic w2.heap.size x.tx.m.ins ((wrK x.roles).length : Int) x.u V (tcells_len hre) rfl ((tcells_m 37).trans (cells_37 hre)) (HI2.out V hb).1.m.ins hb.size (by omega) (by have := few.ins; rw [← hil, xtx]; omega) (by have := few.dat; rw [xtx]; omega) (by omega) (by have := wrK_le x.roles; rw [xlr] at this ⊢; omega) hu)
    have E2 : Hid (cost9 q.t.sn (dat9 x.tx.m.ins) ((wrK x.roles).length : Int) x.u = x.cost) := Lib.hid (by rw [← hsl, hx]; rfl)
    rw [E2.out] at HCO
    have hcw : Word x.cost := by rw [hx]; exact few.cost _ (by omega)
    have HPR := Lib.hid (fun (V : World) => pri_ (q.t.sn : Int) x.u x.p x.bad x.cost V (by omega) (by rw [← hsl]; omega) hu hp hcw)
    have E4 : Hid (pri10 (q.t.sn : Int) x.p x.u x.cost = x.pri) := Lib.hid (by rw [← hsl, hx]; rfl)
    rw [E4.out] at HPR
    have hwl : ((wrK x.roles).length : Int) ≤ 64 := by have := wrK_le x.roles; rw [xlr] at this ⊢; omega
    have HEZ : Hid (encTx x.tx = zs) := Lib.hid (by rw [xtx]; exact hgot.is.symm)
    have HFT : Hid (Fits x.tx.m ∧ (encTx x.tx).length ≤ 1232) := Lib.hid (by rw [xtx]; exact ⟨hgot.fits.2, hgot.put⟩)
    unfold bud10 at HFE HPR
    clear hx xtx xlr xby hre hbn hrn hlen hmost hxx few hgot htx1 htx2 htx3 hw0 he hlr hu hp hst hcw hsl hil E1 E2 E3 E4 HVI
    generalize q.cells x = ys at *
    go_upto_region 5 with ((with_reducible show wpList _ _ _ ({ dst := none, op := Op.store 48 (.tmp 7) _, type := _, pos := _, after := _, guard := _ } :: _) _ _); go_must (refine wpList_store_new rfl 48 (.tmp 7) (.tmp 25) rfl ys HXS.out HX1.out (by rw [HXL.out]; rfl) ?_ ?_ ?_; go_simp; go_simp; intro w3 hr hb hz0))
    have R3 := Lib.hid hr
    have B3 := Lib.hid hb
    clear hr hb hz0
    go_wp2_with ((with_reducible show wpList _ _ _ ({ dst := some 37, op := Op.load _ _, type := _, pos := _, after := _, guard := _ } :: _) _ _); go_must (refine wpList_load_at rfl 42 (.tmp 36) rfl ⟨w2.heap.size, 1, none⟩ (q.t.cells x.tx) _ Tryz.underlying42 rfl HTS.out (fun j u hu => by rw [addr_row]; exact (R3.out.cell (1 + j)).trans (HCT.out j u hu)) ?_ ?_; go_simp))
    refine (HPT.out w3 B3.out).mono ?_
    rintro e w4 (⟨hnf, _⟩ | ⟨_, hgt, _⟩ | ⟨_, _, ⟨vc, rfl, hvc⟩, hb4⟩)
    · exact absurd HFT.out.1 hnf
    · exact absurd HFT.out.2 (by omega)
    have hvc' : w4.ownsRow w3.heap.size 5 1 vc (encTx x.tx).length (bv (encTx x.tx)) := hvc
    rw [HEZ.out] at hvc'
    obtain ⟨CA, cc, rfl, hc1, hc2, hc3, _⟩ := own_form2 hvc'
    rw [Nat.mul_one] at hc1
    rw [hzn] at hc1 hc2
    have HCS : Hid (∀ V, Below w4.heap.size w4 V → Sees V V.heap.size CA n (bv zs)) := Lib.hid fun V hb => (hc1.below hb).more hb.size
    have HCN := Lib.hid (And.intro hc2 hc3)
    have R4 := Lib.hid (R3.out.below hb4 R3.out.lt)
    have B4 := Lib.hid (B3.out.trans (hb4.mono B3.out.size))
    clear hvc hvc' hc1 hc2 hc3 hb4 R3 B3 HPT
    have hmn : zs.length ≤ maxLen ∧ n ≤ maxLen := by unfold maxLen; omega
    have B44 : Hid (Below w4.heap.size w4 w4) := Lib.hid (Below.refl _ _)
    have f1 : w4.cell? ⟨w2.heap.size, 1, none⟩ = some (.slice q.t.SA q.t.sn q.t.sc) := (R4.out.cell 1).trans HC.out.c1
    go_upto_region 9 with fail
    clear f1
    dsimp only [List.append]
    have HS0 := Lib.hid (Low11.row (K := 48) R4.out.drew)
    have R5 := Lib.hid R4.out.drew
    have B5 := Lib.hid (B4.out.drew)
    have BB5 : Hid (Below w4.heap.size w4 w4.drew) := Lib.hid (Below.refl _ _).drew
    refine wp_region_held_drew (S := Low11 w2.heap.size 48 ys) (by kernel_rfl) HS0.out (fun _ => ?_)
    obtain ⟨w5, hw5⟩ : ∃ u, u = w4.drew := ⟨_, rfl⟩
    rw [← hw5] at HS0 R5 B5 BB5 ⊢
    clear hw5 R4 B4
    refine takeL (i := 0) (v := ?_) rfl (by kernel_rfl) (by kernel_rfl) (by kernel_rfl) (fun _ _ _ h => h) (Or.inl ⟨by rfl, ?_⟩) HS0.out ?_
    rotate_left
    · intro wz hwz
      go_simp
      try with_reducible rfl
    try simp only [Act.put, List.setIfInBounds_toArray, List.set_cons_zero, List.set_cons_succ]
    refine takeL (i := 1) (v := ?_) rfl (by kernel_rfl) (by kernel_rfl) (by kernel_rfl) (fun _ _ _ h => h) (Or.inl ⟨by rfl, ?_⟩) HS0.out ?_
    rotate_left
    · intro wz hwz
      go_simp
      try with_reducible rfl
    try simp only [Act.put, List.setIfInBounds_toArray, List.set_cons_zero, List.set_cons_succ]
    refine takeL (i := 2) (v := ?_) rfl (by kernel_rfl) (by kernel_rfl) (by kernel_rfl) (fun _ _ _ h => h) (Or.inl ⟨by rfl, ?_⟩) HS0.out ?_
    rotate_left
    · intro wz hwz
      go_simp
      try with_reducible rfl
    try simp only [Act.put, List.setIfInBounds_toArray, List.set_cons_zero, List.set_cons_succ]
    refine takeL (i := 3) (v := ?_) rfl (by kernel_rfl) (by kernel_rfl) (by kernel_rfl) (fun _ _ _ h => h) (Or.inl ⟨by rfl, ?_⟩) HS0.out ?_
    rotate_left
    · intro wz hwz
      go_simp
      try with_reducible rfl
    try simp only [Act.put, List.setIfInBounds_toArray, List.set_cons_zero, List.set_cons_succ]
    refine takeL (i := 4) (v := ?_) rfl (by kernel_rfl) (by kernel_rfl) (by kernel_rfl) (fun _ _ _ h => h) (Or.inl ⟨by rfl, ?_⟩) HS0.out ?_
    rotate_left
    · intro wz hwz
      go_simp
      try with_reducible rfl
    try simp only [Act.put, List.setIfInBounds_toArray, List.set_cons_zero, List.set_cons_succ]
    refine readyL (i := 5) rfl (by kernel_rfl) (by kernel_rfl) fun K hK => ?_
    go_simp
    refine (sameBytes CA A n n cc c zs zs w5 w5.heap.size w.heap.size (HCS.out w5 BB5.out) (HS.out w5 (BW2.out.trans (B5.out.mono BW2.out.size))) (by have := HCN.out; omega) (by omega)).mono ?_
    rintro e w6 ⟨rfl, kk, hwk⟩
    simp only [decide_true]
    have hb : Below w5.heap.size w5 w6 := by rw [hwk]; exact below_drewN (Below.refl _ _) kk
    clear hwk
    have R6 := Lib.hid (R5.out.below hb R5.out.lt)
    have B6 := Lib.hid (B5.out.trans (hb.mono B5.out.size))
    have BB6 := Lib.hid (BB5.out.trans (hb.mono BB5.out.size))
    have HS6 := Lib.hid (Low11.row (K := 48) R6.out)
    clear hb R5 B5 BB5 HS0
    refine hK.out _ _ HS6.out ?_
    clear hK K
    try simp only [Act.put, List.setIfInBounds_toArray, List.set_cons_zero, List.set_cons_succ]
    refine takeL (i := 6) (v := ?_) rfl (by kernel_rfl) (by kernel_rfl) (by kernel_rfl) (fun _ _ _ h => h) (Or.inl ⟨by rfl, ?_⟩) HS6.out ?_
    rotate_left
    · intro wz hwz
      go_simp
      try with_reducible rfl
    try simp only [Act.put, List.setIfInBounds_toArray, List.set_cons_zero, List.set_cons_succ]
    refine takeL (i := 7) (v := ?_) rfl (by kernel_rfl) (by kernel_rfl) (by kernel_rfl) (fun _ _ _ h => h) (Or.inl ⟨by rfl, ?_⟩) HS6.out ?_
    rotate_left
    · intro wz hwz
      go_simp
      try with_reducible rfl
    try simp only [Act.put, List.setIfInBounds_toArray, List.set_cons_zero, List.set_cons_succ]
    refine takeL (i := 8) (v := ?_) rfl (by kernel_rfl) (by kernel_rfl) (by kernel_rfl) (fun _ _ _ h => h) (Or.inl ⟨by rfl, ?_⟩) HS6.out ?_
    rotate_left
    · intro wz hwz
      go_simp
      try with_reducible rfl
    try simp only [Act.put, List.setIfInBounds_toArray, List.set_cons_zero, List.set_cons_succ]
    refine takeL (i := 9) (v := ?_) rfl (by kernel_rfl) (by kernel_rfl) (by kernel_rfl) (fun _ _ _ h => h) (Or.inl ⟨by rfl, ?_⟩) HS6.out ?_
    rotate_left
    · intro wz hwz
      have f0 : wz.cell? ⟨w2.heap.size, 0, none⟩ = some (.slice q.BA n q.bc) := hwz 0 _ (by omega) HC.out.c0
      go_simp
      try with_reducible rfl
    try simp only [Act.put, List.setIfInBounds_toArray, List.set_cons_zero, List.set_cons_succ]
    refine takeL (i := 10) (v := ?_) rfl (by kernel_rfl) (by kernel_rfl) (by kernel_rfl) (fun _ _ _ h => h) (Or.inl ⟨by rfl, ?_⟩) HS6.out ?_
    rotate_left
    · intro wz hwz
      go_simp
      try with_reducible rfl
    try simp only [Act.put, List.setIfInBounds_toArray, List.set_cons_zero, List.set_cons_succ]
    refine readyL (i := 11) rfl (by kernel_rfl) (by kernel_rfl) fun K hK => ?_
    go_simp
    refine (sameBytes q.BA A n n q.bc c zs zs w6 w6.heap.size w.heap.size ((HI2.out w6 B6.out).2.2.more B6.out.size) (HS.out w6 (BW2.out.trans (B6.out.mono BW2.out.size))) (by omega) (by omega)).mono ?_
    rintro e w7 ⟨rfl, kk, hwk⟩
    simp only [decide_true]
    have hb : Below w6.heap.size w6 w7 := by rw [hwk]; exact below_drewN (Below.refl _ _) kk
    clear hwk
    have R7 := Lib.hid (R6.out.below hb R6.out.lt)
    have B7 := Lib.hid (B6.out.trans (hb.mono B6.out.size))
    have BB7 := Lib.hid (BB6.out.trans (hb.mono BB6.out.size))
    have HS7 := Lib.hid (Low11.row (K := 48) R7.out)
    clear hb R6 B6 BB6 HS6
    refine hK.out _ _ HS7.out ?_
    clear hK K
    try simp only [Act.put, List.setIfInBounds_toArray, List.set_cons_zero, List.set_cons_succ]
    refine takeL (i := 12) (v := ?_) rfl (by kernel_rfl) (by kernel_rfl) (by kernel_rfl) (fun _ _ _ h => h) (Or.inl ⟨by rfl, ?_⟩) HS7.out ?_
    rotate_left
    · intro wz hwz
      go_simp
      try with_reducible rfl
    try simp only [Act.put, List.setIfInBounds_toArray, List.set_cons_zero, List.set_cons_succ]
    refine takeL (i := 13) (v := ?_) rfl (by kernel_rfl) (by kernel_rfl) (by kernel_rfl) (fun _ _ _ h => h) (Or.inl ⟨by rfl, ?_⟩) HS7.out ?_
    rotate_left
    · intro wz hwz
      go_simp
      try with_reducible rfl
    try simp only [Act.put, List.setIfInBounds_toArray, List.set_cons_zero, List.set_cons_succ]
    refine takeL (i := 14) (v := ?_) rfl (by kernel_rfl) (by kernel_rfl) (by kernel_rfl) (fun _ _ _ h => h) (Or.inl ⟨by rfl, ?_⟩) HS7.out ?_
    rotate_left
    · intro wz hwz
      go_simp
      try with_reducible rfl
    try simp only [Act.put, List.setIfInBounds_toArray, List.set_cons_zero, List.set_cons_succ]
    refine takeL (i := 15) (v := .agg (q.t.cells x.tx).toArray) rfl (by kernel_rfl) (by kernel_rfl) (by kernel_rfl) (fun _ _ _ h => h) (Or.inl ⟨by rfl, fun wz hwz => exec_load_at wz 42 (.tmp 59) rfl ⟨w2.heap.size, 1, none⟩ (q.t.cells x.tx) _ Tryz.underlying42 rfl HTS.out (fun j u hu => by have hb := (List.getElem?_eq_some_iff.1 (HCT.out j u hu)).1; rw [addr_row]; exact hwz (1 + j) u (by have := HXL.out; omega) (HCT.out j u hu)) (by go_simp)⟩) HS7.out ?_
    try simp only [Act.put, List.setIfInBounds_toArray, List.set_cons_zero, List.set_cons_succ]
    refine readyL (i := 16) rfl (by kernel_rfl) (by kernel_rfl) fun K hK => ?_
    go_simp
    refine (HCK.out w7 B7.out).mono ?_
    rintro e w8 ⟨rfl, hb⟩
    have R8 := Lib.hid (R7.out.below hb R7.out.lt)
    have B8 := Lib.hid (B7.out.trans (hb.mono B7.out.size))
    have BB8 := Lib.hid (BB7.out.trans (hb.mono BB7.out.size))
    have HS8 := Lib.hid (Low11.row (K := 48) R8.out)
    clear hb R7 B7 BB7 HS7
    refine hK.out _ _ HS8.out ?_
    clear hK K
    try simp only [Act.put, List.setIfInBounds_toArray, List.set_cons_zero, List.set_cons_succ]
    refine takeL (i := 17) (v := ?_) rfl (by kernel_rfl) (by kernel_rfl) (by kernel_rfl) (fun _ _ _ h => h) (Or.inl ⟨by rfl, ?_⟩) HS8.out ?_
    rotate_left
    · intro wz hwz
      go_simp
      try with_reducible rfl
    try simp only [Act.put, List.setIfInBounds_toArray, List.set_cons_zero, List.set_cons_succ]
    refine takeL (i := 18) (v := ?_) rfl (by kernel_rfl) (by kernel_rfl) (by kernel_rfl) (fun _ _ _ h => h) (Or.inl ⟨by rfl, ?_⟩) HS8.out ?_
    rotate_left
    · intro wz hwz
      go_simp
      try with_reducible rfl
    try simp only [Act.put, List.setIfInBounds_toArray, List.set_cons_zero, List.set_cons_succ]
    refine takeL (i := 19) (v := ?_) rfl (by kernel_rfl) (by kernel_rfl) (by kernel_rfl) (fun _ _ _ h => h) (Or.inl ⟨by rfl, ?_⟩) HS8.out ?_
    rotate_left
    · intro wz hwz
      go_simp
      try with_reducible rfl
    try simp only [Act.put, List.setIfInBounds_toArray, List.set_cons_zero, List.set_cons_succ]
    refine takeL (i := 20) (v := ?_) rfl (by kernel_rfl) (by kernel_rfl) (by kernel_rfl) (fun _ _ _ h => h) (Or.inl ⟨by rfl, ?_⟩) HS8.out ?_
    rotate_left
    · intro wz hwz
      go_simp
      try with_reducible rfl
    try simp only [Act.put, List.setIfInBounds_toArray, List.set_cons_zero, List.set_cons_succ]
    refine takeL (i := 21) (v := ?_) rfl (by kernel_rfl) (by kernel_rfl) (by kernel_rfl) (fun _ _ _ h => h) (Or.inl ⟨by rfl, ?_⟩) HS8.out ?_
    rotate_left
    · intro wz hwz
      have f41 : wz.cell? ⟨w2.heap.size, 41, none⟩ = some (.slice q.RA q.rn q.rc) := hwz 41 _ (by omega) HC.out.c41
      go_simp
      try with_reducible rfl
    try simp only [Act.put, List.setIfInBounds_toArray, List.set_cons_zero, List.set_cons_succ]
    refine takeL (i := 22) (v := ?_) rfl (by kernel_rfl) (by kernel_rfl) (by kernel_rfl) (fun _ _ _ h => h) (Or.inl ⟨by rfl, ?_⟩) HS8.out ?_
    rotate_left
    · intro wz hwz
      go_simp
      try with_reducible rfl
    try simp only [Act.put, List.setIfInBounds_toArray, List.set_cons_zero, List.set_cons_succ]
    refine takeL (i := 23) (v := ?_) rfl (by kernel_rfl) (by kernel_rfl) (by kernel_rfl) (fun _ _ _ h => h) (Or.inl ⟨by rfl, ?_⟩) HS8.out ?_
    rotate_left
    · intro wz hwz
      go_simp
      try with_reducible rfl
    try simp only [Act.put, List.setIfInBounds_toArray, List.set_cons_zero, List.set_cons_succ]
    refine takeL (i := 24) (v := .agg (q.t.cells x.tx).toArray) rfl (by kernel_rfl) (by kernel_rfl) (by kernel_rfl) (fun _ _ _ h => h) (Or.inl ⟨by rfl, fun wz hwz => exec_load_at wz 42 (.tmp 68) rfl ⟨w2.heap.size, 1, none⟩ (q.t.cells x.tx) _ Tryz.underlying42 rfl HTS.out (fun j u hu => by have hb := (List.getElem?_eq_some_iff.1 (HCT.out j u hu)).1; rw [addr_row]; exact hwz (1 + j) u (by have := HXL.out; omega) (HCT.out j u hu)) (by go_simp)⟩) HS8.out ?_
    try simp only [Act.put, List.setIfInBounds_toArray, List.set_cons_zero, List.set_cons_succ]
    refine readyL (i := 25) rfl (by kernel_rfl) (by kernel_rfl) fun K hK => ?_
    go_simp
    refine (HTO.out w8 B8.out).mono ?_
    rintro e w9 ⟨rfl, hb⟩
    have R9 := Lib.hid (R8.out.below hb R8.out.lt)
    have B9 := Lib.hid (B8.out.trans (hb.mono B8.out.size))
    have BB9 := Lib.hid (BB8.out.trans (hb.mono BB8.out.size))
    have HS9 := Lib.hid (Low11.row (K := 48) R9.out)
    clear hb R8 B8 BB8 HS8
    refine hK.out _ _ HS9.out ?_
    clear hK K
    try simp only [Act.put, List.setIfInBounds_toArray, List.set_cons_zero, List.set_cons_succ]
    refine takeL (i := 26) (v := ?_) rfl (by kernel_rfl) (by kernel_rfl) (by kernel_rfl) (fun _ _ _ h => h) (Or.inl ⟨by rfl, ?_⟩) HS9.out ?_
    rotate_left
    · intro wz hwz
      go_simp
      try with_reducible rfl
    try simp only [Act.put, List.setIfInBounds_toArray, List.set_cons_zero, List.set_cons_succ]
    refine takeL (i := 27) (v := ?_) rfl (by kernel_rfl) (by kernel_rfl) (by kernel_rfl) (fun _ _ _ h => h) (Or.inl ⟨by rfl, ?_⟩) HS9.out ?_
    rotate_left
    · intro wz hwz
      go_simp
      try with_reducible rfl
    try simp only [Act.put, List.setIfInBounds_toArray, List.set_cons_zero, List.set_cons_succ]
    refine takeL (i := 28) (v := ?_) rfl (by kernel_rfl) (by kernel_rfl) (by kernel_rfl) (fun _ _ _ h => h) (Or.inl ⟨by rfl, ?_⟩) HS9.out ?_
    rotate_left
    · intro wz hwz
      go_simp
      try with_reducible rfl
    try simp only [Act.put, List.setIfInBounds_toArray, List.set_cons_zero, List.set_cons_succ]
    refine takeL (i := 29) (v := ?_) rfl (by kernel_rfl) (by kernel_rfl) (by kernel_rfl) (fun _ _ _ h => h) (Or.inl ⟨by rfl, ?_⟩) HS9.out ?_
    rotate_left
    · intro wz hwz
      go_simp
      try with_reducible rfl
    try simp only [Act.put, List.setIfInBounds_toArray, List.set_cons_zero, List.set_cons_succ]
    refine takeL (i := 30) (v := .agg ([.int .u64 x.u, .int .u64 x.p, .int .i64 x.bad] : List Value).toArray) rfl (by kernel_rfl) (by kernel_rfl) (by kernel_rfl) (fun _ _ _ h => h) (Or.inl ⟨by rfl, fun wz hwz => exec_load_at wz 46 (.tmp 74) rfl ⟨w2.heap.size, 42, none⟩ [.int .u64 x.u, .int .u64 x.p, .int .i64 x.bad] _ Tryz.underlying46 rfl HBS.out (fun j u hu => by have hb := (List.getElem?_eq_some_iff.1 (HCB.out j u hu)).1; rw [addr_row]; exact hwz (42 + j) u (by have := HXL.out; omega) (HCB.out j u hu)) (by go_simp)⟩) HS9.out ?_
    try simp only [Act.put, List.setIfInBounds_toArray, List.set_cons_zero, List.set_cons_succ]
    refine takeL (i := 31) (v := ?_) rfl (by kernel_rfl) (by kernel_rfl) (by kernel_rfl) (fun _ _ _ h => h) (Or.inl ⟨by rfl, ?_⟩) HS9.out ?_
    rotate_left
    · intro wz hwz
      go_simp
      try with_reducible rfl
    try simp only [Act.put, List.setIfInBounds_toArray, List.set_cons_zero, List.set_cons_succ]
    refine takeL (i := 32) (v := ?_) rfl (by kernel_rfl) (by kernel_rfl) (by kernel_rfl) (fun _ _ _ h => h) (Or.inl ⟨by rfl, ?_⟩) HS9.out ?_
    rotate_left
    · intro wz hwz
      go_simp
      try with_reducible rfl
    try simp only [Act.put, List.setIfInBounds_toArray, List.set_cons_zero, List.set_cons_succ]
    refine takeL (i := 33) (v := .agg (q.t.q.cells x.tx.m).toArray) rfl (by kernel_rfl) (by kernel_rfl) (by kernel_rfl) (fun _ _ _ h => h) (Or.inl ⟨by rfl, fun wz hwz => exec_load_at wz 40 (.tmp 77) rfl ⟨w2.heap.size, 2, none⟩ (q.t.q.cells x.tx.m) _ Tryz.underlying40 rfl HMS.out (fun j u hu => by have hb := (List.getElem?_eq_some_iff.1 (HCM.out j u hu)).1; rw [addr_row]; exact hwz (2 + j) u (by have := HXL.out; omega) (HCM.out j u hu)) (by go_simp)⟩) HS9.out ?_
    try simp only [Act.put, List.setIfInBounds_toArray, List.set_cons_zero, List.set_cons_succ]
    refine readyL (i := 34) rfl (by kernel_rfl) (by kernel_rfl) fun K hK => ?_
    go_simp
    refine (HBO.out w9 B9.out).mono ?_
    rintro e w10 ⟨rfl, hb⟩
    have R10 := Lib.hid (R9.out.below hb R9.out.lt)
    have B10 := Lib.hid (B9.out.trans (hb.mono B9.out.size))
    have BB10 := Lib.hid (BB9.out.trans (hb.mono BB9.out.size))
    have HS10 := Lib.hid (Low11.row (K := 48) R10.out)
    clear hb R9 B9 BB9 HS9
    refine hK.out _ _ HS10.out ?_
    clear hK K
    try simp only [Act.put, List.setIfInBounds_toArray, List.set_cons_zero, List.set_cons_succ]
    refine takeL (i := 35) (v := ?_) rfl (by kernel_rfl) (by kernel_rfl) (by kernel_rfl) (fun _ _ _ h => h) (Or.inl ⟨by rfl, ?_⟩) HS10.out ?_
    rotate_left
    · intro wz hwz
      go_simp
      try with_reducible rfl
    try simp only [Act.put, List.setIfInBounds_toArray, List.set_cons_zero, List.set_cons_succ]
    refine takeL (i := 36) (v := ?_) rfl (by kernel_rfl) (by kernel_rfl) (by kernel_rfl) (fun _ _ _ h => h) (Or.inl ⟨by rfl, ?_⟩) HS10.out ?_
    rotate_left
    · intro wz hwz
      go_simp
      try with_reducible rfl
    try simp only [Act.put, List.setIfInBounds_toArray, List.set_cons_zero, List.set_cons_succ]
    refine takeL (i := 37) (v := ?_) rfl (by kernel_rfl) (by kernel_rfl) (by kernel_rfl) (fun _ _ _ h => h) (Or.inl ⟨by rfl, ?_⟩) HS10.out ?_
    rotate_left
    · intro wz hwz
      go_simp
      try with_reducible rfl
    try simp only [Act.put, List.setIfInBounds_toArray, List.set_cons_zero, List.set_cons_succ]
    refine takeL (i := 38) (v := ?_) rfl (by kernel_rfl) (by kernel_rfl) (by kernel_rfl) (fun _ _ _ h => h) (Or.inl ⟨by rfl, ?_⟩) HS10.out ?_
    rotate_left
    · intro wz hwz
      go_simp
      try with_reducible rfl
    try simp only [Act.put, List.setIfInBounds_toArray, List.set_cons_zero, List.set_cons_succ]
    refine takeL (i := 39) (v := ?_) rfl (by kernel_rfl) (by kernel_rfl) (by kernel_rfl) (fun _ _ _ h => h) (Or.inl ⟨by rfl, ?_⟩) HS10.out ?_
    rotate_left
    · intro wz hwz
      have f45 : wz.cell? ⟨w2.heap.size, 45, none⟩ = some (.int .u64 x.fee) := hwz 45 _ (by omega) HC.out.c45
      go_simp
      try with_reducible rfl
    try simp only [Act.put, List.setIfInBounds_toArray, List.set_cons_zero, List.set_cons_succ]
    refine takeL (i := 40) (v := ?_) rfl (by kernel_rfl) (by kernel_rfl) (by kernel_rfl) (fun _ _ _ h => h) (Or.inl ⟨by rfl, ?_⟩) HS10.out ?_
    rotate_left
    · intro wz hwz
      go_simp
      try with_reducible rfl
    try simp only [Act.put, List.setIfInBounds_toArray, List.set_cons_zero, List.set_cons_succ]
    refine takeL (i := 41) (v := ?_) rfl (by kernel_rfl) (by kernel_rfl) (by kernel_rfl) (fun _ _ _ h => h) (Or.inl ⟨by rfl, ?_⟩) HS10.out ?_
    rotate_left
    · intro wz hwz
      go_simp
      try with_reducible rfl
    try simp only [Act.put, List.setIfInBounds_toArray, List.set_cons_zero, List.set_cons_succ]
    refine takeL (i := 42) (v := .agg ([.int .u64 x.u, .int .u64 x.p, .int .i64 x.bad] : List Value).toArray) rfl (by kernel_rfl) (by kernel_rfl) (by kernel_rfl) (fun _ _ _ h => h) (Or.inl ⟨by rfl, fun wz hwz => exec_load_at wz 46 (.tmp 86) rfl ⟨w2.heap.size, 42, none⟩ [.int .u64 x.u, .int .u64 x.p, .int .i64 x.bad] _ Tryz.underlying46 rfl HBS.out (fun j u hu => by have hb := (List.getElem?_eq_some_iff.1 (HCB.out j u hu)).1; rw [addr_row]; exact hwz (42 + j) u (by have := HXL.out; omega) (HCB.out j u hu)) (by go_simp)⟩) HS10.out ?_
    try simp only [Act.put, List.setIfInBounds_toArray, List.set_cons_zero, List.set_cons_succ]
    refine readyL (i := 43) rfl (by kernel_rfl) (by kernel_rfl) fun K hK => ?_
    go_simp
    refine (HFE.out w10).mono ?_
    rintro e w11 ⟨rfl, hb⟩
    have R11 := Lib.hid (R10.out.below hb R10.out.lt)
    have B11 := Lib.hid (B10.out.trans (hb.mono B10.out.size))
    have BB11 := Lib.hid (BB10.out.trans (hb.mono BB10.out.size))
    have HS11 := Lib.hid (Low11.row (K := 48) R11.out)
    clear hb R10 B10 BB10 HS10
    refine hK.out _ _ HS11.out ?_
    clear hK K
    try simp only [Act.put, List.setIfInBounds_toArray, List.set_cons_zero, List.set_cons_succ]
    refine takeL (i := 44) (v := ?_) rfl (by kernel_rfl) (by kernel_rfl) (by kernel_rfl) (fun _ _ _ h => h) (Or.inl ⟨by rfl, ?_⟩) HS11.out ?_
    rotate_left
    · intro wz hwz
      go_simp
      try with_reducible rfl
    try simp only [Act.put, List.setIfInBounds_toArray, List.set_cons_zero, List.set_cons_succ]
    refine takeL (i := 45) (v := ?_) rfl (by kernel_rfl) (by kernel_rfl) (by kernel_rfl) (fun _ _ _ h => h) (Or.inl ⟨by rfl, ?_⟩) HS11.out ?_
    rotate_left
    · intro wz hwz
      go_simp
      try with_reducible rfl
    try simp only [Act.put, List.setIfInBounds_toArray, List.set_cons_zero, List.set_cons_succ]
    refine takeL (i := 46) (v := ?_) rfl (by kernel_rfl) (by kernel_rfl) (by kernel_rfl) (fun _ _ _ h => h) (Or.inl ⟨by rfl, ?_⟩) HS11.out ?_
    rotate_left
    · intro wz hwz
      go_simp
      try with_reducible rfl
    try simp only [Act.put, List.setIfInBounds_toArray, List.set_cons_zero, List.set_cons_succ]
    refine takeL (i := 47) (v := ?_) rfl (by kernel_rfl) (by kernel_rfl) (by kernel_rfl) (fun _ _ _ h => h) (Or.inl ⟨by rfl, ?_⟩) HS11.out ?_
    rotate_left
    · intro wz hwz
      go_simp
      try with_reducible rfl
    try simp only [Act.put, List.setIfInBounds_toArray, List.set_cons_zero, List.set_cons_succ]
    refine takeL (i := 48) (v := ?_) rfl (by kernel_rfl) (by kernel_rfl) (by kernel_rfl) (fun _ _ _ h => h) (Or.inl ⟨by rfl, ?_⟩) HS11.out ?_
    rotate_left
    · intro wz hwz
      have f46 : wz.cell? ⟨w2.heap.size, 46, none⟩ = some (.int .u64 x.cost) := hwz 46 _ (by omega) HC.out.c46
      go_simp
      try with_reducible rfl
    try simp only [Act.put, List.setIfInBounds_toArray, List.set_cons_zero, List.set_cons_succ]
    refine takeL (i := 49) (v := ?_) rfl (by kernel_rfl) (by kernel_rfl) (by kernel_rfl) (fun _ _ _ h => h) (Or.inl ⟨by rfl, ?_⟩) HS11.out ?_
    rotate_left
    · intro wz hwz
      go_simp
      try with_reducible rfl
    try simp only [Act.put, List.setIfInBounds_toArray, List.set_cons_zero, List.set_cons_succ]
    refine takeL (i := 50) (v := .agg (q.t.cells x.tx).toArray) rfl (by kernel_rfl) (by kernel_rfl) (by kernel_rfl) (fun _ _ _ h => h) (Or.inl ⟨by rfl, fun wz hwz => exec_load_at wz 42 (.tmp 94) rfl ⟨w2.heap.size, 1, none⟩ (q.t.cells x.tx) _ Tryz.underlying42 rfl HTS.out (fun j u hu => by have hb := (List.getElem?_eq_some_iff.1 (HCT.out j u hu)).1; rw [addr_row]; exact hwz (1 + j) u (by have := HXL.out; omega) (HCT.out j u hu)) (by go_simp)⟩) HS11.out ?_
    try simp only [Act.put, List.setIfInBounds_toArray, List.set_cons_zero, List.set_cons_succ]
    refine takeL (i := 51) (v := ?_) rfl (by kernel_rfl) (by kernel_rfl) (by kernel_rfl) (fun _ _ _ h => h) (Or.inl ⟨by rfl, ?_⟩) HS11.out ?_
    rotate_left
    · intro wz hwz
      go_simp
      try with_reducible rfl
    try simp only [Act.put, List.setIfInBounds_toArray, List.set_cons_zero, List.set_cons_succ]
    refine takeL (i := 52) (v := ?_) rfl (by kernel_rfl) (by kernel_rfl) (by kernel_rfl) (fun _ _ _ h => h) (Or.inl ⟨by rfl, ?_⟩) HS11.out ?_
    rotate_left
    · intro wz hwz
      have f41 : wz.cell? ⟨w2.heap.size, 41, none⟩ = some (.slice q.RA q.rn q.rc) := hwz 41 _ (by omega) HC.out.c41
      go_simp
      try with_reducible rfl
    try simp only [Act.put, List.setIfInBounds_toArray, List.set_cons_zero, List.set_cons_succ]
    refine takeL (i := 55) (v := ?_) rfl (by kernel_rfl) (by kernel_rfl) (by kernel_rfl) (fun _ _ _ h => h) (Or.inl ⟨by rfl, ?_⟩) HS11.out ?_
    rotate_left
    · intro wz hwz
      go_simp
      try with_reducible rfl
    try simp only [Act.put, List.setIfInBounds_toArray, List.set_cons_zero, List.set_cons_succ]
    refine takeL (i := 56) (v := ?_) rfl (by kernel_rfl) (by kernel_rfl) (by kernel_rfl) (fun _ _ _ h => h) (Or.inl ⟨by rfl, ?_⟩) HS11.out ?_
    rotate_left
    · intro wz hwz
      go_simp
      try with_reducible rfl
    try simp only [Act.put, List.setIfInBounds_toArray, List.set_cons_zero, List.set_cons_succ]
    refine takeL (i := 57) (v := ?_) rfl (by kernel_rfl) (by kernel_rfl) (by kernel_rfl) (fun _ _ _ h => h) (Or.inl ⟨by rfl, ?_⟩) HS11.out ?_
    rotate_left
    · intro wz hwz
      have f42 : wz.cell? ⟨w2.heap.size, 42, none⟩ = some (.int .u64 x.u) := hwz 42 _ (by omega) HC.out.c42
      go_simp
      try with_reducible rfl
    try simp only [Act.put, List.setIfInBounds_toArray, List.set_cons_zero, List.set_cons_succ]
    refine readyL (i := 53) rfl (by kernel_rfl) (by kernel_rfl) fun K hK => ?_
    go_simp
    refine (HWR.out w11 B11.out).mono ?_
    rintro e w12 ⟨hb, WA12, wc12, rfl, _⟩
    have R12 := Lib.hid (R11.out.below hb R11.out.lt)
    have B12 := Lib.hid (B11.out.trans (hb.mono B11.out.size))
    have BB12 := Lib.hid (BB11.out.trans (hb.mono BB11.out.size))
    have HS12 := Lib.hid (Low11.row (K := 48) R12.out)
    clear hb R11 B11 BB11 HS11
    refine hK.out _ _ HS12.out ?_
    clear hK K
    try simp only [Act.put, List.setIfInBounds_toArray, List.set_cons_zero, List.set_cons_succ]
    refine takeL (i := 54) (v := ?_) rfl (by kernel_rfl) (by kernel_rfl) (by kernel_rfl) (fun _ _ _ h => h) (Or.inl ⟨by rfl, ?_⟩) HS12.out ?_
    rotate_left
    · intro wz hwz
      go_simp
      try with_reducible rfl
    try simp only [Act.put, List.setIfInBounds_toArray, List.set_cons_zero, List.set_cons_succ]
    refine readyL (i := 58) rfl (by kernel_rfl) (by kernel_rfl) fun K hK => ?_
    go_simp
    refine (HCO.out w12 B12.out).mono ?_
    rintro e w13 ⟨rfl, hb⟩
    have R13 := Lib.hid (R12.out.below hb R12.out.lt)
    have B13 := Lib.hid (B12.out.trans (hb.mono B12.out.size))
    have BB13 := Lib.hid (BB12.out.trans (hb.mono BB12.out.size))
    have HS13 := Lib.hid (Low11.row (K := 48) R13.out)
    clear hb R12 B12 BB12 HS12
    refine hK.out _ _ HS13.out ?_
    clear hK K
    try simp only [Act.put, List.setIfInBounds_toArray, List.set_cons_zero, List.set_cons_succ]
    refine takeL (i := 59) (v := ?_) rfl (by kernel_rfl) (by kernel_rfl) (by kernel_rfl) (fun _ _ _ h => h) (Or.inl ⟨by rfl, ?_⟩) HS13.out ?_
    rotate_left
    · intro wz hwz
      go_simp
      try with_reducible rfl
    try simp only [Act.put, List.setIfInBounds_toArray, List.set_cons_zero, List.set_cons_succ]
    refine takeL (i := 60) (v := ?_) rfl (by kernel_rfl) (by kernel_rfl) (by kernel_rfl) (fun _ _ _ h => h) (Or.inl ⟨by rfl, ?_⟩) HS13.out ?_
    rotate_left
    · intro wz hwz
      go_simp
      try with_reducible rfl
    try simp only [Act.put, List.setIfInBounds_toArray, List.set_cons_zero, List.set_cons_succ]
    refine takeL (i := 61) (v := ?_) rfl (by kernel_rfl) (by kernel_rfl) (by kernel_rfl) (fun _ _ _ h => h) (Or.inl ⟨by rfl, ?_⟩) HS13.out ?_
    rotate_left
    · intro wz hwz
      go_simp
      try with_reducible rfl
    try simp only [Act.put, List.setIfInBounds_toArray, List.set_cons_zero, List.set_cons_succ]
    refine takeL (i := 62) (v := ?_) rfl (by kernel_rfl) (by kernel_rfl) (by kernel_rfl) (fun _ _ _ h => h) (Or.inl ⟨by rfl, ?_⟩) HS13.out ?_
    rotate_left
    · intro wz hwz
      go_simp
      try with_reducible rfl
    try simp only [Act.put, List.setIfInBounds_toArray, List.set_cons_zero, List.set_cons_succ]
    refine takeL (i := 63) (v := ?_) rfl (by kernel_rfl) (by kernel_rfl) (by kernel_rfl) (fun _ _ _ h => h) (Or.inl ⟨by rfl, ?_⟩) HS13.out ?_
    rotate_left
    · intro wz hwz
      have f47 : wz.cell? ⟨w2.heap.size, 47, none⟩ = some (.int .u64 x.pri) := hwz 47 _ (by omega) HC.out.c47
      go_simp
      try with_reducible rfl
    try simp only [Act.put, List.setIfInBounds_toArray, List.set_cons_zero, List.set_cons_succ]
    refine takeL (i := 64) (v := ?_) rfl (by kernel_rfl) (by kernel_rfl) (by kernel_rfl) (fun _ _ _ h => h) (Or.inl ⟨by rfl, ?_⟩) HS13.out ?_
    rotate_left
    · intro wz hwz
      go_simp
      try with_reducible rfl
    try simp only [Act.put, List.setIfInBounds_toArray, List.set_cons_zero, List.set_cons_succ]
    refine takeL (i := 65) (v := ?_) rfl (by kernel_rfl) (by kernel_rfl) (by kernel_rfl) (fun _ _ _ h => h) (Or.inl ⟨by rfl, ?_⟩) HS13.out ?_
    rotate_left
    · intro wz hwz
      go_simp
      try with_reducible rfl
    try simp only [Act.put, List.setIfInBounds_toArray, List.set_cons_zero, List.set_cons_succ]
    refine takeL (i := 66) (v := .agg ([.int .u64 x.u, .int .u64 x.p, .int .i64 x.bad] : List Value).toArray) rfl (by kernel_rfl) (by kernel_rfl) (by kernel_rfl) (fun _ _ _ h => h) (Or.inl ⟨by rfl, fun wz hwz => exec_load_at wz 46 (.tmp 110) rfl ⟨w2.heap.size, 42, none⟩ [.int .u64 x.u, .int .u64 x.p, .int .i64 x.bad] _ Tryz.underlying46 rfl HBS.out (fun j u hu => by have hb := (List.getElem?_eq_some_iff.1 (HCB.out j u hu)).1; rw [addr_row]; exact hwz (42 + j) u (by have := HXL.out; omega) (HCB.out j u hu)) (by go_simp)⟩) HS13.out ?_
    try simp only [Act.put, List.setIfInBounds_toArray, List.set_cons_zero, List.set_cons_succ]
    refine takeL (i := 67) (v := ?_) rfl (by kernel_rfl) (by kernel_rfl) (by kernel_rfl) (fun _ _ _ h => h) (Or.inl ⟨by rfl, ?_⟩) HS13.out ?_
    rotate_left
    · intro wz hwz
      go_simp
      try with_reducible rfl
    try simp only [Act.put, List.setIfInBounds_toArray, List.set_cons_zero, List.set_cons_succ]
    refine takeL (i := 68) (v := ?_) rfl (by kernel_rfl) (by kernel_rfl) (by kernel_rfl) (fun _ _ _ h => h) (Or.inl ⟨by rfl, ?_⟩) HS13.out ?_
    rotate_left
    · intro wz hwz
      have f46 : wz.cell? ⟨w2.heap.size, 46, none⟩ = some (.int .u64 x.cost) := hwz 46 _ (by omega) HC.out.c46
      go_simp
      try with_reducible rfl
    try simp only [Act.put, List.setIfInBounds_toArray, List.set_cons_zero, List.set_cons_succ]
    refine readyL (i := 69) rfl (by kernel_rfl) (by kernel_rfl) fun K hK => ?_
    go_simp
    refine (HPR.out w13).mono ?_
    rintro e w14 ⟨rfl, hb⟩
    have R14 := Lib.hid (R13.out.below hb R13.out.lt)
    have B14 := Lib.hid (B13.out.trans (hb.mono B13.out.size))
    have BB14 := Lib.hid (BB13.out.trans (hb.mono BB13.out.size))
    have HS14 := Lib.hid (Low11.row (K := 48) R14.out)
    clear hb R13 B13 BB13 HS13
    refine hK.out _ _ HS14.out ?_
    clear hK K
    try simp only [Act.put, List.setIfInBounds_toArray, List.set_cons_zero, List.set_cons_succ]
    refine takeL (i := 70) (v := ?_) rfl (by kernel_rfl) (by kernel_rfl) (by kernel_rfl) (fun _ _ _ h => h) (Or.inl ⟨by rfl, ?_⟩) HS14.out ?_
    rotate_left
    · intro wz hwz
      go_simp
      try with_reducible rfl
    try simp only [Act.put, List.setIfInBounds_toArray, List.set_cons_zero, List.set_cons_succ]
    refine takeL (i := 71) (v := ?_) rfl (by kernel_rfl) (by kernel_rfl) (by kernel_rfl) (fun _ _ _ h => h) (Or.inl ⟨by rfl, ?_⟩) HS14.out ?_
    rotate_left
    · intro wz hwz
      go_simp
      try with_reducible rfl
    try simp only [Act.put, List.setIfInBounds_toArray, List.set_cons_zero, List.set_cons_succ]
    refine takeL (i := 72) (v := ?_) rfl (by kernel_rfl) (by kernel_rfl) (by kernel_rfl) (fun _ _ _ h => h) (Or.inl ⟨by rfl, ?_⟩) HS14.out ?_
    rotate_left
    · intro wz hwz
      go_simp
      try with_reducible rfl
    try simp only [Act.put, List.setIfInBounds_toArray, List.set_cons_zero, List.set_cons_succ]
    refine takeL (i := 73) (v := ?_) rfl (by kernel_rfl) (by kernel_rfl) (by kernel_rfl) (fun _ _ _ h => h) (Or.inl ⟨by rfl, ?_⟩) HS14.out ?_
    rotate_left
    · intro wz hwz
      go_simp
      try with_reducible rfl
    try simp only [Act.put, List.setIfInBounds_toArray, List.set_cons_zero, List.set_cons_succ]
    refine takeL (i := 74) (v := ?_) rfl (by kernel_rfl) (by kernel_rfl) (by kernel_rfl) (fun _ _ _ h => h) (Or.inl ⟨by rfl, ?_⟩) HS14.out ?_
    rotate_left
    · intro wz hwz
      have f41 : wz.cell? ⟨w2.heap.size, 41, none⟩ = some (.slice q.RA q.rn q.rc) := hwz 41 _ (by omega) HC.out.c41
      go_simp
      try with_reducible rfl
    try simp only [Act.put, List.setIfInBounds_toArray, List.set_cons_zero, List.set_cons_succ]
    refine readyL (i := 75) rfl (by kernel_rfl) (by kernel_rfl) fun K hK => ?_
    go_simp
    refine (HWR.out w14 B14.out).mono ?_
    rintro e w15 ⟨hb, WA15, wc15, rfl, _⟩
    have R15 := Lib.hid (R14.out.below hb R14.out.lt)
    have B15 := Lib.hid (B14.out.trans (hb.mono B14.out.size))
    have BB15 := Lib.hid (BB14.out.trans (hb.mono BB14.out.size))
    have HS15 := Lib.hid (Low11.row (K := 48) R15.out)
    clear hb R14 B14 BB14 HS14
    refine hK.out _ _ HS15.out ?_
    clear hK K
    try simp only [Act.put, List.setIfInBounds_toArray, List.set_cons_zero, List.set_cons_succ]
    refine takeL (i := 76) (v := ?_) rfl (by kernel_rfl) (by kernel_rfl) (by kernel_rfl) (fun _ _ _ h => h) (Or.inl ⟨by rfl, ?_⟩) HS15.out ?_
    rotate_left
    · intro wz hwz
      go_simp
      try with_reducible rfl
    try simp only [Act.put, List.setIfInBounds_toArray, List.set_cons_zero, List.set_cons_succ]
    refine takeL (i := 77) (v := ?_) rfl (by kernel_rfl) (by kernel_rfl) (by kernel_rfl) (fun _ _ _ h => h) (Or.inl ⟨by rfl, ?_⟩) HS15.out ?_
    rotate_left
    · intro wz hwz
      go_simp
      try with_reducible rfl
    try simp only [Act.put, List.setIfInBounds_toArray, List.set_cons_zero, List.set_cons_succ]
    refine takeL (i := 78) (v := ?_) rfl (by kernel_rfl) (by kernel_rfl) (by kernel_rfl) (fun _ _ _ h => h) (Or.inl ⟨by rfl, ?_⟩) HS15.out ?_
    rotate_left
    · intro wz hwz
      go_simp
      try with_reducible rfl
    try simp only [Act.put, List.setIfInBounds_toArray, List.set_cons_zero, List.set_cons_succ]
    refine takeL (i := 79) (v := ?_) rfl (by kernel_rfl) (by kernel_rfl) (by kernel_rfl) (fun _ _ _ h => h) (Or.inl ⟨by rfl, ?_⟩) HS15.out ?_
    rotate_left
    · intro wz hwz
      go_simp
      try with_reducible rfl
    try simp only [Act.put, List.setIfInBounds_toArray, List.set_cons_zero, List.set_cons_succ]
    refine readyL (i := 80) rfl (by kernel_rfl) (by kernel_rfl) fun K hK => ?_
    go_simp
    refine (lives11 w15 (HLE.out w15 (BW2.out.trans (B15.out.mono BW2.out.size)))).mono ?_
    rintro e w16 ⟨rfl, hb⟩
    have R16 := Lib.hid (R15.out.below hb R15.out.lt)
    have B16 := Lib.hid (B15.out.trans (hb.mono B15.out.size))
    have BB16 := Lib.hid (BB15.out.trans (hb.mono BB15.out.size))
    have HS16 := Lib.hid (Low11.row (K := 48) R16.out)
    clear hb R15 B15 BB15 HS15
    refine hK.out _ _ HS16.out ?_
    clear hK K
    try simp only [Act.put, List.setIfInBounds_toArray, List.set_cons_zero, List.set_cons_succ]
    refine takeL (i := 81) (v := ?_) rfl (by kernel_rfl) (by kernel_rfl) (by kernel_rfl) (fun _ _ _ h => h) (Or.inl ⟨by rfl, ?_⟩) HS16.out ?_
    rotate_left
    · intro wz hwz
      go_simp
      try with_reducible rfl
    try simp only [Act.put, List.setIfInBounds_toArray, List.set_cons_zero, List.set_cons_succ]
    refine takeL (i := 82) (v := ?_) rfl (by kernel_rfl) (by kernel_rfl) (by kernel_rfl) (fun _ _ _ h => h) (Or.inl ⟨by rfl, ?_⟩) HS16.out ?_
    rotate_left
    · intro wz hwz
      go_simp
      try with_reducible rfl
    try simp only [Act.put, List.setIfInBounds_toArray, List.set_cons_zero, List.set_cons_succ]
    refine wpAnyH_done (by kernel_rfl) ?_ _
    go_wp2_with fail
    go_ret
    exact ⟨rfl, BW2.out.trans (B16.out.mono BW2.out.size)⟩
  · have HE := Lib.hid he
    have HXZ : Hid (rdX (laidT [] l) zs = zReady) := Lib.hid (rdX_no he)
    rw [HXZ.out] at HXL HX1 HXS HVI ⊢
    clear he
    generalize rdErr (laidT [] l) zs = er at *
    have he := HE.out
    obtain ⟨ys, hys⟩ : ∃ ys, ys = q.cells zReady := ⟨_, rfl⟩
    have HYS := Lib.hid hys
    rw [← hys] at HXL HX1 HXS ⊢
    clear hys
    go_upto_region 5 with ((with_reducible show wpList _ _ _ ({ dst := none, op := Op.store 48 (.tmp 7) _, type := _, pos := _, after := _, guard := _ } :: _) _ _); go_must (refine wpList_store_new rfl 48 (.tmp 7) (.tmp 25) rfl ys HXS.out HX1.out (by rw [HXL.out]; rfl) ?_ ?_ ?_; go_simp; go_simp; intro w3 hr hb hz0))
    have R3 := Lib.hid hr
    have BW3 := Lib.hid (BW2.out.trans (hb.mono BW2.out.size))
    have HSR := Lib.hid (fun (V : World) (hV : Below w2.heap.size w2 V) => same_ready q zYRaw zReady w2.heap.size 0 V (HVI.out.is.below hV) hV.size (zReady_in V 0) (Nat.zero_le _))
    have B23 := Lib.hid hb
    rw [← HYS.out] at HSR
    clear hr hb hz0 BW2 HVI
    go_wp2_with ((with_reducible show wpList _ _ _ ({ dst := some 29, op := Op.load _ _, type := _, pos := _, after := _, guard := _ } :: _) _ _); go_must (refine wpList_load_whole rfl 48 (.tmp 7) rfl w2.heap.size 48 ys _ Tryz.underlying48 rfl HXS.out R3.out ?_ ?_; go_simp))
    refine (HSR.out w3 B23.out).mono ?_
    rintro e w4 ⟨rfl, hb4⟩
    have BW4 := Lib.hid (BW3.out.trans (hb4.mono BW3.out.size))
    clear hb4
    go_wp2_with fail
    refine (lives11 _ (HLE.out _ BW4.out)).mono ?_
    rintro e w5 ⟨rfl, hb5⟩
    have BW5 := Lib.hid (BW4.out.trans (hb5.mono BW4.out.size))
    clear hb5
    go_wp2_with fail
    go_ret
    exact ⟨rfl, BW5.out⟩
end Go.Proofs.YtdgbodljmdcagaaGreatDoor

/-
  Of part TabsCells11: what is needed here.
-/
namespace Go.Proofs.YtdgbodljmdcagaaGreatDoor
open Go.RowKit
set_option linter.unusedVariables false
set_option maxRecDepth 100000
theorem info_tab11 : (Tryz.prog.info? 80).map (fun i => (i.zero, i.size, i.bytes)) = some (some (.agg (bv (List.replicate 32 0) ++ [Value.slice none 0 0]).toArray), 33, 56) := by kernel_rfl
/-- cells of tables -/
structure TC11 (w : World) (B : Nat) (l : List LTab) (css : List (List Value)) : Prop where
  len : css.length = l.length
  at_ : ∀ (i : Nat) x, l[i]? = some x → ∃ q, css[i]? = some (TRaw11.cells q x) ∧ TabIn w B q x
section
variable {w w' : World} {B B' : Nat} {l l' : List LTab} {css css' : List (List Value)}
theorem TC11.below (h : TC11 w B l css) (hb : Below B w w') : TC11 w' B l css := ⟨h.len, fun i x hx => by
  obtain ⟨q, h1, h2⟩ := h.at_ i x hx
  exact ⟨q, h1, h2.below hb⟩⟩
theorem TC11.more (h : TC11 w B l css) (hB : B ≤ B') : TC11 w B' l css := ⟨h.len, fun i x hx => by
  obtain ⟨q, h1, h2⟩ := h.at_ i x hx
  exact ⟨q, h1, h2.more hB⟩⟩
theorem TC11.get (h : TC11 w B l css) {i : Nat} {y : List Value} (hy : css[i]? = some y) : ∃ q x, l[i]? = some x ∧ y = TRaw11.cells q x ∧ TabIn w B q x := by
  have hi := (List.getElem?_eq_some_iff.1 hy).1
  obtain ⟨x, hx⟩ : ∃ x, l[i]? = some x := ⟨_, List.getElem?_eq_getElem (by rw [← h.len]; exact hi)⟩
  obtain ⟨q, h1, h2⟩ := h.at_ i x hx
  rw [hy] at h1
  exact ⟨q, x, hx, Option.some.inj h1, h2⟩
theorem TC11.each (h : TC11 w B l css) : ∀ y ∈ css, y.length = 33 := fun y hy => by
  obtain ⟨i, hi, rfl⟩ := List.getElem_of_mem hy
  obtain ⟨q, x, _, e, h2⟩ := h.get (List.getElem?_eq_getElem hi)
  rw [e, tcells11_len h2.tab]
theorem flat33 : ∀ {l : List (List Value)}, (∀ y ∈ l, y.length = 33) → l.flatten.length = l.length * 33
  | [], _ => by simp
  | y :: r, h => by
    rw [List.flatten_cons, List.length_append, flat33 (l := r) (fun z hz => h z (List.mem_cons_of_mem _ hz)), h y (by simp), List.length_cons]
    omega
theorem TC11.one (h : TC11 w B l css) : ∀ u ∈ css.flatten, u.oneCell' = true := fun u hu => by
  obtain ⟨y, hy, huy⟩ := List.mem_flatten.1 hu
  obtain ⟨i, hi, rfl⟩ := List.getElem_of_mem hy
  obtain ⟨q, x, _, e, h2⟩ := h.get (List.getElem?_eq_getElem hi)
  rw [e] at huy
  exact tcells11_one u huy
theorem TC11.append (h : TC11 w B l css) (h' : TC11 w B l' css') : TC11 w B (l ++ l') (css ++ css') := by
  refine ⟨by rw [List.length_append, List.length_append, h.len, h'.len], fun i x hx => ?_⟩
  rcases Nat.lt_or_ge i l.length with hi | hi
  · rw [List.getElem?_append_left hi] at hx
    obtain ⟨q, h1, h2⟩ := h.at_ i x hx
    exact ⟨q, by rw [List.getElem?_append_left (by rw [h.len]; exact hi)]; exact h1, h2⟩
  · rw [List.getElem?_append_right hi] at hx
    obtain ⟨q, h1, h2⟩ := h'.at_ _ x hx
    exact ⟨q, by rw [List.getElem?_append_right (by rw [h.len]; exact hi), h.len]; exact h1, h2⟩
theorem TC11.in_ {A : Option Addr} {n : Nat} (h : TC11 w B l css) (hn : l.length = n) (hs : Sees w B A (n * 33) css.flatten) : TabsIn w B A n l := by
  refine ⟨hn, fun i x hx => ?_⟩
  obtain ⟨q, h1, h2⟩ := h.at_ i x hx
  have hat := flatten_at 33 css i _ (fun t y hy => h.each y (List.mem_of_getElem? hy)) h1
  obtain ⟨u0, hu0⟩ : ∃ u, (TRaw11.cells q x)[0]? = some u := ⟨_, List.getElem?_eq_getElem (by rw [tcells11_len h2.tab]; omega)⟩
  obtain ⟨a, e, hb, _⟩ := hs.cell _ _ (hat 0 u0 hu0)
  refine ⟨a, q, e, hb, fun j u hu => ?_, h2⟩
  obtain ⟨a', e', _, hc⟩ := hs.cell _ _ (hat j u hu)
  rw [e] at e'
  cases e'
  exact hc
end
/-- tables handed in, as cells -/
theorem TabsIn.tc {w : World} {B n : Nat} {A : Option Addr} {l : List LTab} (h : TabsIn w B A n l) : ∃ css, TC11 w B l css ∧ Sees w B A (n * 33) css.flatten := by
  obtain ⟨css, hl, hp⟩ := list_of (α := List Value) (p := fun i y => ∀ x, l[i]? = some x → ∃ a q, y = TRaw11.cells q x ∧ A = some a ∧ a.block < B ∧ (∀ j u, (TRaw11.cells q x)[j]? = some u → w.cell? (a.add (i * 33 + j)) = some u) ∧ TabIn w B q x) n fun i hi => by
    obtain ⟨x, hx⟩ : ∃ x, l[i]? = some x := ⟨_, List.getElem?_eq_getElem (by rw [h.len]; exact hi)⟩
    obtain ⟨a, q, h1, h2, h3, h4⟩ := h.at_ i x hx
    refine ⟨TRaw11.cells q x, fun x' hx' => ?_⟩
    rw [hx] at hx'
    cases hx'
    exact ⟨a, q, rfl, h1, h2, h3, h4⟩
  have hcl : css.length = n := by simpa using hl
  have htc : TC11 w B l css := by
    refine ⟨by rw [hcl, h.len], fun i x hx => ?_⟩
    have hi : i < css.length := by rw [hcl, ← h.len]; exact (List.getElem?_eq_some_iff.1 hx).1
    obtain ⟨a, q, h1, _, _, _, h4⟩ := hp i _ (List.getElem?_eq_getElem hi) x hx
    exact ⟨q, by rw [List.getElem?_eq_getElem hi, h1], h4⟩
  refine ⟨css, htc, ⟨by rw [flat33 htc.each, hcl], fun i u hu => ?_⟩⟩
  have hi : i < css.flatten.length := (List.getElem?_eq_some_iff.1 hu).1
  rw [flat33 htc.each] at hi
  have hk : i / 33 < css.length := by omega
  obtain ⟨q0, x, hx, _, hin⟩ := htc.get (List.getElem?_eq_getElem hk)
  obtain ⟨a, q, h1, h2, h3, h4, h5⟩ := hp (i / 33) _ (List.getElem?_eq_getElem hk) x hx
  refine ⟨a, h2, h3, ?_⟩
  have hj : i % 33 < (TRaw11.cells q x).length := by rw [tcells11_len h5.tab]; omega
  have hat := flatten_at 33 css (i / 33) (TRaw11.cells q x) (fun t y hy => htc.each y (List.mem_of_getElem? hy)) (by rw [List.getElem?_eq_getElem hk, h1]) (i % 33) _ (List.getElem?_eq_getElem hj)
  rw [show i / 33 * 33 + i % 33 = i by omega, hu] at hat
  have := h4 (i % 33) _ (List.getElem?_eq_getElem hj)
  rw [show i / 33 * 33 + i % 33 = i by omega] at this
  rw [this]
  exact hat.symm
end Go.Proofs.YtdgbodljmdcagaaGreatDoor

/-
  Of part TablesWalk11: what is needed here.
-/
namespace Go.Proofs.YtdgbodljmdcagaaGreatDoor
open Go.RowKit
set_option linter.unusedVariables false
set_option maxRecDepth 100000
set_option maxRecDepth 100000 in
set_option maxHeartbeats 16000000 in
theorem tables_walk11 (A TA MA : Option Addr) (n c tn tc mn mc : Nat) (zs : List Int) (l more : List LTab) (w : World) (hs : Sees w w.heap.size A n (bv zs)) (hnc : n ≤ c) (hc : c ≤ maxLen) (hz : AllBytes zs) (ht : TabsIn w w.heap.size TA tn l) (htm : tn ≤ maxLen) (hok : ∀ t ∈ l, TabOk11 t)
    (hm : TabsIn w w.heap.size MA mn more) (hmm : mn ≤ maxLen) (hok2 : ∀ t ∈ more, TabOk11 t) (hl : LenAt w) :
    Calls Tryz.prog 6 #[.slice A n c, .slice TA tn tc, .slice MA mn mc] w fun e w' => e = .returned (.bool true) ∧ Below w.heap.size w w' := by
  have HLE := Lib.hid (fun (V : World) (hb : Below w.heap.size w V) => hl.below hb hl.pos)
  have HS := Lib.hid (fun (V : World) (hb : Below w.heap.size w V) => hs.below hb)
  have HNC := Lib.hid (And.intro hnc hc)
  have HZ := Lib.hid hz
  have HT := Lib.hid ht
  have HM := Lib.hid hm
  have HOK := Lib.hid hok
  have HOKA : Hid (∀ t ∈ l ++ more, TabOk11 t) := Lib.hid fun t h => by
    rcases List.mem_append.1 h with h | h
    · exact hok t h
    · exact hok2 t h
  have HTS : Hid (TsB11 (laidT [] l)) := Lib.hid (tsB_laid l tsB_nil fun t h => (hok t h).keys)
  have HTS2 : Hid (TsB11 (laidT [] (l ++ more))) := Lib.hid (tsB_laid (l ++ more) tsB_nil fun t h => (HOKA.out t h).keys)
  have HG1 := Lib.hid (great11 A TA n c tn tc w.heap.size l w ht htm)
  have HG2 := Lib.hid (great11 A MA n c mn mc w.heap.size more w hm hmm)
  have HLN := Lib.hid (And.intro ht.len hm.len)
  clear hs hnc hc hz ht hok hl hm hok2
  by_cases hg : (decide (5000 < n) || decide (20 < tn) || isGreat11 l) = true
  · rw [hg] at HG1
    clear hg HG2
    go_enter Tryz.func6, Tryz.ntmps6
    go_wp2_with (go_at_call 8; with_reducible show Calls _ _ #[.slice A n c, .slice TA tn tc] _ _; refine HG1.out.mono ?_; rintro e w' ⟨rfl, hw⟩; obtain rfl := hw.symm)
    refine (lives11 _ (HLE.out _ (Below.refl _ _))).mono ?_
    rintro e wz ⟨rfl, hbz⟩
    have HBZ := Lib.hid hbz
    clear hbz
    go_wp2_with fail
    go_ret
    exact ⟨rfl, HBZ.out⟩

  have hg : (decide (5000 < n) || decide (20 < tn) || isGreat11 l) = false := by simpa using hg
  rw [hg] at HG1
  have hn5 : n ≤ 5000 ∧ tn ≤ 20 := by
    simp only [Bool.or_eq_false_iff, decide_eq_false_iff_not] at hg
    omega
  obtain ⟨hn5, ht20⟩ := hn5
  clear hg
  have HG1C := HG1
  by_cases hg : (decide (5000 < n) || decide (20 < mn) || isGreat11 more) = true
  · rw [hg] at HG2
    clear hg
    go_enter Tryz.func6, Tryz.ntmps6
    go_wp2_with (first | (go_at_call 8; with_reducible show Calls _ _ #[.slice A n c, .slice TA tn tc] _ _; refine HG1C.out.mono ?_; rintro e w' ⟨rfl, hw⟩; obtain rfl := hw.symm) | (go_at_call 8; with_reducible show Calls _ _ #[.slice A n c, .slice MA mn mc] _ _; refine HG2.out.mono ?_; rintro e w' ⟨rfl, hw⟩; obtain rfl := hw.symm))
    refine (lives11 _ (HLE.out _ (Below.refl _ _))).mono ?_
    rintro e wz ⟨rfl, hbz⟩
    have HBZ := Lib.hid hbz
    clear hbz
    go_wp2_with fail
    go_ret
    exact ⟨rfl, HBZ.out⟩

  have hg : (decide (5000 < n) || decide (20 < mn) || isGreat11 more) = false := by simpa using hg
  rw [hg] at HG2
  have hm20 : mn ≤ 20 := by
    simp only [Bool.or_eq_false_iff, decide_eq_false_iff_not] at hg
    omega
  clear hg
  go_enter Tryz.func6, Tryz.ntmps6
  go_wp2_with (first | (go_at_call 8; with_reducible show Calls _ _ #[.slice A n c, .slice TA tn tc] _ _; refine HG1.out.mono ?_; rintro e w' ⟨rfl, hw⟩; obtain rfl := hw.symm) | (go_at_call 8; with_reducible show Calls _ _ #[.slice A n c, .slice MA mn mc] _ _; refine HG2.out.mono ?_; rintro e w' ⟨rfl, hw⟩; obtain rfl := hw.symm))
  refine (laid11 TA tn tc w.heap.size l w HT.out (Nat.le_refl _) HOK.out (by omega)).mono ?_
  rintro e w1 ⟨rb, mb, pb, v, rfl, hst⟩
  have L1 := Lib.hid hst
  clear hst HG1 HG2 HG1C
  obtain ⟨css, htc, hse⟩ := HT.out.tc
  obtain ⟨css2, htc2, hse2⟩ := HM.out.tc
  have HTC := Lib.hid htc
  have HTC2 := Lib.hid htc2
  have HSE := Lib.hid (hse.below L1.out.b)
  have HSE2 := Lib.hid hse2
  clear htc htc2 hse hse2
  go_wp2_with (first
    | ((with_reducible show wpList _ _ _ ({ dst := some 33, op := _, type := _, pos := _, after := _, guard := _ } :: _) _ _); go_must (refine wpList_appendN rfl (.const (.slice none 0 0)) (.tmp 32) 23 80 _ 33 56 rfl Tryz.underlying23 info_tab11 (by kernel_rfl) (by omega) (.slice none 0 0) 0 [] w1.heap.size w.heap.size TA tn tc css.flatten rfl (own_nilN _ _ _ _) ?_ HSE.out HTC.out.one (by unfold maxLen; omega) (by omega) (Nat.le_refl _) ?_; go_simp; intro v1 u1 ho1 hg1; rw [Nat.zero_add, List.nil_append] at ho1; obtain ⟨A1, c1, rfl, _, _, _, hlt1⟩ := own_form2 ho1; have hb1 : Below w1.heap.size w1 u1 := (Below.refl w1.heap.size w1).grown hg1.grown (Nat.le_refl _) (fun k hk => by cases hk); have O1 := Lib.hid ho1; have BU1 := Lib.hid hb1; clear ho1 hg1 hb1))
    | ((with_reducible show wpList _ _ _ ({ dst := some 35, op := _, type := _, pos := _, after := _, guard := _ } :: _) _ _); go_must (refine wpList_appendN rfl (.tmp 33) (.tmp 34) 23 80 _ 33 56 rfl Tryz.underlying23 info_tab11 (by kernel_rfl) (by omega) (.slice A1 tn c1) tn css.flatten w1.heap.size w.heap.size MA mn mc css2.flatten ?_ O1.out ?_ (HSE2.out.below (L1.out.b.trans (BU1.out.mono L1.out.b.size))) HTC2.out.one (by unfold maxLen; omega) (by omega) BU1.out.size ?_; go_simp; go_simp; intro v2 u2 ho2 hg2; obtain ⟨A2, c2, rfl, hs2, _, _, _⟩ := own_form2 ho2; have hb2 : Below w1.heap.size w1 u2 := BU1.out.grown hg2.grown BU1.out.size (fun k hk => (hlt1 k hk).1); have HS2 := Lib.hid hs2; have BU2 := Lib.hid hb2; clear ho2 hg2 hs2 hb2 hlt1)))
  have HTA : Hid (TabsIn u2 u2.heap.size A2 (tn + mn) (l ++ more)) := Lib.hid (by
    have hb := L1.out.b.trans (BU2.out.mono L1.out.b.size)
    have h1 := ((HTC.out.below hb).append (HTC2.out.below hb)).more (B' := u2.heap.size) hb.size
    refine h1.in_ (by rw [List.length_append, HLN.out.1, HLN.out.2]) ?_
    rw [List.flatten_append]
    exact HS2.out)
  have L2 := Lib.hid (L1.out.below BU2.out)
  clear O1 BU1 BU2 HS2 HSE HSE2 HTC HTC2 L1
  refine (laid11 A2 (tn + mn) c2 u2.heap.size (l ++ more) u2 HTA.out (Nat.le_refl _) HOKA.out (by omega)).mono ?_
  rintro e w3 ⟨rb2, mb2, pb2, v3, rfl, hst⟩
  have M3 := Lib.hid hst
  have L3 := Lib.hid (L2.out.below hst.b)
  clear hst L2 HTA
  go_wp2_with fail
  obtain ⟨nr, _, hrg⟩ := L3.out.r
  refine (of11 rb mb _ nr _ A n c w.heap.size zs w3 hrg HTS.out (HS.out _ L3.out.b) L3.out.b.size HNC.out.1 HNC.out.2 HZ.out (HLE.out _ L3.out.b)).mono ?_
  rintro e w4 ⟨q, rfl, hv, hb4⟩
  have HXL := Lib.hid (ycells_len (q := q) hv.is.tx.m.recent)
  have HX1 := Lib.hid (ycells_one (q := q) (x := rdX (laidT [] l) zs))
  have HXS := Lib.hid (show (Tryz.prog.info? 48).map (·.size) = some (q.cells (rdX (laidT [] l) zs)).length by rw [HXL.out]; exact size_ready)
  have HV := Lib.hid hv.is
  have L4 := Lib.hid (L3.out.below hb4)
  have M4 := Lib.hid (M3.out.below hb4)
  clear hv hb4 hrg L3 M3
  obtain ⟨ys, hys⟩ : ∃ ys, ys = q.cells (rdX (laidT [] l) zs) := ⟨_, rfl⟩
  have HYS := Lib.hid hys
  rw [← hys] at HXL HX1 HXS ⊢
  clear hys
  go_upto_region 6 with ((with_reducible show wpList _ _ _ ({ dst := none, op := Op.store 48 (.tmp 11) _, type := _, pos := _, after := _, guard := _ } :: _) _ _); go_must (refine wpList_store_new rfl 48 (.tmp 11) (.tmp 43) rfl ys HXS.out HX1.out (by rw [HXL.out]; rfl) ?_ ?_ ?_; go_simp; go_simp; intro w5 hr hb hz0))
  have R5 := Lib.hid hr
  have L5 := Lib.hid (L4.out.below hb)
  have M5 := Lib.hid (M4.out.below hb)
  have HV5 := Lib.hid (HV.out.below hb)
  have HB45 := Lib.hid hb.size
  clear hr hb hz0 L4 M4 HV
  go_wp2_with fail
  obtain ⟨nr2, _, hrg2⟩ := M5.out.r
  refine (of11 rb2 mb2 _ nr2 _ A n c w.heap.size zs w5 hrg2 HTS2.out (HS.out _ L5.out.b) L5.out.b.size HNC.out.1 HNC.out.2 HZ.out (HLE.out _ L5.out.b)).mono ?_
  rintro e w6 ⟨q2, rfl, hv, hb6⟩
  have HXL2 := Lib.hid (ycells_len (q := q2) hv.is.tx.m.recent)
  have HX12 := Lib.hid (ycells_one (q := q2) (x := rdX (laidT [] (l ++ more)) zs))
  have HXS2 := Lib.hid (show (Tryz.prog.info? 48).map (·.size) = some (q2.cells (rdX (laidT [] (l ++ more)) zs)).length by rw [HXL2.out]; exact size_ready)
  have HW := Lib.hid hv.is
  have R6 := Lib.hid (R5.out.below hb6 R5.out.lt)
  have L6 := Lib.hid (L5.out.b.trans (hb6.mono L5.out.b.size))
  have HV6 := Lib.hid (HV5.out.below (hb6.mono HB45.out))
  have HB56 := Lib.hid hb6.size
  clear hv hb6 hrg2 L5 M5 R5 HV5
  obtain ⟨zs2, hzs2⟩ : ∃ ys, ys = q2.cells (rdX (laidT [] (l ++ more)) zs) := ⟨_, rfl⟩
  have HZS := Lib.hid hzs2
  rw [← hzs2] at HXL2 HX12 HXS2 ⊢
  clear hzs2
  obtain ⟨e1, he1⟩ : ∃ e, e = rdErr (laidT [] l) zs := ⟨_, rfl⟩
  obtain ⟨e2, he2⟩ : ∃ e, e = rdErr (laidT [] (l ++ more)) zs := ⟨_, rfl⟩
  rw [← he1, ← he2]
  have HE1 := Lib.hid he1
  have HE2 := Lib.hid he2
  clear he1 he2
  go_upto_region 7 with ((with_reducible show wpList _ _ _ ({ dst := none, op := Op.store 48 (.tmp 13) _, type := _, pos := _, after := _, guard := _ } :: _) _ _); go_must (refine wpList_store_new rfl 48 (.tmp 13) (.tmp 49) rfl zs2 HXS2.out HX12.out (by rw [HXL2.out]; rfl) ?_ ?_ ?_; go_simp; go_simp; intro w7 hr hb hz0))
  have R7 := Lib.hid (R6.out.below hb R6.out.lt)
  have S7 := Lib.hid hr
  have B7 := Lib.hid (L6.out.trans (hb.mono L6.out.size))
  have HV7 := Lib.hid (HV6.out.below (hb.mono (Nat.le_trans HB45.out HB56.out)))
  have HW7 := Lib.hid (HW.out.below hb)
  have HB67 := Lib.hid hb.size
  clear hr hb hz0 L6 R6 HV6 HW
  have HWI := Lib.hid (fun (V : World) (hb : Below w.heap.size w V) => wire_ A n c w.heap.size zs V (HS.out V hb) hb.size HNC.out.1 HNC.out.2 HZ.out)
  by_cases h1 : e1 = 0
  · have hm := rdErr_more (ts := laidT [] l) (zs := zs) more (by rw [← HE1.out]; exact h1)
    rw [← laidT_append] at hm
    have h2 : e2 = 0 := by rw [HE2.out]; exact hm.1
    have hw0 : wErr zs = 0 := (rdErr_zero (ts := laidT [] l) (by rw [← HE1.out]; exact h1)).1
    have hxx : rdX (laidT [] (l ++ more)) zs = rdX (laidT [] l) zs := by
      rw [rdX_ok hm.1, rdX_ok (by rw [← HE1.out]; exact h1), hm.2]
    have HSR := Lib.hid (same_ready q q2 (rdX (laidT [] l) zs) w4.heap.size w6.heap.size w7 HV7.out (Nat.le_trans HB45.out (Nat.le_trans HB56.out HB67.out)) (by have := HW7.out; rw [hxx] at this; exact this) HB67.out)
    rw [← HYS.out] at HSR
    have hz2 : q2.cells (rdX (laidT [] l) zs) = zs2 := by rw [HZS.out, hxx]
    rw [hz2] at HSR
    have HEE : Hid (e1 = e2) := Lib.hid (h1.trans h2.symm)
    have HW0 := Lib.hid hw0
    subst h1
    clear hm hxx hz2 hw0 h2
    obtain rfl : e2 = 0 := HEE.out.symm
    clear HEE
    go_wp2_with (first
      | ((with_reducible show wpList _ _ _ ({ dst := some 57, op := Op.load _ _, type := _, pos := _, after := _, guard := _ } :: _) _ _); go_must (refine wpList_load_atg (by kernel_rfl) 48 (.tmp 11) rfl ⟨w4.heap.size, 0, none⟩ ys _ Tryz.underlying48 rfl HXS.out (fun j v hv => by rw [addr_row, Nat.zero_add]; exact (R7.out.cell j).trans hv) ?_ ?_; go_simp))
      | ((with_reducible show wpList _ _ _ ({ dst := some 58, op := Op.load _ _, type := _, pos := _, after := _, guard := _ } :: _) _ _); go_must (refine wpList_load_atg (by kernel_rfl) 48 (.tmp 13) rfl ⟨w6.heap.size, 0, none⟩ zs2 _ Tryz.underlying48 rfl HXS2.out (fun j v hv => by rw [addr_row, Nat.zero_add]; exact (S7.out.cell j).trans hv) ?_ ?_; go_simp)))
    refine HSR.out.mono ?_
    rintro e w8 ⟨rfl, hb8⟩
    have B8 := Lib.hid (B7.out.trans (hb8.mono B7.out.size))
    clear hb8 HSR R7 S7 HV7 HW7
    go_wp2_with fail
    refine (HWI.out w8 B8.out).mono ?_
    rintro e wa hd
    obtain ⟨cs, lo, rfl, hlo, hgot, hba⟩ := hd.one
    have HCL := Lib.hid hgot.len
    have HCO := Lib.hid hgot.one
    have HCI := Lib.hid hgot.size
    have HCG := Lib.hid hgot
    have BA := Lib.hid (Below.trans B8.out (hba.mono (B8.out).size))
    clear hd hgot hlo hba
    rw [HW0.out]
    go_upto_region 10 with ((with_reducible show wpList _ _ _ ({ dst := none, op := Op.store 42 (.tmp 15) _, type := _, pos := _, after := _, guard := _ } :: _) _ _); go_must (refine wpList_store_new rfl 42 (.tmp 15) (.tmp 66) rfl cs HCI.out HCO.out (by rw [HCL.out]; rfl) ?_ ?_ ?_; go_simp; go_simp; intro wb hr hb hz0))
    have RA := Lib.hid hr
    have BC := Lib.hid (BA.out.trans (hb.mono BA.out.size))
    clear hr hb hz0 BA
    obtain ⟨s, hcs, hin, _⟩ := HCG.out.is
    have hll := hin.m.looks.len
    have c39 : wb.cell? ⟨wa.heap.size, 39, none⟩ = some (.slice s.q.LA s.q.ln s.q.lc) := (RA.out.cell 39).trans (by rw [hcs]; exact (tcells_m 38).trans (cells_38 hin.m.recent))
    clear hin hcs HCG
    by_cases h0 : s.q.ln = 0
    · have hnil : (wireX zs).m.looks = [] := List.length_eq_zero_iff.1 (by omega)
      rw [h0] at c39
      clear hnil h0 hll
      go_wp2_with fail
      refine (lives11 _ (HLE.out _ BC.out)).mono ?_
      rintro e wz ⟨rfl, hbz⟩
      have HBZ := Lib.hid (Below.trans BC.out (hbz.mono (BC.out).size))
      clear hbz
      go_wp2_with fail
      go_ret
      exact ⟨rfl, HBZ.out⟩
    · have hne : ¬ ((s.q.ln : Int) = 0) := by omega
      clear h0 hll
      go_wp2_with fail
      refine (lives11 _ (HLE.out _ BC.out)).mono ?_
      rintro e wz ⟨rfl, hbz⟩
      have HBZ := Lib.hid (Below.trans BC.out (hbz.mono (BC.out).size))
      clear hbz
      go_wp2_with fail
      go_ret
      exact ⟨rfl, HBZ.out⟩
  · by_cases hw0 : wErr zs = 0
    · go_wp2_with fail
      refine (HWI.out w7 B7.out).mono ?_
      rintro e wa hd
      obtain ⟨cs, lo, rfl, hlo, hgot, hba⟩ := hd.one
      have HCL := Lib.hid hgot.len
      have HCO := Lib.hid hgot.one
      have HCI := Lib.hid hgot.size
      have HCG := Lib.hid hgot
      have BA := Lib.hid (Below.trans B7.out (hba.mono (B7.out).size))
      clear hd hgot hlo hba
      rw [hw0]
      go_upto_region 10 with ((with_reducible show wpList _ _ _ ({ dst := none, op := Op.store 42 (.tmp 15) _, type := _, pos := _, after := _, guard := _ } :: _) _ _); go_must (refine wpList_store_new rfl 42 (.tmp 15) (.tmp 66) rfl cs HCI.out HCO.out (by rw [HCL.out]; rfl) ?_ ?_ ?_; go_simp; go_simp; intro wb hr hb hz0))
      have RA := Lib.hid hr
      have BC := Lib.hid (BA.out.trans (hb.mono BA.out.size))
      clear hr hb hz0 BA
      obtain ⟨s, hcs, hin, _⟩ := HCG.out.is
      have hll := hin.m.looks.len
      have c39 : wb.cell? ⟨wa.heap.size, 39, none⟩ = some (.slice s.q.LA s.q.ln s.q.lc) := (RA.out.cell 39).trans (by rw [hcs]; exact (tcells_m 38).trans (cells_38 hin.m.recent))
      clear hin hcs HCG
      by_cases h0 : s.q.ln = 0
      · have hnil : (wireX zs).m.looks = [] := List.length_eq_zero_iff.1 (by omega)
        have hee : e1 = e2 := by rw [HE1.out, HE2.out]; exact rdErr_none hnil
        subst hee
        rw [h0] at c39
        clear hnil h0 hll
        go_wp2_with fail
        refine (lives11 _ (HLE.out _ BC.out)).mono ?_
        rintro e wz ⟨rfl, hbz⟩
        have HBZ := Lib.hid (Below.trans BC.out (hbz.mono (BC.out).size))
        clear hbz
        go_wp2_with fail
        go_ret
        exact ⟨rfl, HBZ.out⟩
      · have hne : ¬ ((s.q.ln : Int) = 0) := by omega
        clear h0 hll
        go_wp2_with fail
        refine (lives11 _ (HLE.out _ BC.out)).mono ?_
        rintro e wz ⟨rfl, hbz⟩
        have HBZ := Lib.hid (Below.trans BC.out (hbz.mono (BC.out).size))
        clear hbz
        go_wp2_with fail
        go_ret
        exact ⟨rfl, HBZ.out⟩
    · have hr1 : e1 = wErr zs := by rw [HE1.out]; exact rdErr_wire hw0
      have hr2 : e2 = wErr zs := by rw [HE2.out]; exact rdErr_wire hw0
      have HEE : Hid (e1 = e2) := Lib.hid (hr1.trans hr2.symm)
      go_wp2_with fail
      refine (HWI.out w7 B7.out).mono ?_
      rintro e wa hd
      obtain ⟨cs, lo, rfl, hlo, hgot, hba⟩ := hd.one
      have HCL := Lib.hid hgot.len
      have HCO := Lib.hid hgot.one
      have HCI := Lib.hid hgot.size
      have HCG := Lib.hid hgot
      have BA := Lib.hid (Below.trans B7.out (hba.mono (B7.out).size))
      clear hd hgot hlo hba
      rw [← hr1]
      clear hr1 hr2 hw0
      obtain rfl : e2 = e1 := HEE.out.symm
      go_upto_region 10 with ((with_reducible show wpList _ _ _ ({ dst := none, op := Op.store 42 (.tmp 15) _, type := _, pos := _, after := _, guard := _ } :: _) _ _); go_must (refine wpList_store_new rfl 42 (.tmp 15) (.tmp 66) rfl cs HCI.out HCO.out (by rw [HCL.out]; rfl) ?_ ?_ ?_; go_simp; go_simp; intro wb hr hb hz0))
      have RA := Lib.hid hr
      have BC := Lib.hid (BA.out.trans (hb.mono BA.out.size))
      clear hr hb hz0 BA
      clear HCG
      go_wp2_with fail
      refine (lives11 _ (HLE.out _ BC.out)).mono ?_
      rintro e wz ⟨rfl, hbz⟩
      have HBZ := Lib.hid (Below.trans BC.out (hbz.mono (BC.out).size))
      clear hbz
      go_wp2_with fail
      go_ret
      exact ⟨rfl, HBZ.out⟩
end Go.Proofs.YtdgbodljmdcagaaGreatDoor
