/-
  Parts joined: OtherWalk9.
-/
import Derived.Below
import Derived.Laws.OwnMore
import Derived.Deep.AppendLies
import Derived.Deep.Draws
import Derived.Lib.Hide
import Derived.Laws.BitsAllLaws
import Derived.WalkKit
import Derived.Test.YtmpgibemmhcncaaRows
import Derived.WalkSpells
import Derived.WalkLawsBesides
import Derived.IntWalk
import Derived.Lib.Mul64
import Derived.Laws.Bits64b
import Derived.Laws.Externs
import Derived.Lib.BitFns
import Derived.Shelf.Small.Bits
import Derived.Deep.QuietTactic
import Derived.Laws.MakeOwn
import Derived.Laws.CopyOwn
import Derived.Laws.Rows
import Derived.Laws.NewBlocks
import Derived.Maps.AppendAt
import Derived.OwnWalk
import Derived.Deep.MidRow
import Derived.Deep.WholeRow
import Derived.Great.BuildSlice
import Derived.Recover
import Derived.Deep.RegionHeld
import Derived.BigQuiet
import Derived.Deep.RegionHeld2
import Derived.Deep.CutBlock
import Derived.Laws.Tables
import Derived.ChangeKeysEq
import Derived.ProofKit
import Derived.OpenShut
import Derived.ShutString
import Derived.ChangeOld
import Derived.Lib.SmallJoins
import Derived.Laws.Slices
import Derived.Deep.Slices
import Derived.Deep.Strs
import Derived.SizedLaws
import Derived.Laws.StructEq
import Derived.Deep.DeepCutAuto
import Derived.Laws.EntriesVeiled
import Derived.Deep.RegionHeld3
import Derived.Maps.OwnSet
import Derived.DeepKeys4
import Derived.WideKeyArr
import Derived.RangeFuncNested
import Derived.RangeFuncBound
import Derived.RangeFuncCalls
import Derived.RangeFuncLeaves
import Derived.Shelf.Abstract
import Derived.Shelf.RegionOpen
import Derived.OwnWalkIn
import Derived.TacticsInMore
import Derived.LoopNIn
import Derived.LoopIn
import Derived.Laws.Append
import Derived.Laws.AppendOwn
import Derived.WideKeyEntry
import Derived.Shelf.SlMaps.Clone
import Derived.LaidMore
import Derived.Deep.RegionWith
import Derived.Test.YtmpgibemmhcncaaA1
import Derived.Test.YtmpgibemmhcncaaA2
import Derived.Test.YtmpgibemmhcncaaA3
/-
  Of part OtherWalk9: what is needed here.
-/
namespace Go.Proofs.Ytmpgibemmhcncaa
open Go.RowKit
set_option linter.unusedVariables false
/-- three that may come up -/
theorem ready9 {P : Program} {L : List Oper} {Q : Exit → Act → World → Prop} {md : Region.Mode} {S : World → Prop} {i j k : Nat} {o o' o'' : Oper} {fuel : Nat} {listed : Array Bool} {a : Act} {w : World} (ho : L[i]? = some o) (ho' : L[j]? = some o') (ho'' : L[k]? = some o'') (hr : Region.ready md L.toArray listed = [i, j, k])
    (hw : Region.wanted o (yielded L.toArray a.tmps) = true) (hw' : Region.wanted o' (yielded L.toArray a.tmps) = true) (hw'' : Region.wanted o'' (yielded L.toArray a.tmps) = true)
    (h : ∀ K' : Act → World → Prop, Shut (∀ a w, S w → wpAnyH P md L.toArray Q S fuel (listed.setIfInBounds i true) a w → K' a w) → Oper.wp P o a w K' Q)
    (h' : ∀ K' : Act → World → Prop, Shut (∀ a w, S w → wpAnyH P md L.toArray Q S fuel (listed.setIfInBounds j true) a w → K' a w) → Oper.wp P o' a w K' Q)
    (h'' : ∀ K' : Act → World → Prop, Shut (∀ a w, S w → wpAnyH P md L.toArray Q S fuel (listed.setIfInBounds k true) a w → K' a w) → Oper.wp P o'' a w K' Q) : wpAnyH P md L.toArray Q S (fuel + 1) listed a w :=
  wpAnyH_ready hr (by simp) (allL ho hw h (allL ho' hw' h' (allL ho'' hw'' h'' AllReadyH.nil)))
theorem built9_sm (m : List Value) (h : m.length = 39) (A : Option Addr) (n c : Nat) : Try.prog.built 33 [(0, .slice A n c), (1, .agg m.toArray)] = some (.slice A n c :: m).toArray := by
  obtain ⟨f, rfl⟩ := split39 m h
  kernel_rfl
theorem built9_i3 (A1 A2 : Option Addr) (n1 c1 n2 c2 : Nat) : Try.prog.built 44 [(0, .int .u8 7), (1, .slice A1 n1 c1), (2, .slice A2 n2 c2)] = some (inCells 7 (.slice A1 n1 c1) (.slice A2 n2 c2)).toArray := by kernel_rfl
/-- as many bytes in two instructions -/
def two9 (a b : Nat) : List LIn := [⟨0, [], List.replicate a 0⟩, ⟨7, [1], List.replicate b 0⟩]
theorem dat9_two (a b : Nat) : dat9 (two9 a b) = a + b := by simp [dat9, two9]
/-- a message's transaction -/
theorem CX.msg2 {w : World} {B : Nat} {q : Raw} {m : LMsg} (h : MsgIn w B q m) (A : Option Addr) (n c : Nat) : CX w B (.slice A n c :: q.cells m) n m.ins := by
  have := (CX.of (s := ⟨none, 0, 0, q⟩) (x := ⟨[], m⟩) ⟨⟨rfl, fun k hk => by simp at hk, Sees.nil _ _ _⟩, by simp [maxLen], h⟩).sigs A n c
  exact this
set_option maxRecDepth 100000 in
set_option maxHeartbeats 8000000 in
theorem other_walk9 (s : TRaw) (x : LTx) (q : Raw) (m : LMsg) (w : World) (hm : TxIn w w.heap.size s x) (hs : Sized x.m) (hl : x.sigs.length ≤ 140737488355328) (hm2 : MsgIn w w.heap.size q m) (hs2 : Sized m) :
    Calls Try.prog 6 #[.agg (s.cells x).toArray, .agg (q.cells m).toArray] w fun e w' => e = .returned (.bool true) ∧ Below w.heap.size w w' := by
  have hrow := (Row.new w 33 (s.cells x)).alloc (.cells (q.cells m).toArray 31)
  have hrow2 := Row.new' (w.alloc (.cells (s.cells x).toArray 33)) 31 (q.cells m) (g := w.heap.size + 1) (by simp)
  have hb0 := ((Below.refl w.heap.size w).alloc (Nat.le_refl _) (.cells (s.cells x).toArray 33)).alloc (by simp) (.cells (q.cells m).toArray 31)
  have hm0 := hm.below hb0
  have hn0 := hm2.below hb0
  have HG := Lib.hid (great_ s.q x.m w.heap.size _ hm0.m hb0.size hs)
  have HG2 : Hid (∀ V : World, MsgIn V w.heap.size q m → w.heap.size ≤ V.heap.size → Calls Try.prog 7 #[.agg (q.cells m).toArray] V fun e w' => (∃ b, e = .returned (.bool b)) ∧ Below V.heap.size V w') := Lib.hid fun V h hz => (great_ q m w.heap.size V h hz hs2).mono fun e w' h => ⟨by obtain ⟨⟨b, hb, _⟩, _⟩ := h; exact ⟨b, hb⟩, h.2⟩
  have HX0 := Lib.hid (CX.of hm0)
  have HN0 := Lib.hid hn0
  have HY0 : Hid (∀ V : World, MsgIn V w.heap.size q m → ∀ A n c, CX V w.heap.size (.slice A n c :: q.cells m) n m.ins) := Lib.hid fun V h A n c => CX.msg2 h A n c
  have HSM := Lib.hid (show (Try.prog.info? 31).map (·.size) = some (s.q.cells x.m).length by rw [size_msg, cells_len hm.m.recent])
  have HSN := Lib.hid (show (Try.prog.info? 31).map (·.size) = some (q.cells m).length by rw [size_msg, cells_len hm2.recent])
  have HML := Lib.hid (built9_sm (q.cells m) (cells_len hm2.recent))
  have HST := Lib.hid (show (Try.prog.info? 33).map (·.size) = some (s.cells x).length by rw [tcells_len hm.m.recent]; exact size_tx9)
  have HCM := Lib.hid (tcells_m (s := s) (x := x))
  have c0 : (s.cells x)[0]? = some (.slice s.SA x.sigs.length s.sc) := by rw [hm.sigs.len]; rfl
  have HC0 := Lib.hid c0
  have h38 : (s.cells x)[38]? = some (.slice s.q.IA x.m.ins.length s.q.ic) := by rw [hm.m.ins.len]; exact (tcells_m 37).trans (cells_37 hm.m.recent)
  have HC38 := Lib.hid h38
  have hin := hm0.m.ins
  rw [← hm.m.ins.len] at hin
  have HIN := Lib.hid hin
  have HDT := Lib.hid (dat9_le x.m.ins)
  have HIT := Lib.hid (show x.m.ins.length + inSize x.m.ins ≤ total x.m by unfold total; omega)
  have HSM2 := Lib.hid hl
  generalize s.cells x = cs at *
  generalize s.q.cells x.m = mc at *
  generalize q.cells m = mm at *
  generalize x.m.ins = l at *
  generalize x.sigs.length = ns at *
  have HROW := Lib.hid hrow
  have HROW2 := Lib.hid hrow2
  have HB0 := Lib.hid hb0
  clear hrow hrow2 hb0 hm0 hn0 c0 hl h38 hm hm2 hs hs2 hin
  go_enter Try.func6, Try.ntmps6
  go_wp2_with ((with_reducible show wpList _ _ _ ({ dst := some 9, op := Op.load _ _, type := _, pos := _, after := _, guard := _ } :: _) _ _); go_must (refine wpList_load_at rfl 31 (.tmp 8) rfl ⟨w.heap.size, 1, none⟩ mc _ Try.underlying31 rfl HSM.out (fun j v hv => by rw [addr_row, HROW.out.cell, HCM.out]; exact hv) ?_ ?_; go_simp))
  refine HG.out.mono ?_
  rintro e w1 ⟨⟨b, rfl, hgr⟩, hb1⟩
  have B1 := Lib.hid (HB0.out.trans (hb1.mono HB0.out.size))
  have RX := Lib.hid (HROW.out.below hb1 HROW.out.lt)
  have RM := Lib.hid (HROW2.out.below hb1 HROW2.out.lt)
  have N1 := Lib.hid (HN0.out.below (hb1.mono HB0.out.size))
  have e0 := (RX.out.cell 0).trans HC0.out
  cases b
  rotate_left
  · clear hb1 hgr e0
    go_wp2_with fail
    refine (lives9 _).mono ?_
    rintro e wl ⟨rfl, hbl⟩
    go_wp2_with fail
    go_ret
    exact ⟨rfl, B1.out.trans (hbl.mono B1.out.size)⟩
  have hgr := hgr rfl
  have HN : Hid (l.length ≤ 4000 ∧ dat9 l ≤ 4000) := Lib.hid (by have := HDT.out; have := HIT.out; omega)
  have HX1 := Lib.hid (HX0.out.below (hb1.mono HB0.out.size))
  have HIN1 := Lib.hid (HIN.out.below (hb1.mono HB0.out.size))
  clear hb1 hgr HG HX0 HIN HN0 HROW HROW2 HDT HIT
  go_wp2_with ((with_reducible show wpList _ _ _ ({ dst := some 12, op := Op.load _ _, type := _, pos := _, after := _, guard := _ } :: _) _ _); go_must (refine wpList_load_atg (by kernel_rfl) 31 (.tmp 3) rfl ⟨w.heap.size + 1, 0, none⟩ mm _ Try.underlying31 rfl HSN.out (fun j v hv => by rw [addr_row, RM.out.cell]; simpa using hv) ?_ ?_; go_simp))
  refine (HG2.out w1 N1.out B1.out.size).mono ?_
  rintro e w2 ⟨⟨b, rfl⟩, hb2⟩
  have B2 := Lib.hid (B1.out.trans (hb2.mono B1.out.size))
  have RX := Lib.hid (RX.out.below hb2 RX.out.lt)
  have RM := Lib.hid (RM.out.below hb2 RM.out.lt)
  have N2 := Lib.hid (N1.out.below (hb2.mono B1.out.size))
  have HX2 := Lib.hid (HX1.out.below (hb2.mono B1.out.size))
  have HIN2 := Lib.hid (HIN1.out.below (hb2.mono B1.out.size))
  have e0 := (RX.out.cell 0).trans HC0.out
  clear hb2 HG2 N1 HX1 HIN1
  cases b
  rotate_left
  · clear e0
    go_wp2_with fail
    refine (lives9 _).mono ?_
    rintro e wl ⟨rfl, hbl⟩
    go_wp2_with fail
    go_ret
    exact ⟨rfl, B2.out.trans (hbl.mono B2.out.size)⟩
  have hz := HSM2.out
  by_cases h : 300 < (ns : Int)
  · go_wp2_with fail
    refine (lives9 _).mono ?_
    rintro e wl ⟨rfl, hbl⟩
    go_wp2_with fail
    go_ret
    exact ⟨rfl, B2.out.trans (hbl.mono B2.out.size)⟩
  have hns : ns ≤ 300 := by omega
  go_upto_region 3 with fail
  clear h hz
  have HV := Lib.hid ((Below.refl w2.heap.size w2).drew)
  have E0 := Lib.hid e0
  clear e0
  go_cut [5] (fun s5 wx => ∃ gy gs : Nat, s5 = .pointer (some ⟨gy, 0, none⟩) ∧ Row wx gy 33 (.slice (some ⟨gs, 0, none⟩) ns ns :: mm) ∧ w2.heap.size ≤ gy ∧ Below w2.heap.size w2 wx)
  case first =>
    refine wp_region_held_drew (S := fun V => Below w2.heap.size w2 V) (by kernel_rfl) HV.out (fun _ => ?_)
    generalize w2.drew = V0 at *
    obtain ⟨i0, hi, hz0, hz1, hz2⟩ := info_parts info_sig
    refine takeL (i := 0) (v := ?_) rfl (by kernel_rfl) (by kernel_rfl) (by kernel_rfl) (fun _ _ _ h => h) (Or.inl ⟨by rfl, ?_⟩) HV.out ?_
    rotate_left
    · intro w hw
      try dsimp only at hw
      go_simp
      try with_reducible rfl
    try simp only [Act.put, List.setIfInBounds_toArray, List.set_cons_zero, List.set_cons_succ]
    refine takeL (i := 1) (v := .slice s.SA ns s.sc) rfl (by kernel_rfl) (by kernel_rfl) (by kernel_rfl) (fun _ _ _ h => h) (Or.inl ⟨by rfl, fun wz hwz => by have hcx := (hwz.cell (p := ⟨w.heap.size, 0, none⟩) RX.out.lt).trans E0.out; go_simp⟩) HV.out ?_
    try simp only [Act.put, List.setIfInBounds_toArray, List.set_cons_zero, List.set_cons_succ]
    refine takeL (i := 2) (v := ?_) rfl (by kernel_rfl) (by kernel_rfl) (by kernel_rfl) (fun _ _ _ h => h) (Or.inl ⟨by rfl, ?_⟩) HV.out ?_
    rotate_left
    · intro w hw
      try dsimp only at hw
      go_simp
      try with_reducible rfl
    try simp only [Act.put, List.setIfInBounds_toArray, List.set_cons_zero, List.set_cons_succ]
    refine takeL (i := 4) (v := .agg mm.toArray) rfl (by kernel_rfl) (by kernel_rfl) (by kernel_rfl) (fun _ _ _ h => h) (Or.inl ⟨by rfl, fun wz hwz => exec_load_at wz 31 (.tmp 3) rfl ⟨w.heap.size + 1, 0, none⟩ mm _ Try.underlying31 rfl HSN.out (fun j u hu => (hwz.cell (p := (⟨w.heap.size + 1, 0, none⟩ : Addr).add j) (by rw [addr_row]; exact RM.out.lt)).trans (by rw [addr_row, RM.out.cell]; simpa using hu)) (by go_simp)⟩) HV.out ?_
    try simp only [Act.put, List.setIfInBounds_toArray, List.set_cons_zero, List.set_cons_succ]
    refine readyL2 (i := 3) (j := 6) rfl rfl (by kernel_rfl) (by kernel_rfl) (by kernel_rfl) (fun K hK => ?_) (fun K hK => ?_)
    · refine wp_make_full (.tmp 24) (.tmp 24) 22 rfl V0.heap.size 41 i0 _ 64 Try.underlying22 hi hz0 hz1 .i64 .i64 ns rfl rfl (by rw [hz2]; omega) (by unfold maxLen; omega) (Nat.le_refl _) ?_
      intro V1 hown hgrow
      have hb := (Below.refl V0.heap.size V0).grown hgrow (Nat.le_refl _) (fun k hk => by cases hk)
      have HV := Lib.hid (HV.out.trans (hb.mono HV.out.size))
      clear hown hgrow hb
      refine hK.out _ _ HV.out ?_
      clear hK K
      try simp only [Act.put, List.setIfInBounds_toArray, List.set_cons_zero, List.set_cons_succ]
      refine takeL (i := 5) (v := .agg (Value.slice (some ⟨V0.heap.size, 0, none⟩) ns ns :: mm).toArray) rfl (by kernel_rfl) (by kernel_rfl) (by kernel_rfl) (fun _ _ _ h => h) (Or.inl ⟨by rfl, fun wz hwz => exec_built wz _ _ _ rfl (by simp only [List.map_toArray, List.map_cons, List.map_nil]; exact HML.out _ _ _)⟩) HV.out ?_
      try simp only [Act.put, List.setIfInBounds_toArray, List.set_cons_zero, List.set_cons_succ]
      refine readyL (i := 6) rfl (by kernel_rfl) (by kernel_rfl) fun K hK => ?_
      go_simp
      have hX : ∀ c, c = tzero.toArray → V1.alloc (.cells c 33) = V1.alloc (.cells tzero.toArray 33) := by rintro _ rfl; rfl
      rw [hX]
      rotate_left
      · kernel_rfl
      clear hX
      have hb := (Below.refl V1.heap.size V1).alloc (Nat.le_refl _) (.cells tzero.toArray 33)
      have RT := Lib.hid (Row.new V1 33 tzero)
      have GT : Hid (w2.heap.size ≤ V1.heap.size) := Lib.hid HV.out.size
      have HV := Lib.hid (HV.out.trans (hb.mono HV.out.size))
      clear hb
      refine hK.out _ _ HV.out ?_
      clear hK K
      try simp only [Act.put, List.setIfInBounds_toArray, List.set_cons_zero, List.set_cons_succ]
      obtain ⟨gt, hgt⟩ : ∃ gt, gt = V1.heap.size := ⟨_, rfl⟩
      rw [← hgt] at RT GT ⊢
      clear hgt
      refine readyL (i := 7) rfl (by kernel_rfl) (by kernel_rfl) fun K hK => ?_
      refine wp_store_whole 33 (.tmp 5) (.tmp 27) rfl gt tzero (.slice (some ⟨V0.heap.size, 0, none⟩) ns ns :: mm) RT.out (by rw [(HY0.out w2 N2.out none 0 0).len |> fun h => show (Value.slice (some ⟨V0.heap.size, 0, none⟩) ns ns :: mm).length = 40 from h]; exact size_tx9) (by rw [show (Value.slice (some ⟨V0.heap.size, 0, none⟩) ns ns :: mm).length = 40 from (HY0.out w2 N2.out none 0 0).len]; rfl) (HY0.out w2 N2.out (some ⟨V0.heap.size, 0, none⟩) ns ns).one ?_ ?_ ?_
      · go_simp
      · go_simp
      intro W9 hr9 ht9
      have hb9 := HV.out.trans (ht9.below GT.out)
      refine hK.out _ _ hb9 ?_
      clear hK K
      try simp only [Act.put]
      refine wpAnyH_done (by kernel_rfl) ?_ _
      go_wp2_with fail
      go_meet
      exact ⟨gt, V0.heap.size, rfl, hr9, GT.out, hb9⟩
    · go_simp
      have hX : ∀ c, c = tzero.toArray → V0.alloc (.cells c 33) = V0.alloc (.cells tzero.toArray 33) := by rintro _ rfl; rfl
      rw [hX]
      rotate_left
      · kernel_rfl
      clear hX
      have hb := (Below.refl V0.heap.size V0).alloc (Nat.le_refl _) (.cells tzero.toArray 33)
      have RT := Lib.hid (Row.new V0 33 tzero)
      have GT : Hid (w2.heap.size ≤ V0.heap.size) := Lib.hid HV.out.size
      have HV := Lib.hid (HV.out.trans (hb.mono HV.out.size))
      clear hb
      refine hK.out _ _ HV.out ?_
      clear hK K
      try simp only [Act.put, List.setIfInBounds_toArray, List.set_cons_zero, List.set_cons_succ]
      obtain ⟨gt, hgt⟩ : ∃ gt, gt = V0.heap.size := ⟨_, rfl⟩
      rw [← hgt] at RT GT ⊢
      clear hgt
      generalize V0.alloc (.cells tzero.toArray 33) = V1 at *
      refine readyL (i := 3) rfl (by kernel_rfl) (by kernel_rfl) fun K hK => ?_
      refine wp_make_full (.tmp 24) (.tmp 24) 22 rfl V1.heap.size 41 i0 _ 64 Try.underlying22 hi hz0 hz1 .i64 .i64 ns rfl rfl (by rw [hz2]; omega) (by unfold maxLen; omega) (Nat.le_refl _) ?_
      intro V2 hown hgrow
      have hb := (Below.refl V1.heap.size V1).grown hgrow (Nat.le_refl _) (fun k hk => by cases hk)
      have HV := Lib.hid (HV.out.trans (hb.mono HV.out.size))
      have RT := Lib.hid (RT.out.below hb RT.out.lt)
      clear hown hgrow hb
      refine hK.out _ _ HV.out ?_
      clear hK K
      try simp only [Act.put, List.setIfInBounds_toArray, List.set_cons_zero, List.set_cons_succ]
      refine takeL (i := 5) (v := .agg (Value.slice (some ⟨V1.heap.size, 0, none⟩) ns ns :: mm).toArray) rfl (by kernel_rfl) (by kernel_rfl) (by kernel_rfl) (fun _ _ _ h => h) (Or.inl ⟨by rfl, fun wz hwz => exec_built wz _ _ _ rfl (by simp only [List.map_toArray, List.map_cons, List.map_nil]; exact HML.out _ _ _)⟩) HV.out ?_
      try simp only [Act.put, List.setIfInBounds_toArray, List.set_cons_zero, List.set_cons_succ]
      refine readyL (i := 7) rfl (by kernel_rfl) (by kernel_rfl) fun K hK => ?_
      refine wp_store_whole 33 (.tmp 5) (.tmp 27) rfl gt tzero (.slice (some ⟨V1.heap.size, 0, none⟩) ns ns :: mm) RT.out (by rw [(HY0.out w2 N2.out none 0 0).len |> fun h => show (Value.slice (some ⟨V1.heap.size, 0, none⟩) ns ns :: mm).length = 40 from h]; exact size_tx9) (by rw [show (Value.slice (some ⟨V1.heap.size, 0, none⟩) ns ns :: mm).length = 40 from (HY0.out w2 N2.out none 0 0).len]; rfl) (HY0.out w2 N2.out (some ⟨V1.heap.size, 0, none⟩) ns ns).one ?_ ?_ ?_
      · go_simp
      · go_simp
      intro W9 hr9 ht9
      have hb9 := HV.out.trans (ht9.below GT.out)
      refine hK.out _ _ hb9 ?_
      clear hK K
      try simp only [Act.put]
      refine wpAnyH_done (by kernel_rfl) ?_ _
      go_wp2_with fail
      go_meet
      exact ⟨gt, V1.heap.size, rfl, hr9, GT.out, hb9⟩
  case rest =>
  obtain ⟨gy, gs, rfl, hry, hgy, hbc⟩ := hcut
  have RY := Lib.hid hry
  have GY := Lib.hid hgy
  have BC := Lib.hid hbc
  have d38 : wc.cell? ⟨w.heap.size, 38, none⟩ = some (.slice s.q.IA l.length s.q.ic) := ((RX.out.below hbc RX.out.lt).cell 38).trans HC38.out
  have HIN := Lib.hid (HIN2.out.below (hbc.mono B2.out.size))
  have hnl := HN.out.1
  clear hry hgy hbc HIN2
  go_wp2_with fail
  go_loop [6, 7] (fun s i => ∃ k : Nat, k ≤ l.length ∧ i = .int .i64 k ∧ s = .int .i64 (dat9 (l.take k) : Nat)) (fun _ i => l.length - (intOf i).toNat)
  case atStart => exact ⟨0, Nat.zero_le _, rfl, rfl⟩
  case round =>
  obtain ⟨k, hk, rfl, rfl⟩ := hrel
  by_cases hlt : k < l.length
  · obtain ⟨a, y, va, vd, eA, hab, hx, hat⟩ := HIN.out.get hlt
    have HS := Lib.hid (dat9_succ hx)
    have hs1 := dat9_take l (k + 1)
    have hs3 := HN.out.2
    obtain ⟨DA, dc, hvd, hds, hdn, hdm⟩ := hat.dat.is
    subst hvd
    have hcd : wc.cell? ⟨(a.add (k * 3)).block, (a.add (k * 3)).off + 2, none⟩ = some (.slice DA y.dat.length dc) := hat.cells 2 _ rfl
    have hs4 : dat9 (l.take k) + y.dat.length ≤ 4000 := by have := HS.out; omega
    have HC : Hid (((dat9 (l.take k) : Nat) : Int) + (y.dat.length : Nat) = (dat9 (l.take (k + 1)) : Nat)) := Lib.hid (by rw [HS.out]; omega)
    rw [eA] at d38
    clear hat hab hx hds hdn hdm hs1 hs3
    generalize y.dat.length = mq at *
    generalize dat9 (l.take k) = sq at *
    go_wp2
    go_round
    case rel => exact ⟨k + 1, by omega, by go_num, by rw [HC.out]⟩
    case measure => simp [intOf]; omega
  · obtain rfl : k = l.length := by omega
    have e : l.take l.length = l := List.take_length
    rw [e]
    clear hlt hk e
    have hd4 := HN.out.2
    obtain ⟨h1, hh1⟩ : ∃ h1 : Nat, h1 = dat9 l / 2 := ⟨_, rfl⟩
    obtain ⟨h2, hh2⟩ : ∃ h2 : Nat, h2 = dat9 l - dat9 l / 2 := ⟨_, rfl⟩
    have H12 : Hid (h1 + h2 = dat9 l ∧ h1 ≤ 4000 ∧ h2 ≤ 4000) := Lib.hid (by omega)
    have q1 : (dat9 l : Int).tdiv 2 = (h1 : Nat) := by rw [Int.tdiv_eq_ediv_of_nonneg (by omega)]; omega
    have q2 : (dat9 l : Int) / 2 = (h1 : Nat) := by omega
    have q3 : (dat9 l : Int) - (h1 : Nat) = (h2 : Nat) := by omega
    clear hh1 hh2
    go_upto_region 9 with fail
    go_cut [57] (fun s57 wx => ∃ zs, Row wx gy 33 zs ∧ CX wx wx.heap.size zs ns (two9 h1 h2) ∧ Below w2.heap.size w2 wx)
    case first =>
      have RYA := Lib.hid (RY.out.drew)
      have HV : Hid (Below wc.heap.size wc wc.drew) := Lib.hid (Below.refl _ _).drew
      have GG : Hid (gy < wc.heap.size) := Lib.hid RY.out.lt
      have YS : Hid ((Value.slice (some ⟨gs, 0, none⟩) ns ns :: mm)[38]? = some ((Value.slice (some ⟨gs, 0, none⟩) ns ns :: mm)[38]'(by rw [show (Value.slice (some ⟨gs, 0, none⟩) ns ns :: mm).length = 40 from (HY0.out w2 N2.out none 0 0).len]; omega))) := Lib.hid (List.getElem?_eq_getElem _)
      refine wp_region_held_drew (S := fun _ => True) (by kernel_rfl) trivial (fun _ => ?_)
      generalize wc.drew = V0 at *
      obtain ⟨i0, hi, hz0, hz1, hz2⟩ := info_parts info_u8
      have w1_ : IntKind.i64.wrap (h1 : Nat) = (h1 : Nat) := IntWalk.i64_in _ (by have := H12.out; omega)
      have w2_ : IntKind.i64.wrap (h2 : Nat) = (h2 : Nat) := IntWalk.i64_in _ (by have := H12.out; omega)
      have hh := H12.out
      refine takeL (i := 0) (v := ?_) rfl (by kernel_rfl) (by kernel_rfl) (by kernel_rfl) (fun _ _ _ h => h) (Or.inl ⟨by rfl, ?_⟩) trivial ?_
      rotate_left
      · intro w hw
        try dsimp only at hw
        go_simp
        try with_reducible rfl
      try simp only [Act.put, List.setIfInBounds_toArray, List.set_cons_zero, List.set_cons_succ]
      refine takeL (i := 1) (v := .int .i64 (h1 : Nat)) rfl (by kernel_rfl) (by kernel_rfl) (by kernel_rfl) (fun _ _ _ h => h) (Or.inl ⟨by rfl, fun wz hwz => by go_simp⟩) trivial ?_
      try simp only [Act.put, List.setIfInBounds_toArray, List.set_cons_zero, List.set_cons_succ]
      refine takeL (i := 5) (v := ?_) rfl (by kernel_rfl) (by kernel_rfl) (by kernel_rfl) (fun _ _ _ h => h) (Or.inl ⟨by rfl, ?_⟩) trivial ?_
      rotate_left
      · intro w hw
        try dsimp only at hw
        go_simp
        try with_reducible rfl
      try simp only [Act.put, List.setIfInBounds_toArray, List.set_cons_zero, List.set_cons_succ]
      refine takeL (i := 6) (v := ?_) rfl (by kernel_rfl) (by kernel_rfl) (by kernel_rfl) (fun _ _ _ h => h) (Or.inl ⟨by rfl, ?_⟩) trivial ?_
      rotate_left
      · intro w hw
        try dsimp only at hw
        go_simp
        try with_reducible rfl
      try simp only [Act.put, List.setIfInBounds_toArray, List.set_cons_zero, List.set_cons_succ]
      refine takeL (i := 7) (v := .int .i64 (h1 : Nat)) rfl (by kernel_rfl) (by kernel_rfl) (by kernel_rfl) (fun _ _ _ h => h) (Or.inl ⟨by rfl, fun wz hwz => by go_simp⟩) trivial ?_
      try simp only [Act.put, List.setIfInBounds_toArray, List.set_cons_zero, List.set_cons_succ]
      refine takeL (i := 8) (v := .int .i64 (h2 : Nat)) rfl (by kernel_rfl) (by kernel_rfl) (by kernel_rfl) (fun _ _ _ h => h) (Or.inl ⟨by rfl, fun wz hwz => by go_simp⟩) trivial ?_
      try simp only [Act.put, List.setIfInBounds_toArray, List.set_cons_zero, List.set_cons_succ]
      clear q1 q2 q3 w1_ w2_
      refine ready9 (i := 2) (j := 4) (k := 9) rfl rfl rfl (by kernel_rfl) (by kernel_rfl) (by kernel_rfl) (by kernel_rfl) (fun K hK => ?_) (fun K hK => ?_) (fun K hK => ?_)
      · refine wp_make_full (.tmp 47) (.tmp 47) 42 rfl V0.heap.size 5 i0 _ 1 Try.underlying42 hi hz0 hz1 .i64 .i64 h1 rfl rfl (by rw [hz2]; omega) (by unfold maxLen; omega) (Nat.le_refl _) ?_
        intro V1 hown hgrow
        rw [made_bytes] at hown
        have hb := (Below.refl V0.heap.size V0).grown hgrow (Nat.le_refl _) (fun k hk => by cases hk)
        have DA := Lib.hid (Row.of_ownN hown)
        clear hown hgrow
        have RYA := Lib.hid (RYA.out.below hb RYA.out.lt)
        have GZ0 := Lib.hid HV.out.size
        have HV := Lib.hid (HV.out.trans (hb.mono HV.out.size))
        clear hb
        refine hK.out _ _ trivial ?_
        clear hK K
        try simp only [Act.put, List.setIfInBounds_toArray, List.set_cons_zero, List.set_cons_succ]
        obtain ⟨ga, hga⟩ : ∃ g, g = V0.heap.size := ⟨_, rfl⟩
        rw [← hga] at DA GZ0 ⊢
        have Gga := GZ0
        clear hga GZ0
        refine takeL (i := 3) (v := .agg (inCells 0 (.slice none 0 0) (.slice (some ⟨ga, 0, none⟩) h1 h1)).toArray) rfl (by kernel_rfl) (by kernel_rfl) (by kernel_rfl) (fun _ _ _ h => h) (Or.inl ⟨by rfl, fun wz hwz => exec_built wz _ _ _ rfl (by simp only [List.map_toArray, List.map_cons, List.map_nil]; exact built9_in _ _ _)⟩) trivial ?_
        try simp only [Act.put, List.setIfInBounds_toArray, List.set_cons_zero, List.set_cons_succ]
        refine readyL2 (i := 4) (j := 9) rfl rfl (by kernel_rfl) (by kernel_rfl) (by kernel_rfl) (fun K hK => ?_) (fun K hK => ?_)
        · go_simp
          have hb := (Below.refl V1.heap.size V1).alloc (Nat.le_refl _) (.cells [Value.int .u8 1].toArray 5)
          have DB := Lib.hid (Row.new V1 5 [Value.int .u8 1])
          have RYA := Lib.hid (RYA.out.below hb RYA.out.lt)
          have GZ1 := Lib.hid HV.out.size
          have HV := Lib.hid (HV.out.trans (hb.mono HV.out.size))
          have DA := Lib.hid (DA.out.below hb DA.out.lt)
          clear hb
          refine hK.out _ _ trivial ?_
          clear hK K
          try simp only [Act.put, List.setIfInBounds_toArray, List.set_cons_zero, List.set_cons_succ]
          generalize V1.alloc (.cells #[Value.int .u8 1] 5) = V2 at *
          obtain ⟨gb, hgb⟩ : ∃ g, g = V1.heap.size := ⟨_, rfl⟩
          rw [← hgb] at DB GZ1 ⊢
          have Ggb := GZ1
          clear hgb GZ1
          refine readyL (i := 9) rfl (by kernel_rfl) (by kernel_rfl) fun K hK => ?_
          refine wp_make_full (.tmp 54) (.tmp 54) 42 rfl V2.heap.size 5 i0 _ 1 Try.underlying42 hi hz0 hz1 .i64 .i64 h2 rfl rfl (by rw [hz2]; omega) (by unfold maxLen; omega) (Nat.le_refl _) ?_
          intro V3 hown hgrow
          rw [made_bytes] at hown
          have hb := (Below.refl V2.heap.size V2).grown hgrow (Nat.le_refl _) (fun k hk => by cases hk)
          have DC := Lib.hid (Row.of_ownN hown)
          clear hown hgrow
          have RYA := Lib.hid (RYA.out.below hb RYA.out.lt)
          have GZ2 := Lib.hid HV.out.size
          have HV := Lib.hid (HV.out.trans (hb.mono HV.out.size))
          have DA := Lib.hid (DA.out.below hb DA.out.lt)
          have DB := Lib.hid (DB.out.below hb DB.out.lt)
          clear hb
          refine hK.out _ _ trivial ?_
          clear hK K
          try simp only [Act.put, List.setIfInBounds_toArray, List.set_cons_zero, List.set_cons_succ]
          obtain ⟨gc, hgc⟩ : ∃ g, g = V2.heap.size := ⟨_, rfl⟩
          rw [← hgc] at DC GZ2 ⊢
          have Ggc := GZ2
          clear hgc GZ2
          refine takeL (i := 10) (v := .agg (inCells 7 (.slice (some ⟨gb, 0, none⟩) 1 1) (.slice (some ⟨gc, 0, none⟩) h2 h2)).toArray) rfl (by kernel_rfl) (by kernel_rfl) (by kernel_rfl) (fun _ _ _ h => h) (Or.inl ⟨by rfl, fun wz hwz => exec_built wz _ _ _ rfl (by simp only [List.map_toArray, List.map_cons, List.map_nil]; exact built9_i3 _ _ _ _ _ _)⟩) trivial ?_
          try simp only [Act.put, List.setIfInBounds_toArray, List.set_cons_zero, List.set_cons_succ]
          refine readyL (i := 11) rfl (by kernel_rfl) (by kernel_rfl) fun K hK => ?_
          refine wp_buildTwo9 28 44 (.tmp 49) (.tmp 56) rfl (inCells 0 (.slice none 0 0) (.slice (some ⟨ga, 0, none⟩) h1 h1)) (inCells 7 (.slice (some ⟨gb, 0, none⟩) 1 1) (.slice (some ⟨gc, 0, none⟩) h2 h2)) _ 3 56 Try.underlying28 info_ins5 (by kernel_rfl) (by omega) (by omega) rfl rfl ?_ ?_ ?_
          · go_simp
          · go_simp
          have hb := (Below.refl V3.heap.size V3).alloc (Nat.le_refl _) (.cells ((inCells 0 (.slice none 0 0) (.slice (some ⟨ga, 0, none⟩) h1 h1)) ++ (inCells 7 (.slice (some ⟨gb, 0, none⟩) 1 1) (.slice (some ⟨gc, 0, none⟩) h2 h2))).toArray 44)
          have DI := Lib.hid (Row.new V3 44 ((inCells 0 (.slice none 0 0) (.slice (some ⟨ga, 0, none⟩) h1 h1)) ++ (inCells 7 (.slice (some ⟨gb, 0, none⟩) 1 1) (.slice (some ⟨gc, 0, none⟩) h2 h2))))
          have RYA := Lib.hid (RYA.out.below hb RYA.out.lt)
          have DA := Lib.hid (DA.out.below hb DA.out.lt)
          have DB := Lib.hid (DB.out.below hb DB.out.lt)
          have DC := Lib.hid (DC.out.below hb DC.out.lt)
          have GI := Lib.hid HV.out.size
          have HV := Lib.hid (HV.out.trans (hb.mono HV.out.size))
          clear hb
          refine hK.out _ _ trivial ?_
          clear hK K
          try simp only [Act.put, List.setIfInBounds_toArray, List.set_cons_zero, List.set_cons_succ]
          generalize V3.alloc (.cells ((inCells 0 (.slice none 0 0) (.slice (some ⟨ga, 0, none⟩) h1 h1)) ++ (inCells 7 (.slice (some ⟨gb, 0, none⟩) 1 1) (.slice (some ⟨gc, 0, none⟩) h2 h2))).toArray 44) = V9 at *
          obtain ⟨gi, hgi⟩ : ∃ g, g = V3.heap.size := ⟨_, rfl⟩
          rw [← hgi] at DI GI ⊢
          clear hgi
          refine takeL (i := 12) (v := ?_) rfl (by kernel_rfl) (by kernel_rfl) (by kernel_rfl) (fun _ _ _ h => h) (Or.inl ⟨by rfl, ?_⟩) trivial ?_
          rotate_left
          · intro w hw
            try dsimp only at hw
            go_simp
            try with_reducible rfl
          try simp only [Act.put, List.setIfInBounds_toArray, List.set_cons_zero, List.set_cons_succ]
          refine takeL (i := 13) (v := ?_) rfl (by kernel_rfl) (by kernel_rfl) (by kernel_rfl) (fun _ _ _ h => h) (Or.inl ⟨by rfl, ?_⟩) trivial ?_
          rotate_left
          · intro w hw
            try dsimp only at hw
            go_simp
            try with_reducible rfl
          try simp only [Act.put, List.setIfInBounds_toArray, List.set_cons_zero, List.set_cons_succ]
          refine readyL (i := 14) rfl (by kernel_rfl) (by kernel_rfl) fun K hK => ?_
          have f5 := RYA.out.frozen 38
          have hc5 := (RYA.out.cell 38).trans YS.out
          go_simp
          refine hK.out _ _ trivial ?_
          clear hK K f5 hc5
          try simp only [Act.put, List.setIfInBounds_toArray, List.set_cons_zero, List.set_cons_succ]
          refine wpAnyH_done (by kernel_rfl) ?_ _
          go_wp2_with fail
          go_meet
          have ht := turned_setCell V9 ⟨gy, 38, none⟩ (.slice (some ⟨gi, 0, none⟩) 2 2)
          have hx := RYA.out.set_ 38 (.slice (some ⟨gi, 0, none⟩) 2 2)
          generalize V9.setCell ⟨gy, 38, none⟩ (.slice (some ⟨gi, 0, none⟩) 2 2) = W9 at *
          have g0 := GG.out
          have g1 := Gga.out
          have g2 := Ggb.out
          have g3 := Ggc.out
          have g4 := GI.out
          have ka := ht.row DA.out (show ga ≠ gy by omega)
          have kb := ht.row DB.out (show gb ≠ gy by omega)
          have kc := ht.row DC.out (show gc ≠ gy by omega)
          have ki := ht.row DI.out (show gi ≠ gy by omega)
          have hbel : Below w2.heap.size w2 W9 := (BC.out.trans (HV.out.mono BC.out.size)).trans (ht.below GY.out)
          have hcx := ((HY0.out W9 (N2.out.below (hbel.mono B2.out.size)) (some ⟨gs, 0, none⟩) ns ns).more (Nat.le_trans B2.out.size hbel.size)).ins (c := 2) (l' := two9 h1 h2) (ins_two9 ki ki.lt (bytes_nil W9 _) (bytes_row9 ka ka.lt (by simp) (by unfold maxLen; omega)) (bytes_row9 (xs := [1]) kb kb.lt rfl (by unfold maxLen; omega)) (bytes_row9 kc kc.lt (by simp) (by unfold maxLen; omega)))
          exact ⟨_, hx, hcx, hbel⟩
        · refine wp_make_full (.tmp 54) (.tmp 54) 42 rfl V1.heap.size 5 i0 _ 1 Try.underlying42 hi hz0 hz1 .i64 .i64 h2 rfl rfl (by rw [hz2]; omega) (by unfold maxLen; omega) (Nat.le_refl _) ?_
          intro V2 hown hgrow
          rw [made_bytes] at hown
          have hb := (Below.refl V1.heap.size V1).grown hgrow (Nat.le_refl _) (fun k hk => by cases hk)
          have DC := Lib.hid (Row.of_ownN hown)
          clear hown hgrow
          have RYA := Lib.hid (RYA.out.below hb RYA.out.lt)
          have GZ1 := Lib.hid HV.out.size
          have HV := Lib.hid (HV.out.trans (hb.mono HV.out.size))
          have DA := Lib.hid (DA.out.below hb DA.out.lt)
          clear hb
          refine hK.out _ _ trivial ?_
          clear hK K
          try simp only [Act.put, List.setIfInBounds_toArray, List.set_cons_zero, List.set_cons_succ]
          obtain ⟨gc, hgc⟩ : ∃ g, g = V1.heap.size := ⟨_, rfl⟩
          rw [← hgc] at DC GZ1 ⊢
          have Ggc := GZ1
          clear hgc GZ1
          refine readyL (i := 4) rfl (by kernel_rfl) (by kernel_rfl) fun K hK => ?_
          go_simp
          have hb := (Below.refl V2.heap.size V2).alloc (Nat.le_refl _) (.cells [Value.int .u8 1].toArray 5)
          have DB := Lib.hid (Row.new V2 5 [Value.int .u8 1])
          have RYA := Lib.hid (RYA.out.below hb RYA.out.lt)
          have GZ2 := Lib.hid HV.out.size
          have HV := Lib.hid (HV.out.trans (hb.mono HV.out.size))
          have DA := Lib.hid (DA.out.below hb DA.out.lt)
          have DC := Lib.hid (DC.out.below hb DC.out.lt)
          clear hb
          refine hK.out _ _ trivial ?_
          clear hK K
          try simp only [Act.put, List.setIfInBounds_toArray, List.set_cons_zero, List.set_cons_succ]
          generalize V2.alloc (.cells #[Value.int .u8 1] 5) = V3 at *
          obtain ⟨gb, hgb⟩ : ∃ g, g = V2.heap.size := ⟨_, rfl⟩
          rw [← hgb] at DB GZ2 ⊢
          have Ggb := GZ2
          clear hgb GZ2
          refine takeL (i := 10) (v := .agg (inCells 7 (.slice (some ⟨gb, 0, none⟩) 1 1) (.slice (some ⟨gc, 0, none⟩) h2 h2)).toArray) rfl (by kernel_rfl) (by kernel_rfl) (by kernel_rfl) (fun _ _ _ h => h) (Or.inl ⟨by rfl, fun wz hwz => exec_built wz _ _ _ rfl (by simp only [List.map_toArray, List.map_cons, List.map_nil]; exact built9_i3 _ _ _ _ _ _)⟩) trivial ?_
          try simp only [Act.put, List.setIfInBounds_toArray, List.set_cons_zero, List.set_cons_succ]
          refine readyL (i := 11) rfl (by kernel_rfl) (by kernel_rfl) fun K hK => ?_
          refine wp_buildTwo9 28 44 (.tmp 49) (.tmp 56) rfl (inCells 0 (.slice none 0 0) (.slice (some ⟨ga, 0, none⟩) h1 h1)) (inCells 7 (.slice (some ⟨gb, 0, none⟩) 1 1) (.slice (some ⟨gc, 0, none⟩) h2 h2)) _ 3 56 Try.underlying28 info_ins5 (by kernel_rfl) (by omega) (by omega) rfl rfl ?_ ?_ ?_
          · go_simp
          · go_simp
          have hb := (Below.refl V3.heap.size V3).alloc (Nat.le_refl _) (.cells ((inCells 0 (.slice none 0 0) (.slice (some ⟨ga, 0, none⟩) h1 h1)) ++ (inCells 7 (.slice (some ⟨gb, 0, none⟩) 1 1) (.slice (some ⟨gc, 0, none⟩) h2 h2))).toArray 44)
          have DI := Lib.hid (Row.new V3 44 ((inCells 0 (.slice none 0 0) (.slice (some ⟨ga, 0, none⟩) h1 h1)) ++ (inCells 7 (.slice (some ⟨gb, 0, none⟩) 1 1) (.slice (some ⟨gc, 0, none⟩) h2 h2))))
          have RYA := Lib.hid (RYA.out.below hb RYA.out.lt)
          have DA := Lib.hid (DA.out.below hb DA.out.lt)
          have DB := Lib.hid (DB.out.below hb DB.out.lt)
          have DC := Lib.hid (DC.out.below hb DC.out.lt)
          have GI := Lib.hid HV.out.size
          have HV := Lib.hid (HV.out.trans (hb.mono HV.out.size))
          clear hb
          refine hK.out _ _ trivial ?_
          clear hK K
          try simp only [Act.put, List.setIfInBounds_toArray, List.set_cons_zero, List.set_cons_succ]
          generalize V3.alloc (.cells ((inCells 0 (.slice none 0 0) (.slice (some ⟨ga, 0, none⟩) h1 h1)) ++ (inCells 7 (.slice (some ⟨gb, 0, none⟩) 1 1) (.slice (some ⟨gc, 0, none⟩) h2 h2))).toArray 44) = V9 at *
          obtain ⟨gi, hgi⟩ : ∃ g, g = V3.heap.size := ⟨_, rfl⟩
          rw [← hgi] at DI GI ⊢
          clear hgi
          refine takeL (i := 12) (v := ?_) rfl (by kernel_rfl) (by kernel_rfl) (by kernel_rfl) (fun _ _ _ h => h) (Or.inl ⟨by rfl, ?_⟩) trivial ?_
          rotate_left
          · intro w hw
            try dsimp only at hw
            go_simp
            try with_reducible rfl
          try simp only [Act.put, List.setIfInBounds_toArray, List.set_cons_zero, List.set_cons_succ]
          refine takeL (i := 13) (v := ?_) rfl (by kernel_rfl) (by kernel_rfl) (by kernel_rfl) (fun _ _ _ h => h) (Or.inl ⟨by rfl, ?_⟩) trivial ?_
          rotate_left
          · intro w hw
            try dsimp only at hw
            go_simp
            try with_reducible rfl
          try simp only [Act.put, List.setIfInBounds_toArray, List.set_cons_zero, List.set_cons_succ]
          refine readyL (i := 14) rfl (by kernel_rfl) (by kernel_rfl) fun K hK => ?_
          have f5 := RYA.out.frozen 38
          have hc5 := (RYA.out.cell 38).trans YS.out
          go_simp
          refine hK.out _ _ trivial ?_
          clear hK K f5 hc5
          try simp only [Act.put, List.setIfInBounds_toArray, List.set_cons_zero, List.set_cons_succ]
          refine wpAnyH_done (by kernel_rfl) ?_ _
          go_wp2_with fail
          go_meet
          have ht := turned_setCell V9 ⟨gy, 38, none⟩ (.slice (some ⟨gi, 0, none⟩) 2 2)
          have hx := RYA.out.set_ 38 (.slice (some ⟨gi, 0, none⟩) 2 2)
          generalize V9.setCell ⟨gy, 38, none⟩ (.slice (some ⟨gi, 0, none⟩) 2 2) = W9 at *
          have g0 := GG.out
          have g1 := Gga.out
          have g2 := Ggb.out
          have g3 := Ggc.out
          have g4 := GI.out
          have ka := ht.row DA.out (show ga ≠ gy by omega)
          have kb := ht.row DB.out (show gb ≠ gy by omega)
          have kc := ht.row DC.out (show gc ≠ gy by omega)
          have ki := ht.row DI.out (show gi ≠ gy by omega)
          have hbel : Below w2.heap.size w2 W9 := (BC.out.trans (HV.out.mono BC.out.size)).trans (ht.below GY.out)
          have hcx := ((HY0.out W9 (N2.out.below (hbel.mono B2.out.size)) (some ⟨gs, 0, none⟩) ns ns).more (Nat.le_trans B2.out.size hbel.size)).ins (c := 2) (l' := two9 h1 h2) (ins_two9 ki ki.lt (bytes_nil W9 _) (bytes_row9 ka ka.lt (by simp) (by unfold maxLen; omega)) (bytes_row9 (xs := [1]) kb kb.lt rfl (by unfold maxLen; omega)) (bytes_row9 kc kc.lt (by simp) (by unfold maxLen; omega)))
          exact ⟨_, hx, hcx, hbel⟩
      · go_simp
        have hb := (Below.refl V0.heap.size V0).alloc (Nat.le_refl _) (.cells [Value.int .u8 1].toArray 5)
        have DB := Lib.hid (Row.new V0 5 [Value.int .u8 1])
        have RYA := Lib.hid (RYA.out.below hb RYA.out.lt)
        have GZ0 := Lib.hid HV.out.size
        have HV := Lib.hid (HV.out.trans (hb.mono HV.out.size))
        clear hb
        refine hK.out _ _ trivial ?_
        clear hK K
        try simp only [Act.put, List.setIfInBounds_toArray, List.set_cons_zero, List.set_cons_succ]
        generalize V0.alloc (.cells #[Value.int .u8 1] 5) = V1 at *
        obtain ⟨gb, hgb⟩ : ∃ g, g = V0.heap.size := ⟨_, rfl⟩
        rw [← hgb] at DB GZ0 ⊢
        have Ggb := GZ0
        clear hgb GZ0
        refine readyL2 (i := 2) (j := 9) rfl rfl (by kernel_rfl) (by kernel_rfl) (by kernel_rfl) (fun K hK => ?_) (fun K hK => ?_)
        · refine wp_make_full (.tmp 47) (.tmp 47) 42 rfl V1.heap.size 5 i0 _ 1 Try.underlying42 hi hz0 hz1 .i64 .i64 h1 rfl rfl (by rw [hz2]; omega) (by unfold maxLen; omega) (Nat.le_refl _) ?_
          intro V2 hown hgrow
          rw [made_bytes] at hown
          have hb := (Below.refl V1.heap.size V1).grown hgrow (Nat.le_refl _) (fun k hk => by cases hk)
          have DA := Lib.hid (Row.of_ownN hown)
          clear hown hgrow
          have RYA := Lib.hid (RYA.out.below hb RYA.out.lt)
          have GZ1 := Lib.hid HV.out.size
          have HV := Lib.hid (HV.out.trans (hb.mono HV.out.size))
          have DB := Lib.hid (DB.out.below hb DB.out.lt)
          clear hb
          refine hK.out _ _ trivial ?_
          clear hK K
          try simp only [Act.put, List.setIfInBounds_toArray, List.set_cons_zero, List.set_cons_succ]
          obtain ⟨ga, hga⟩ : ∃ g, g = V1.heap.size := ⟨_, rfl⟩
          rw [← hga] at DA GZ1 ⊢
          have Gga := GZ1
          clear hga GZ1
          refine takeL (i := 3) (v := .agg (inCells 0 (.slice none 0 0) (.slice (some ⟨ga, 0, none⟩) h1 h1)).toArray) rfl (by kernel_rfl) (by kernel_rfl) (by kernel_rfl) (fun _ _ _ h => h) (Or.inl ⟨by rfl, fun wz hwz => exec_built wz _ _ _ rfl (by simp only [List.map_toArray, List.map_cons, List.map_nil]; exact built9_in _ _ _)⟩) trivial ?_
          try simp only [Act.put, List.setIfInBounds_toArray, List.set_cons_zero, List.set_cons_succ]
          refine readyL (i := 9) rfl (by kernel_rfl) (by kernel_rfl) fun K hK => ?_
          refine wp_make_full (.tmp 54) (.tmp 54) 42 rfl V2.heap.size 5 i0 _ 1 Try.underlying42 hi hz0 hz1 .i64 .i64 h2 rfl rfl (by rw [hz2]; omega) (by unfold maxLen; omega) (Nat.le_refl _) ?_
          intro V3 hown hgrow
          rw [made_bytes] at hown
          have hb := (Below.refl V2.heap.size V2).grown hgrow (Nat.le_refl _) (fun k hk => by cases hk)
          have DC := Lib.hid (Row.of_ownN hown)
          clear hown hgrow
          have RYA := Lib.hid (RYA.out.below hb RYA.out.lt)
          have GZ2 := Lib.hid HV.out.size
          have HV := Lib.hid (HV.out.trans (hb.mono HV.out.size))
          have DB := Lib.hid (DB.out.below hb DB.out.lt)
          have DA := Lib.hid (DA.out.below hb DA.out.lt)
          clear hb
          refine hK.out _ _ trivial ?_
          clear hK K
          try simp only [Act.put, List.setIfInBounds_toArray, List.set_cons_zero, List.set_cons_succ]
          obtain ⟨gc, hgc⟩ : ∃ g, g = V2.heap.size := ⟨_, rfl⟩
          rw [← hgc] at DC GZ2 ⊢
          have Ggc := GZ2
          clear hgc GZ2
          refine takeL (i := 10) (v := .agg (inCells 7 (.slice (some ⟨gb, 0, none⟩) 1 1) (.slice (some ⟨gc, 0, none⟩) h2 h2)).toArray) rfl (by kernel_rfl) (by kernel_rfl) (by kernel_rfl) (fun _ _ _ h => h) (Or.inl ⟨by rfl, fun wz hwz => exec_built wz _ _ _ rfl (by simp only [List.map_toArray, List.map_cons, List.map_nil]; exact built9_i3 _ _ _ _ _ _)⟩) trivial ?_
          try simp only [Act.put, List.setIfInBounds_toArray, List.set_cons_zero, List.set_cons_succ]
          refine readyL (i := 11) rfl (by kernel_rfl) (by kernel_rfl) fun K hK => ?_
          refine wp_buildTwo9 28 44 (.tmp 49) (.tmp 56) rfl (inCells 0 (.slice none 0 0) (.slice (some ⟨ga, 0, none⟩) h1 h1)) (inCells 7 (.slice (some ⟨gb, 0, none⟩) 1 1) (.slice (some ⟨gc, 0, none⟩) h2 h2)) _ 3 56 Try.underlying28 info_ins5 (by kernel_rfl) (by omega) (by omega) rfl rfl ?_ ?_ ?_
          · go_simp
          · go_simp
          have hb := (Below.refl V3.heap.size V3).alloc (Nat.le_refl _) (.cells ((inCells 0 (.slice none 0 0) (.slice (some ⟨ga, 0, none⟩) h1 h1)) ++ (inCells 7 (.slice (some ⟨gb, 0, none⟩) 1 1) (.slice (some ⟨gc, 0, none⟩) h2 h2))).toArray 44)
          have DI := Lib.hid (Row.new V3 44 ((inCells 0 (.slice none 0 0) (.slice (some ⟨ga, 0, none⟩) h1 h1)) ++ (inCells 7 (.slice (some ⟨gb, 0, none⟩) 1 1) (.slice (some ⟨gc, 0, none⟩) h2 h2))))
          have RYA := Lib.hid (RYA.out.below hb RYA.out.lt)
          have DA := Lib.hid (DA.out.below hb DA.out.lt)
          have DB := Lib.hid (DB.out.below hb DB.out.lt)
          have DC := Lib.hid (DC.out.below hb DC.out.lt)
          have GI := Lib.hid HV.out.size
          have HV := Lib.hid (HV.out.trans (hb.mono HV.out.size))
          clear hb
          refine hK.out _ _ trivial ?_
          clear hK K
          try simp only [Act.put, List.setIfInBounds_toArray, List.set_cons_zero, List.set_cons_succ]
          generalize V3.alloc (.cells ((inCells 0 (.slice none 0 0) (.slice (some ⟨ga, 0, none⟩) h1 h1)) ++ (inCells 7 (.slice (some ⟨gb, 0, none⟩) 1 1) (.slice (some ⟨gc, 0, none⟩) h2 h2))).toArray 44) = V9 at *
          obtain ⟨gi, hgi⟩ : ∃ g, g = V3.heap.size := ⟨_, rfl⟩
          rw [← hgi] at DI GI ⊢
          clear hgi
          refine takeL (i := 12) (v := ?_) rfl (by kernel_rfl) (by kernel_rfl) (by kernel_rfl) (fun _ _ _ h => h) (Or.inl ⟨by rfl, ?_⟩) trivial ?_
          rotate_left
          · intro w hw
            try dsimp only at hw
            go_simp
            try with_reducible rfl
          try simp only [Act.put, List.setIfInBounds_toArray, List.set_cons_zero, List.set_cons_succ]
          refine takeL (i := 13) (v := ?_) rfl (by kernel_rfl) (by kernel_rfl) (by kernel_rfl) (fun _ _ _ h => h) (Or.inl ⟨by rfl, ?_⟩) trivial ?_
          rotate_left
          · intro w hw
            try dsimp only at hw
            go_simp
            try with_reducible rfl
          try simp only [Act.put, List.setIfInBounds_toArray, List.set_cons_zero, List.set_cons_succ]
          refine readyL (i := 14) rfl (by kernel_rfl) (by kernel_rfl) fun K hK => ?_
          have f5 := RYA.out.frozen 38
          have hc5 := (RYA.out.cell 38).trans YS.out
          go_simp
          refine hK.out _ _ trivial ?_
          clear hK K f5 hc5
          try simp only [Act.put, List.setIfInBounds_toArray, List.set_cons_zero, List.set_cons_succ]
          refine wpAnyH_done (by kernel_rfl) ?_ _
          go_wp2_with fail
          go_meet
          have ht := turned_setCell V9 ⟨gy, 38, none⟩ (.slice (some ⟨gi, 0, none⟩) 2 2)
          have hx := RYA.out.set_ 38 (.slice (some ⟨gi, 0, none⟩) 2 2)
          generalize V9.setCell ⟨gy, 38, none⟩ (.slice (some ⟨gi, 0, none⟩) 2 2) = W9 at *
          have g0 := GG.out
          have g1 := Gga.out
          have g2 := Ggb.out
          have g3 := Ggc.out
          have g4 := GI.out
          have ka := ht.row DA.out (show ga ≠ gy by omega)
          have kb := ht.row DB.out (show gb ≠ gy by omega)
          have kc := ht.row DC.out (show gc ≠ gy by omega)
          have ki := ht.row DI.out (show gi ≠ gy by omega)
          have hbel : Below w2.heap.size w2 W9 := (BC.out.trans (HV.out.mono BC.out.size)).trans (ht.below GY.out)
          have hcx := ((HY0.out W9 (N2.out.below (hbel.mono B2.out.size)) (some ⟨gs, 0, none⟩) ns ns).more (Nat.le_trans B2.out.size hbel.size)).ins (c := 2) (l' := two9 h1 h2) (ins_two9 ki ki.lt (bytes_nil W9 _) (bytes_row9 ka ka.lt (by simp) (by unfold maxLen; omega)) (bytes_row9 (xs := [1]) kb kb.lt rfl (by unfold maxLen; omega)) (bytes_row9 kc kc.lt (by simp) (by unfold maxLen; omega)))
          exact ⟨_, hx, hcx, hbel⟩
        · refine wp_make_full (.tmp 54) (.tmp 54) 42 rfl V1.heap.size 5 i0 _ 1 Try.underlying42 hi hz0 hz1 .i64 .i64 h2 rfl rfl (by rw [hz2]; omega) (by unfold maxLen; omega) (Nat.le_refl _) ?_
          intro V2 hown hgrow
          rw [made_bytes] at hown
          have hb := (Below.refl V1.heap.size V1).grown hgrow (Nat.le_refl _) (fun k hk => by cases hk)
          have DC := Lib.hid (Row.of_ownN hown)
          clear hown hgrow
          have RYA := Lib.hid (RYA.out.below hb RYA.out.lt)
          have GZ1 := Lib.hid HV.out.size
          have HV := Lib.hid (HV.out.trans (hb.mono HV.out.size))
          have DB := Lib.hid (DB.out.below hb DB.out.lt)
          clear hb
          refine hK.out _ _ trivial ?_
          clear hK K
          try simp only [Act.put, List.setIfInBounds_toArray, List.set_cons_zero, List.set_cons_succ]
          obtain ⟨gc, hgc⟩ : ∃ g, g = V1.heap.size := ⟨_, rfl⟩
          rw [← hgc] at DC GZ1 ⊢
          have Ggc := GZ1
          clear hgc GZ1
          refine takeL (i := 10) (v := .agg (inCells 7 (.slice (some ⟨gb, 0, none⟩) 1 1) (.slice (some ⟨gc, 0, none⟩) h2 h2)).toArray) rfl (by kernel_rfl) (by kernel_rfl) (by kernel_rfl) (fun _ _ _ h => h) (Or.inl ⟨by rfl, fun wz hwz => exec_built wz _ _ _ rfl (by simp only [List.map_toArray, List.map_cons, List.map_nil]; exact built9_i3 _ _ _ _ _ _)⟩) trivial ?_
          try simp only [Act.put, List.setIfInBounds_toArray, List.set_cons_zero, List.set_cons_succ]
          refine readyL (i := 2) rfl (by kernel_rfl) (by kernel_rfl) fun K hK => ?_
          refine wp_make_full (.tmp 47) (.tmp 47) 42 rfl V2.heap.size 5 i0 _ 1 Try.underlying42 hi hz0 hz1 .i64 .i64 h1 rfl rfl (by rw [hz2]; omega) (by unfold maxLen; omega) (Nat.le_refl _) ?_
          intro V3 hown hgrow
          rw [made_bytes] at hown
          have hb := (Below.refl V2.heap.size V2).grown hgrow (Nat.le_refl _) (fun k hk => by cases hk)
          have DA := Lib.hid (Row.of_ownN hown)
          clear hown hgrow
          have RYA := Lib.hid (RYA.out.below hb RYA.out.lt)
          have GZ2 := Lib.hid HV.out.size
          have HV := Lib.hid (HV.out.trans (hb.mono HV.out.size))
          have DB := Lib.hid (DB.out.below hb DB.out.lt)
          have DC := Lib.hid (DC.out.below hb DC.out.lt)
          clear hb
          refine hK.out _ _ trivial ?_
          clear hK K
          try simp only [Act.put, List.setIfInBounds_toArray, List.set_cons_zero, List.set_cons_succ]
          obtain ⟨ga, hga⟩ : ∃ g, g = V2.heap.size := ⟨_, rfl⟩
          rw [← hga] at DA GZ2 ⊢
          have Gga := GZ2
          clear hga GZ2
          refine takeL (i := 3) (v := .agg (inCells 0 (.slice none 0 0) (.slice (some ⟨ga, 0, none⟩) h1 h1)).toArray) rfl (by kernel_rfl) (by kernel_rfl) (by kernel_rfl) (fun _ _ _ h => h) (Or.inl ⟨by rfl, fun wz hwz => exec_built wz _ _ _ rfl (by simp only [List.map_toArray, List.map_cons, List.map_nil]; exact built9_in _ _ _)⟩) trivial ?_
          try simp only [Act.put, List.setIfInBounds_toArray, List.set_cons_zero, List.set_cons_succ]
          refine readyL (i := 11) rfl (by kernel_rfl) (by kernel_rfl) fun K hK => ?_
          refine wp_buildTwo9 28 44 (.tmp 49) (.tmp 56) rfl (inCells 0 (.slice none 0 0) (.slice (some ⟨ga, 0, none⟩) h1 h1)) (inCells 7 (.slice (some ⟨gb, 0, none⟩) 1 1) (.slice (some ⟨gc, 0, none⟩) h2 h2)) _ 3 56 Try.underlying28 info_ins5 (by kernel_rfl) (by omega) (by omega) rfl rfl ?_ ?_ ?_
          · go_simp
          · go_simp
          have hb := (Below.refl V3.heap.size V3).alloc (Nat.le_refl _) (.cells ((inCells 0 (.slice none 0 0) (.slice (some ⟨ga, 0, none⟩) h1 h1)) ++ (inCells 7 (.slice (some ⟨gb, 0, none⟩) 1 1) (.slice (some ⟨gc, 0, none⟩) h2 h2))).toArray 44)
          have DI := Lib.hid (Row.new V3 44 ((inCells 0 (.slice none 0 0) (.slice (some ⟨ga, 0, none⟩) h1 h1)) ++ (inCells 7 (.slice (some ⟨gb, 0, none⟩) 1 1) (.slice (some ⟨gc, 0, none⟩) h2 h2))))
          have RYA := Lib.hid (RYA.out.below hb RYA.out.lt)
          have DA := Lib.hid (DA.out.below hb DA.out.lt)
          have DB := Lib.hid (DB.out.below hb DB.out.lt)
          have DC := Lib.hid (DC.out.below hb DC.out.lt)
          have GI := Lib.hid HV.out.size
          have HV := Lib.hid (HV.out.trans (hb.mono HV.out.size))
          clear hb
          refine hK.out _ _ trivial ?_
          clear hK K
          try simp only [Act.put, List.setIfInBounds_toArray, List.set_cons_zero, List.set_cons_succ]
          generalize V3.alloc (.cells ((inCells 0 (.slice none 0 0) (.slice (some ⟨ga, 0, none⟩) h1 h1)) ++ (inCells 7 (.slice (some ⟨gb, 0, none⟩) 1 1) (.slice (some ⟨gc, 0, none⟩) h2 h2))).toArray 44) = V9 at *
          obtain ⟨gi, hgi⟩ : ∃ g, g = V3.heap.size := ⟨_, rfl⟩
          rw [← hgi] at DI GI ⊢
          clear hgi
          refine takeL (i := 12) (v := ?_) rfl (by kernel_rfl) (by kernel_rfl) (by kernel_rfl) (fun _ _ _ h => h) (Or.inl ⟨by rfl, ?_⟩) trivial ?_
          rotate_left
          · intro w hw
            try dsimp only at hw
            go_simp
            try with_reducible rfl
          try simp only [Act.put, List.setIfInBounds_toArray, List.set_cons_zero, List.set_cons_succ]
          refine takeL (i := 13) (v := ?_) rfl (by kernel_rfl) (by kernel_rfl) (by kernel_rfl) (fun _ _ _ h => h) (Or.inl ⟨by rfl, ?_⟩) trivial ?_
          rotate_left
          · intro w hw
            try dsimp only at hw
            go_simp
            try with_reducible rfl
          try simp only [Act.put, List.setIfInBounds_toArray, List.set_cons_zero, List.set_cons_succ]
          refine readyL (i := 14) rfl (by kernel_rfl) (by kernel_rfl) fun K hK => ?_
          have f5 := RYA.out.frozen 38
          have hc5 := (RYA.out.cell 38).trans YS.out
          go_simp
          refine hK.out _ _ trivial ?_
          clear hK K f5 hc5
          try simp only [Act.put, List.setIfInBounds_toArray, List.set_cons_zero, List.set_cons_succ]
          refine wpAnyH_done (by kernel_rfl) ?_ _
          go_wp2_with fail
          go_meet
          have ht := turned_setCell V9 ⟨gy, 38, none⟩ (.slice (some ⟨gi, 0, none⟩) 2 2)
          have hx := RYA.out.set_ 38 (.slice (some ⟨gi, 0, none⟩) 2 2)
          generalize V9.setCell ⟨gy, 38, none⟩ (.slice (some ⟨gi, 0, none⟩) 2 2) = W9 at *
          have g0 := GG.out
          have g1 := Gga.out
          have g2 := Ggb.out
          have g3 := Ggc.out
          have g4 := GI.out
          have ka := ht.row DA.out (show ga ≠ gy by omega)
          have kb := ht.row DB.out (show gb ≠ gy by omega)
          have kc := ht.row DC.out (show gc ≠ gy by omega)
          have ki := ht.row DI.out (show gi ≠ gy by omega)
          have hbel : Below w2.heap.size w2 W9 := (BC.out.trans (HV.out.mono BC.out.size)).trans (ht.below GY.out)
          have hcx := ((HY0.out W9 (N2.out.below (hbel.mono B2.out.size)) (some ⟨gs, 0, none⟩) ns ns).more (Nat.le_trans B2.out.size hbel.size)).ins (c := 2) (l' := two9 h1 h2) (ins_two9 ki ki.lt (bytes_nil W9 _) (bytes_row9 ka ka.lt (by simp) (by unfold maxLen; omega)) (bytes_row9 (xs := [1]) kb kb.lt rfl (by unfold maxLen; omega)) (bytes_row9 kc kc.lt (by simp) (by unfold maxLen; omega)))
          exact ⟨_, hx, hcx, hbel⟩
      · refine wp_make_full (.tmp 54) (.tmp 54) 42 rfl V0.heap.size 5 i0 _ 1 Try.underlying42 hi hz0 hz1 .i64 .i64 h2 rfl rfl (by rw [hz2]; omega) (by unfold maxLen; omega) (Nat.le_refl _) ?_
        intro V1 hown hgrow
        rw [made_bytes] at hown
        have hb := (Below.refl V0.heap.size V0).grown hgrow (Nat.le_refl _) (fun k hk => by cases hk)
        have DC := Lib.hid (Row.of_ownN hown)
        clear hown hgrow
        have RYA := Lib.hid (RYA.out.below hb RYA.out.lt)
        have GZ0 := Lib.hid HV.out.size
        have HV := Lib.hid (HV.out.trans (hb.mono HV.out.size))
        clear hb
        refine hK.out _ _ trivial ?_
        clear hK K
        try simp only [Act.put, List.setIfInBounds_toArray, List.set_cons_zero, List.set_cons_succ]
        obtain ⟨gc, hgc⟩ : ∃ g, g = V0.heap.size := ⟨_, rfl⟩
        rw [← hgc] at DC GZ0 ⊢
        have Ggc := GZ0
        clear hgc GZ0
        refine readyL2 (i := 2) (j := 4) rfl rfl (by kernel_rfl) (by kernel_rfl) (by kernel_rfl) (fun K hK => ?_) (fun K hK => ?_)
        · refine wp_make_full (.tmp 47) (.tmp 47) 42 rfl V1.heap.size 5 i0 _ 1 Try.underlying42 hi hz0 hz1 .i64 .i64 h1 rfl rfl (by rw [hz2]; omega) (by unfold maxLen; omega) (Nat.le_refl _) ?_
          intro V2 hown hgrow
          rw [made_bytes] at hown
          have hb := (Below.refl V1.heap.size V1).grown hgrow (Nat.le_refl _) (fun k hk => by cases hk)
          have DA := Lib.hid (Row.of_ownN hown)
          clear hown hgrow
          have RYA := Lib.hid (RYA.out.below hb RYA.out.lt)
          have GZ1 := Lib.hid HV.out.size
          have HV := Lib.hid (HV.out.trans (hb.mono HV.out.size))
          have DC := Lib.hid (DC.out.below hb DC.out.lt)
          clear hb
          refine hK.out _ _ trivial ?_
          clear hK K
          try simp only [Act.put, List.setIfInBounds_toArray, List.set_cons_zero, List.set_cons_succ]
          obtain ⟨ga, hga⟩ : ∃ g, g = V1.heap.size := ⟨_, rfl⟩
          rw [← hga] at DA GZ1 ⊢
          have Gga := GZ1
          clear hga GZ1
          refine takeL (i := 3) (v := .agg (inCells 0 (.slice none 0 0) (.slice (some ⟨ga, 0, none⟩) h1 h1)).toArray) rfl (by kernel_rfl) (by kernel_rfl) (by kernel_rfl) (fun _ _ _ h => h) (Or.inl ⟨by rfl, fun wz hwz => exec_built wz _ _ _ rfl (by simp only [List.map_toArray, List.map_cons, List.map_nil]; exact built9_in _ _ _)⟩) trivial ?_
          try simp only [Act.put, List.setIfInBounds_toArray, List.set_cons_zero, List.set_cons_succ]
          refine readyL (i := 4) rfl (by kernel_rfl) (by kernel_rfl) fun K hK => ?_
          go_simp
          have hb := (Below.refl V2.heap.size V2).alloc (Nat.le_refl _) (.cells [Value.int .u8 1].toArray 5)
          have DB := Lib.hid (Row.new V2 5 [Value.int .u8 1])
          have RYA := Lib.hid (RYA.out.below hb RYA.out.lt)
          have GZ2 := Lib.hid HV.out.size
          have HV := Lib.hid (HV.out.trans (hb.mono HV.out.size))
          have DC := Lib.hid (DC.out.below hb DC.out.lt)
          have DA := Lib.hid (DA.out.below hb DA.out.lt)
          clear hb
          refine hK.out _ _ trivial ?_
          clear hK K
          try simp only [Act.put, List.setIfInBounds_toArray, List.set_cons_zero, List.set_cons_succ]
          generalize V2.alloc (.cells #[Value.int .u8 1] 5) = V3 at *
          obtain ⟨gb, hgb⟩ : ∃ g, g = V2.heap.size := ⟨_, rfl⟩
          rw [← hgb] at DB GZ2 ⊢
          have Ggb := GZ2
          clear hgb GZ2
          refine takeL (i := 10) (v := .agg (inCells 7 (.slice (some ⟨gb, 0, none⟩) 1 1) (.slice (some ⟨gc, 0, none⟩) h2 h2)).toArray) rfl (by kernel_rfl) (by kernel_rfl) (by kernel_rfl) (fun _ _ _ h => h) (Or.inl ⟨by rfl, fun wz hwz => exec_built wz _ _ _ rfl (by simp only [List.map_toArray, List.map_cons, List.map_nil]; exact built9_i3 _ _ _ _ _ _)⟩) trivial ?_
          try simp only [Act.put, List.setIfInBounds_toArray, List.set_cons_zero, List.set_cons_succ]
          refine readyL (i := 11) rfl (by kernel_rfl) (by kernel_rfl) fun K hK => ?_
          refine wp_buildTwo9 28 44 (.tmp 49) (.tmp 56) rfl (inCells 0 (.slice none 0 0) (.slice (some ⟨ga, 0, none⟩) h1 h1)) (inCells 7 (.slice (some ⟨gb, 0, none⟩) 1 1) (.slice (some ⟨gc, 0, none⟩) h2 h2)) _ 3 56 Try.underlying28 info_ins5 (by kernel_rfl) (by omega) (by omega) rfl rfl ?_ ?_ ?_
          · go_simp
          · go_simp
          have hb := (Below.refl V3.heap.size V3).alloc (Nat.le_refl _) (.cells ((inCells 0 (.slice none 0 0) (.slice (some ⟨ga, 0, none⟩) h1 h1)) ++ (inCells 7 (.slice (some ⟨gb, 0, none⟩) 1 1) (.slice (some ⟨gc, 0, none⟩) h2 h2))).toArray 44)
          have DI := Lib.hid (Row.new V3 44 ((inCells 0 (.slice none 0 0) (.slice (some ⟨ga, 0, none⟩) h1 h1)) ++ (inCells 7 (.slice (some ⟨gb, 0, none⟩) 1 1) (.slice (some ⟨gc, 0, none⟩) h2 h2))))
          have RYA := Lib.hid (RYA.out.below hb RYA.out.lt)
          have DA := Lib.hid (DA.out.below hb DA.out.lt)
          have DB := Lib.hid (DB.out.below hb DB.out.lt)
          have DC := Lib.hid (DC.out.below hb DC.out.lt)
          have GI := Lib.hid HV.out.size
          have HV := Lib.hid (HV.out.trans (hb.mono HV.out.size))
          clear hb
          refine hK.out _ _ trivial ?_
          clear hK K
          try simp only [Act.put, List.setIfInBounds_toArray, List.set_cons_zero, List.set_cons_succ]
          generalize V3.alloc (.cells ((inCells 0 (.slice none 0 0) (.slice (some ⟨ga, 0, none⟩) h1 h1)) ++ (inCells 7 (.slice (some ⟨gb, 0, none⟩) 1 1) (.slice (some ⟨gc, 0, none⟩) h2 h2))).toArray 44) = V9 at *
          obtain ⟨gi, hgi⟩ : ∃ g, g = V3.heap.size := ⟨_, rfl⟩
          rw [← hgi] at DI GI ⊢
          clear hgi
          refine takeL (i := 12) (v := ?_) rfl (by kernel_rfl) (by kernel_rfl) (by kernel_rfl) (fun _ _ _ h => h) (Or.inl ⟨by rfl, ?_⟩) trivial ?_
          rotate_left
          · intro w hw
            try dsimp only at hw
            go_simp
            try with_reducible rfl
          try simp only [Act.put, List.setIfInBounds_toArray, List.set_cons_zero, List.set_cons_succ]
          refine takeL (i := 13) (v := ?_) rfl (by kernel_rfl) (by kernel_rfl) (by kernel_rfl) (fun _ _ _ h => h) (Or.inl ⟨by rfl, ?_⟩) trivial ?_
          rotate_left
          · intro w hw
            try dsimp only at hw
            go_simp
            try with_reducible rfl
          try simp only [Act.put, List.setIfInBounds_toArray, List.set_cons_zero, List.set_cons_succ]
          refine readyL (i := 14) rfl (by kernel_rfl) (by kernel_rfl) fun K hK => ?_
          have f5 := RYA.out.frozen 38
          have hc5 := (RYA.out.cell 38).trans YS.out
          go_simp
          refine hK.out _ _ trivial ?_
          clear hK K f5 hc5
          try simp only [Act.put, List.setIfInBounds_toArray, List.set_cons_zero, List.set_cons_succ]
          refine wpAnyH_done (by kernel_rfl) ?_ _
          go_wp2_with fail
          go_meet
          have ht := turned_setCell V9 ⟨gy, 38, none⟩ (.slice (some ⟨gi, 0, none⟩) 2 2)
          have hx := RYA.out.set_ 38 (.slice (some ⟨gi, 0, none⟩) 2 2)
          generalize V9.setCell ⟨gy, 38, none⟩ (.slice (some ⟨gi, 0, none⟩) 2 2) = W9 at *
          have g0 := GG.out
          have g1 := Gga.out
          have g2 := Ggb.out
          have g3 := Ggc.out
          have g4 := GI.out
          have ka := ht.row DA.out (show ga ≠ gy by omega)
          have kb := ht.row DB.out (show gb ≠ gy by omega)
          have kc := ht.row DC.out (show gc ≠ gy by omega)
          have ki := ht.row DI.out (show gi ≠ gy by omega)
          have hbel : Below w2.heap.size w2 W9 := (BC.out.trans (HV.out.mono BC.out.size)).trans (ht.below GY.out)
          have hcx := ((HY0.out W9 (N2.out.below (hbel.mono B2.out.size)) (some ⟨gs, 0, none⟩) ns ns).more (Nat.le_trans B2.out.size hbel.size)).ins (c := 2) (l' := two9 h1 h2) (ins_two9 ki ki.lt (bytes_nil W9 _) (bytes_row9 ka ka.lt (by simp) (by unfold maxLen; omega)) (bytes_row9 (xs := [1]) kb kb.lt rfl (by unfold maxLen; omega)) (bytes_row9 kc kc.lt (by simp) (by unfold maxLen; omega)))
          exact ⟨_, hx, hcx, hbel⟩
        · go_simp
          have hb := (Below.refl V1.heap.size V1).alloc (Nat.le_refl _) (.cells [Value.int .u8 1].toArray 5)
          have DB := Lib.hid (Row.new V1 5 [Value.int .u8 1])
          have RYA := Lib.hid (RYA.out.below hb RYA.out.lt)
          have GZ1 := Lib.hid HV.out.size
          have HV := Lib.hid (HV.out.trans (hb.mono HV.out.size))
          have DC := Lib.hid (DC.out.below hb DC.out.lt)
          clear hb
          refine hK.out _ _ trivial ?_
          clear hK K
          try simp only [Act.put, List.setIfInBounds_toArray, List.set_cons_zero, List.set_cons_succ]
          generalize V1.alloc (.cells #[Value.int .u8 1] 5) = V2 at *
          obtain ⟨gb, hgb⟩ : ∃ g, g = V1.heap.size := ⟨_, rfl⟩
          rw [← hgb] at DB GZ1 ⊢
          have Ggb := GZ1
          clear hgb GZ1
          refine takeL (i := 10) (v := .agg (inCells 7 (.slice (some ⟨gb, 0, none⟩) 1 1) (.slice (some ⟨gc, 0, none⟩) h2 h2)).toArray) rfl (by kernel_rfl) (by kernel_rfl) (by kernel_rfl) (fun _ _ _ h => h) (Or.inl ⟨by rfl, fun wz hwz => exec_built wz _ _ _ rfl (by simp only [List.map_toArray, List.map_cons, List.map_nil]; exact built9_i3 _ _ _ _ _ _)⟩) trivial ?_
          try simp only [Act.put, List.setIfInBounds_toArray, List.set_cons_zero, List.set_cons_succ]
          refine readyL (i := 2) rfl (by kernel_rfl) (by kernel_rfl) fun K hK => ?_
          refine wp_make_full (.tmp 47) (.tmp 47) 42 rfl V2.heap.size 5 i0 _ 1 Try.underlying42 hi hz0 hz1 .i64 .i64 h1 rfl rfl (by rw [hz2]; omega) (by unfold maxLen; omega) (Nat.le_refl _) ?_
          intro V3 hown hgrow
          rw [made_bytes] at hown
          have hb := (Below.refl V2.heap.size V2).grown hgrow (Nat.le_refl _) (fun k hk => by cases hk)
          have DA := Lib.hid (Row.of_ownN hown)
          clear hown hgrow
          have RYA := Lib.hid (RYA.out.below hb RYA.out.lt)
          have GZ2 := Lib.hid HV.out.size
          have HV := Lib.hid (HV.out.trans (hb.mono HV.out.size))
          have DC := Lib.hid (DC.out.below hb DC.out.lt)
          have DB := Lib.hid (DB.out.below hb DB.out.lt)
          clear hb
          refine hK.out _ _ trivial ?_
          clear hK K
          try simp only [Act.put, List.setIfInBounds_toArray, List.set_cons_zero, List.set_cons_succ]
          obtain ⟨ga, hga⟩ : ∃ g, g = V2.heap.size := ⟨_, rfl⟩
          rw [← hga] at DA GZ2 ⊢
          have Gga := GZ2
          clear hga GZ2
          refine takeL (i := 3) (v := .agg (inCells 0 (.slice none 0 0) (.slice (some ⟨ga, 0, none⟩) h1 h1)).toArray) rfl (by kernel_rfl) (by kernel_rfl) (by kernel_rfl) (fun _ _ _ h => h) (Or.inl ⟨by rfl, fun wz hwz => exec_built wz _ _ _ rfl (by simp only [List.map_toArray, List.map_cons, List.map_nil]; exact built9_in _ _ _)⟩) trivial ?_
          try simp only [Act.put, List.setIfInBounds_toArray, List.set_cons_zero, List.set_cons_succ]
          refine readyL (i := 11) rfl (by kernel_rfl) (by kernel_rfl) fun K hK => ?_
          refine wp_buildTwo9 28 44 (.tmp 49) (.tmp 56) rfl (inCells 0 (.slice none 0 0) (.slice (some ⟨ga, 0, none⟩) h1 h1)) (inCells 7 (.slice (some ⟨gb, 0, none⟩) 1 1) (.slice (some ⟨gc, 0, none⟩) h2 h2)) _ 3 56 Try.underlying28 info_ins5 (by kernel_rfl) (by omega) (by omega) rfl rfl ?_ ?_ ?_
          · go_simp
          · go_simp
          have hb := (Below.refl V3.heap.size V3).alloc (Nat.le_refl _) (.cells ((inCells 0 (.slice none 0 0) (.slice (some ⟨ga, 0, none⟩) h1 h1)) ++ (inCells 7 (.slice (some ⟨gb, 0, none⟩) 1 1) (.slice (some ⟨gc, 0, none⟩) h2 h2))).toArray 44)
          have DI := Lib.hid (Row.new V3 44 ((inCells 0 (.slice none 0 0) (.slice (some ⟨ga, 0, none⟩) h1 h1)) ++ (inCells 7 (.slice (some ⟨gb, 0, none⟩) 1 1) (.slice (some ⟨gc, 0, none⟩) h2 h2))))
          have RYA := Lib.hid (RYA.out.below hb RYA.out.lt)
          have DA := Lib.hid (DA.out.below hb DA.out.lt)
          have DB := Lib.hid (DB.out.below hb DB.out.lt)
          have DC := Lib.hid (DC.out.below hb DC.out.lt)
          have GI := Lib.hid HV.out.size
          have HV := Lib.hid (HV.out.trans (hb.mono HV.out.size))
          clear hb
          refine hK.out _ _ trivial ?_
          clear hK K
          try simp only [Act.put, List.setIfInBounds_toArray, List.set_cons_zero, List.set_cons_succ]
          generalize V3.alloc (.cells ((inCells 0 (.slice none 0 0) (.slice (some ⟨ga, 0, none⟩) h1 h1)) ++ (inCells 7 (.slice (some ⟨gb, 0, none⟩) 1 1) (.slice (some ⟨gc, 0, none⟩) h2 h2))).toArray 44) = V9 at *
          obtain ⟨gi, hgi⟩ : ∃ g, g = V3.heap.size := ⟨_, rfl⟩
          rw [← hgi] at DI GI ⊢
          clear hgi
          refine takeL (i := 12) (v := ?_) rfl (by kernel_rfl) (by kernel_rfl) (by kernel_rfl) (fun _ _ _ h => h) (Or.inl ⟨by rfl, ?_⟩) trivial ?_
          rotate_left
          · intro w hw
            try dsimp only at hw
            go_simp
            try with_reducible rfl
          try simp only [Act.put, List.setIfInBounds_toArray, List.set_cons_zero, List.set_cons_succ]
          refine takeL (i := 13) (v := ?_) rfl (by kernel_rfl) (by kernel_rfl) (by kernel_rfl) (fun _ _ _ h => h) (Or.inl ⟨by rfl, ?_⟩) trivial ?_
          rotate_left
          · intro w hw
            try dsimp only at hw
            go_simp
            try with_reducible rfl
          try simp only [Act.put, List.setIfInBounds_toArray, List.set_cons_zero, List.set_cons_succ]
          refine readyL (i := 14) rfl (by kernel_rfl) (by kernel_rfl) fun K hK => ?_
          have f5 := RYA.out.frozen 38
          have hc5 := (RYA.out.cell 38).trans YS.out
          go_simp
          refine hK.out _ _ trivial ?_
          clear hK K f5 hc5
          try simp only [Act.put, List.setIfInBounds_toArray, List.set_cons_zero, List.set_cons_succ]
          refine wpAnyH_done (by kernel_rfl) ?_ _
          go_wp2_with fail
          go_meet
          have ht := turned_setCell V9 ⟨gy, 38, none⟩ (.slice (some ⟨gi, 0, none⟩) 2 2)
          have hx := RYA.out.set_ 38 (.slice (some ⟨gi, 0, none⟩) 2 2)
          generalize V9.setCell ⟨gy, 38, none⟩ (.slice (some ⟨gi, 0, none⟩) 2 2) = W9 at *
          have g0 := GG.out
          have g1 := Gga.out
          have g2 := Ggb.out
          have g3 := Ggc.out
          have g4 := GI.out
          have ka := ht.row DA.out (show ga ≠ gy by omega)
          have kb := ht.row DB.out (show gb ≠ gy by omega)
          have kc := ht.row DC.out (show gc ≠ gy by omega)
          have ki := ht.row DI.out (show gi ≠ gy by omega)
          have hbel : Below w2.heap.size w2 W9 := (BC.out.trans (HV.out.mono BC.out.size)).trans (ht.below GY.out)
          have hcx := ((HY0.out W9 (N2.out.below (hbel.mono B2.out.size)) (some ⟨gs, 0, none⟩) ns ns).more (Nat.le_trans B2.out.size hbel.size)).ins (c := 2) (l' := two9 h1 h2) (ins_two9 ki ki.lt (bytes_nil W9 _) (bytes_row9 ka ka.lt (by simp) (by unfold maxLen; omega)) (bytes_row9 (xs := [1]) kb kb.lt rfl (by unfold maxLen; omega)) (bytes_row9 kc kc.lt (by simp) (by unfold maxLen; omega)))
          exact ⟨_, hx, hcx, hbel⟩
    case rest =>
    obtain ⟨zs, hrz, hcz, hbz⟩ := hcut
    have RZ := Lib.hid hrz
    have HCZ := Lib.hid hcz
    have BZ := Lib.hid hbz
    have BC0 := BZ
    have RXC := Lib.hid ((RX.out.below BC0.out RX.out.lt))
    clear hrz hcz hbz
    go_upto_region 10 with fail
    have HV := Lib.hid ((Below.refl wc.heap.size wc).drew)
    have hh := H12.out
    have hn1 := HN.out
    have CY : Hid (∀ V : World, Below wc.heap.size wc V → Calls Try.prog 9 #[.agg zs.toArray, .int .i64 5, .int .u64 77] V fun e w' => e = .returned (.int .u64 (cost9 ns (dat9 l) 5 77)) ∧ Below V.heap.size V w') := Lib.hid fun V hV => by
      have := (HCZ.out.below hV).cost hV.size (by omega) (by simp [two9]) (by rw [dat9_two]; omega) 5 77 (by omega) (by omega) ⟨by decide, by decide⟩
      rwa [dat9_two, hh.1] at this
    have CC : Hid (∀ V : World, Below wc.heap.size wc V → Calls Try.prog 9 #[.agg cs.toArray, .int .i64 5, .int .u64 77] V fun e w' => e = .returned (.int .u64 (cost9 ns (dat9 l) 5 77)) ∧ Below V.heap.size V w') := Lib.hid fun V hV =>
      ((HX2.out.below (BZ.out.mono B2.out.size)).below (hV.mono (Nat.le_trans B2.out.size BZ.out.size))).cost (Nat.le_trans B2.out.size (Nat.le_trans BZ.out.size hV.size)) (by omega) hn1.1 hn1.2 5 77 (by omega) (by omega) ⟨by decide, by decide⟩
    have HSZ := Lib.hid (show (Try.prog.info? 33).map (·.size) = some zs.length by rw [HCZ.out.len]; exact size_tx9)
    generalize cost9 ns (dat9 l) 5 77 = cc at *
    refine wp_region_held_drew (S := fun V => Below wc.heap.size wc V) (by kernel_rfl) HV.out (fun _ => ?_)
    generalize wc.drew = V0 at *
    refine takeL (i := 0) (v := .agg zs.toArray) rfl (by kernel_rfl) (by kernel_rfl) (by kernel_rfl) (fun _ _ _ h => h) (Or.inl ⟨by rfl, fun wz hwz => exec_load_at wz 33 (.tmp 5) rfl ⟨gy, 0, none⟩ zs _ Try.underlying33 rfl HSZ.out (fun j u hu => (hwz.cell (p := (⟨gy, 0, none⟩ : Addr).add j) (by rw [addr_row]; exact RZ.out.lt)).trans (by rw [addr_row, RZ.out.cell]; simpa using hu)) (by go_simp)⟩) HV.out ?_
    try simp only [Act.put, List.setIfInBounds_toArray, List.set_cons_zero, List.set_cons_succ]
    refine takeL (i := 2) (v := .agg cs.toArray) rfl (by kernel_rfl) (by kernel_rfl) (by kernel_rfl) (fun _ _ _ h => h) (Or.inl ⟨by rfl, fun wz hwz => exec_load_at wz 33 (.tmp 2) rfl ⟨w.heap.size, 0, none⟩ cs _ Try.underlying33 rfl HST.out (fun j u hu => (hwz.cell (p := (⟨w.heap.size, 0, none⟩ : Addr).add j) (by rw [addr_row]; exact RXC.out.lt)).trans (by rw [addr_row, RXC.out.cell]; simpa using hu)) (by go_simp)⟩) HV.out ?_
    try simp only [Act.put, List.setIfInBounds_toArray, List.set_cons_zero, List.set_cons_succ]
    refine readyL (i := 1) rfl (by kernel_rfl) (by kernel_rfl) fun K hK => ?_
    go_simp
    refine (CY.out V0 HV.out).mono ?_
    rintro e V1 ⟨rfl, hb⟩
    simp only []
    have HV := Lib.hid (HV.out.trans (hb.mono HV.out.size))
    clear hb
    refine hK.out _ _ HV.out ?_
    clear hK K
    try simp only [Act.put, List.setIfInBounds_toArray, List.set_cons_zero, List.set_cons_succ]
    refine readyL (i := 3) rfl (by kernel_rfl) (by kernel_rfl) fun K hK => ?_
    go_simp
    refine (CC.out V1 HV.out).mono ?_
    rintro e V2 ⟨rfl, hb⟩
    simp only []
    have HV := Lib.hid (HV.out.trans (hb.mono HV.out.size))
    clear hb
    refine hK.out _ _ HV.out ?_
    clear hK K
    try simp only [Act.put, List.setIfInBounds_toArray, List.set_cons_zero, List.set_cons_succ]
    refine takeL (i := 4) (v := .bool true) rfl (by kernel_rfl) (by kernel_rfl) (by kernel_rfl) (fun _ _ _ h => h) (Or.inl ⟨by kernel_rfl, fun wz hwz => by go_simp⟩) HV.out ?_
    try simp only [Act.put, List.setIfInBounds_toArray, List.set_cons_zero, List.set_cons_succ]
    refine takeL (i := 5) (v := ?_) rfl (by kernel_rfl) (by kernel_rfl) (by kernel_rfl) (fun _ _ _ h => h) (Or.inl ⟨by rfl, ?_⟩) HV.out ?_
    rotate_left
    · intro w hw
      try dsimp only at hw
      go_simp
      try with_reducible rfl
    try simp only [Act.put, List.setIfInBounds_toArray, List.set_cons_zero, List.set_cons_succ]
    refine readyL (i := 6) rfl (by kernel_rfl) (by kernel_rfl) fun K hK => ?_
    go_simp
    refine (lives9 V2).mono ?_
    rintro e V3 ⟨rfl, hb⟩
    simp only []
    have HV := Lib.hid (HV.out.trans (hb.mono HV.out.size))
    clear hb
    refine hK.out _ _ HV.out ?_
    clear hK K
    try simp only [Act.put, List.setIfInBounds_toArray, List.set_cons_zero, List.set_cons_succ]
    refine takeL (i := 7) (v := .bool true) rfl (by kernel_rfl) (by kernel_rfl) (by kernel_rfl) (fun _ _ _ h => h) (Or.inl ⟨by kernel_rfl, fun wz hwz => by go_simp⟩) HV.out ?_
    try simp only [Act.put, List.setIfInBounds_toArray, List.set_cons_zero, List.set_cons_succ]
    refine takeL (i := 8) (v := ?_) rfl (by kernel_rfl) (by kernel_rfl) (by kernel_rfl) (fun _ _ _ h => h) (Or.inl ⟨by rfl, ?_⟩) HV.out ?_
    rotate_left
    · intro w hw
      try dsimp only at hw
      go_simp
      try with_reducible rfl
    try simp only [Act.put, List.setIfInBounds_toArray, List.set_cons_zero, List.set_cons_succ]
    refine wpAnyH_done (by kernel_rfl) ?_ _
    go_wp2_with fail
    go_ret
    exact ⟨rfl, (B2.out.trans (BZ.out.mono B2.out.size)).trans (HV.out.mono (Nat.le_trans B2.out.size BZ.out.size))⟩
end Go.Proofs.Ytmpgibemmhcncaa
