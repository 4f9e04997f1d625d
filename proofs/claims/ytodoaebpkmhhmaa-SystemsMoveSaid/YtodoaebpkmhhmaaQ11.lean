/-
  Parts joined: MakeOwn14 MakeRoom14 MakeJoin14.
-/
import Derived.Below
import Derived.Laws.OwnMore
import Derived.Deep.AppendLies
import Derived.Deep.Draws
import Derived.Lib.Hide
import Derived.Laws.MakeOwn
import Derived.Laws.CopyOwn
import Derived.Laws.Rows
import Derived.Laws.BitsAllLaws
import Derived.WalkKit
import Derived.Test.YtodoaebpkmhhmaaRows
import Derived.WalkSpells
import Derived.WalkLawsBesides
import Derived.IntWalk
import Derived.Deep.MidRow
import Derived.Deep.WholeRow
import Derived.Maps.AppendAt
import Derived.OwnWalk
import Derived.Great.BuildSlice
import Derived.Recover
import Derived.Deep.RegionHeld
import Derived.Deep.QuietTactic
import Derived.BigQuiet
import Derived.ChangeKeysEq
import Derived.ProofKit
import Derived.OpenShut
import Derived.ShutString
import Derived.ChangeOld
import Derived.Lib.SmallJoins
import Derived.Deep.Slices
import Derived.Deep.Strs
import Derived.SizedLaws
import Derived.Deep.RegionHeld2
import Derived.Deep.CutBlock
import Derived.Laws.Tables
import Derived.Laws.StructEq
import Derived.Laws.Slices
import Derived.Deep.DeepCutAuto
import Derived.Laws.EntriesVeiled
import Derived.Deep.RegionHeld3
import Derived.Maps.OwnSet
import Derived.DeepKeys4
import Derived.WideKeyArr
import Derived.WideKeyEntry
import Derived.WalkMore
import Derived.Shelf.SlMaps.Clone
import Derived.LaidMore
import Derived.Laws.Append
import Derived.Laws.AppendOwn
import Derived.Maps.OwnOps
import Derived.Maps.RangeWalk
import Derived.Laws.BytesArg
import Derived.Laws.Strings
import Derived.Lib.Strings
import Derived.Great.Walk
import Derived.Laws.Bits64b
import Derived.Laws.Externs
import Derived.Test.YtodoaebpkmhhmaaQ1
import Derived.Test.YtodoaebpkmhhmaaQ2
import Derived.Test.YtodoaebpkmhhmaaQ3
import Derived.Test.YtodoaebpkmhhmaaQ4
import Derived.Test.YtodoaebpkmhhmaaQ5
import Derived.Test.YtodoaebpkmhhmaaQ6
import Derived.Test.YtodoaebpkmhhmaaQ7
import Derived.Test.YtodoaebpkmhhmaaQ8
import Derived.Test.YtodoaebpkmhhmaaQ9
import Derived.Test.YtodoaebpkmhhmaaQ10
/-
  Of part MakeOwn14: what is needed here.
-/
namespace Go.Proofs.Ytodoaebpkmhhmaa
open Go.RowKit
set_option linter.unusedVariables false
set_option maxRecDepth 100000
set_option maxHeartbeats 16000000 in
theorem make_own14 (xc : Int) (o : List Int) (c s : Int) (w : World) (hx : AccOk (LAcc.mk xc key0 0)) (hl : ¬ 1048576 < s) (hf : ¬ xc < c) (hnb : ¬ LAcc.mk c o s = blank13) (ho0 : ¬ o = key0) (hc : 0 ≤ c ∧ c < 18446744073709551616) (hs : 0 ≤ s ∧ s < 18446744073709551616) (ho : o.length = 32 ∧ AllBytes o) : Calls Try.prog 6 #[.agg ((LAcc.mk xc key0 0)).cells.toArray, .agg #[.int .u64 c, .int .u64 s], .agg (bv o).toArray] w fun e w' => e = .returned (.bool true) ∧ Below w.heap.size w w' := by
  have HX := Lib.hid hx
  have HO := Lib.hid ho
  have HR : Hid (do14 [(LAcc.mk xc key0 0), blank13] (b14 true) [0, 1] (mk14 c s o) = ⟨0, [(LAcc.mk (xc - c) key0 0), (LAcc.mk c o s)], s⟩) := Lib.hid ((do_k1 hc hs ho.1).trans (k1_good ⟨rfl, rfl⟩ hl hf))
  have HML := Lib.hid (mk14_len c s ho.1)
  have HMB := Lib.hid (mk14_bytes c s ho.2)
  have HN0 := Lib.hid (fun V => number14_ 0 4 V (by omega) (by omega) (by omega))
  have HNC := Lib.hid (fun V => number14_ c 8 V hc.1 hc.2 (by omega))
  have HNS := Lib.hid (fun V => number14_ s 8 V hs.1 hs.2 (by omega))
  have HOK : Hid (∀ z ∈ [(LAcc.mk xc key0 0), blank13], AccOk z) := Lib.hid (fun z hz => by
    simp only [List.mem_cons, List.not_mem_nil, or_false] at hz
    rcases hz with rfl | rfl
    · exact hx
    · exact blank_ok)
  have HK : Hid ((LAcc.mk xc key0 0).o = key0) := Lib.hid rfl
  have HF : Hid (c ≤ xc ∧ s ≤ 1048576) := Lib.hid (by omega)
  have HY0 : Hid (AccOk (LAcc.mk (xc - c) key0 0)) := Lib.hid ⟨by have := hx.c; have := hc; dsimp only at *; omega, hx.o, hx.s⟩
  have HY1 : Hid (AccOk (LAcc.mk c o s)) := Lib.hid ⟨hc, ho, hs⟩
  have HK1 : Hid (∀ z ∈ [(LAcc.mk (xc - c) key0 0), (LAcc.mk c o s)], AccOk z) := Lib.hid (fun z hz => by
    simp only [List.mem_cons, List.not_mem_nil, or_false] at hz
    rcases hz with rfl | rfl
    · exact HY0.out
    · exact HY1.out)
  have HD1 := Lib.hid (do_k1 (x := (LAcc.mk (xc - c) key0 0)) (y := (LAcc.mk c o s)) hc hs ho.1)
  have HN8 := Lib.hid (fun V => number14_ 8 4 V (by omega) (by omega) (by omega))
  have HN5 := Lib.hid (fun V => number14_ 5 8 V (by omega) (by omega) (by omega))
  have HBK : Hid (((LAcc.mk c o s) = blank13) = False) := Lib.hid (eq_false hnb)
  have HKO : Hid ((o = key0) = False) := Lib.hid (eq_false ho0)
  have HPL : Hid (¬ plain14 (LAcc.mk c o s)) := Lib.hid (fun h => ho0 h.1)
  have HC := Lib.hid hc
  have HS := Lib.hid hs
  clear hx ho hc hs hl hf hnb ho0
  have RP := Lib.hid (((Row.new w 48 ((LAcc.mk xc key0 0)).cells).alloc (.cells #[.int .u64 c, .int .u64 s] 54)).alloc (.cells (bv o).toArray 46))
  have RZ := Lib.hid ((Row.new' (w.alloc (.cells ((LAcc.mk xc key0 0)).cells.toArray 48)) 54 [.int .u64 c, .int .u64 s] (g := w.heap.size + 1) (by simp)).alloc (.cells (bv o).toArray 46))
  have RO := Lib.hid (Row.new' ((w.alloc (.cells ((LAcc.mk xc key0 0)).cells.toArray 48)).alloc (.cells #[.int .u64 c, .int .u64 s] 54)) 46 (bv o) (g := w.heap.size + 1 + 1) (by simp))
  have B0 := Lib.hid ((((Below.refl w.heap.size w).alloc (Nat.le_refl _) (.cells ((LAcc.mk xc key0 0)).cells.toArray 48)).alloc (by simp) (.cells #[.int .u64 c, .int .u64 s] 54)).alloc (by simp; omega) (.cells (bv o).toArray 46))
  obtain ⟨go, hgo⟩ : ∃ g, g = w.heap.size + 1 + 1 := ⟨_, rfl⟩
  obtain ⟨gz, hgz⟩ : ∃ g, g = w.heap.size + 1 := ⟨_, rfl⟩
  obtain ⟨gp, hgp⟩ : ∃ g, g = w.heap.size := ⟨_, rfl⟩
  have HGO : Hid (w.heap.size + 1 + 1 = go) := Lib.hid hgo.symm
  have HGZ : Hid (w.heap.size + 1 = gz) := Lib.hid hgz.symm
  have HGP : Hid (w.heap.size = gp) := Lib.hid hgp.symm
  rw [← hgo] at RO
  rw [← hgz] at RZ
  rw [← hgp] at RP
  clear hgo hgz hgp
  have RZ' : Hid (Row (((w.alloc (.cells ((LAcc.mk xc key0 0)).cells.toArray 48)).alloc (.cells #[.int .u64 c, .int .u64 s] 54)).alloc (.cells (bv o).toArray 46)) gz 54 [.int .u64 c, .int .u64 s]) := Lib.hid RZ.out
  clear RZ
  generalize hW : ((w.alloc (.cells ((LAcc.mk xc key0 0)).cells.toArray 48)).alloc (.cells #[.int .u64 c, .int .u64 s] 54)).alloc (.cells (bv o).toArray 46) = W at *
  have HW := Lib.hid hW
  clear hW
  go_enter Try.func6, Try.ntmps6
  go_upto_region 1 with fail
  try rw [HGO.out]
  try rw [HGZ.out]
  try rw [HGP.out]
  rw [HW.out]
  clear HW HGO HGZ HGP
  have cz0 : W.cell? ⟨gz, 0, none⟩ = some (.int .u64 c) := RZ'.out.cell 0
  have cz1 : W.cell? ⟨gz, 1, none⟩ = some (.int .u64 s) := RZ'.out.cell 1
  go_upto_region 3 with fail
  clear cz0 cz1 RZ'
  refine wp_region_held_drew (S := fun _ => True) (by kernel_rfl) trivial (fun _ => ?_)
  have RP := Lib.hid RP.out.drew
  have RO := Lib.hid RO.out.drew
  have B0 := Lib.hid B0.out.drew
  generalize W.drew = W1 at *
  refine takeL (i := 1) (v := ?_) rfl (by kernel_rfl) (by kernel_rfl) (by kernel_rfl) (fun _ _ _ h => h) (Or.inl ⟨by rfl, ?_⟩) trivial ?_
  rotate_left
  · intro w hw
    try dsimp only at hw
    go_simp
    try with_reducible rfl
  try simp only [Act.put, List.setIfInBounds_toArray, List.set_cons_zero, List.set_cons_succ]
  refine takeL (i := 4) (v := ?_) rfl (by kernel_rfl) (by kernel_rfl) (by kernel_rfl) (fun _ _ _ h => h) (Or.inl ⟨by rfl, ?_⟩) trivial ?_
  rotate_left
  · intro w hw
    try dsimp only at hw
    go_simp
    try with_reducible rfl
  try simp only [Act.put, List.setIfInBounds_toArray, List.set_cons_zero, List.set_cons_succ]
  refine takeL (i := 7) (v := ?_) rfl (by kernel_rfl) (by kernel_rfl) (by kernel_rfl) (fun _ _ _ h => h) (Or.inl ⟨by rfl, ?_⟩) trivial ?_
  rotate_left
  · intro w hw
    try dsimp only at hw
    go_simp
    try with_reducible rfl
  try simp only [Act.put, List.setIfInBounds_toArray, List.set_cons_zero, List.set_cons_succ]
  refine readyL (i := 0) rfl (by kernel_rfl) (by kernel_rfl) fun K hK => ?_
  go_simp
  refine (HN0.out W1).mono ?_
  rintro e w1 ⟨v1, rfl, ho1, hb1⟩
  have O1 := Lib.hid ho1
  have A1 := Lib.hid hb1
  clear ho1 hb1 HN0
  refine hK.out _ _ trivial ?_
  clear hK K
  try simp only [Act.put, List.setIfInBounds_toArray, List.set_cons_zero, List.set_cons_succ]
  refine readyL (i := 2) rfl (by kernel_rfl) (by kernel_rfl) fun K hK => ?_
  go_simp
  refine (HNC.out w1).mono ?_
  rintro e w2 ⟨v2, rfl, ho2, hb2⟩
  have O1 := Lib.hid (O1.out.below hb2)
  have A2 := Lib.hid (A1.out.trans (hb2.mono A1.out.size))
  obtain ⟨D2, c2, rfl⟩ := ho2.form
  have HSE := Lib.hid ho2.sees
  clear ho2 hb2 HNC A1
  refine hK.out _ _ trivial ?_
  clear hK K
  try simp only [Act.put, List.setIfInBounds_toArray, List.set_cons_zero, List.set_cons_succ]
  refine readyL (i := 3) rfl (by kernel_rfl) (by kernel_rfl) fun K hK => ?_
  refine wp_addB14 (.tmp 28) (.tmp 30) rfl W1.heap.size v1 (dig 0 4) (dig c 8) D2 (dig c 8).length c2 _ (by go_simp) O1.out (by go_simp) HSE.out (by rw [dig_len, dig_len]; omega) A2.out.size (fun v3 w3 ho3 hb3 => ?_)
  have O3 := Lib.hid ho3
  have A3 := Lib.hid (A2.out.trans hb3)
  clear ho3 hb3 O1 HSE A2
  refine hK.out _ _ trivial ?_
  clear hK K
  try simp only [Act.put, List.setIfInBounds_toArray, List.set_cons_zero, List.set_cons_succ]
  refine readyL (i := 5) rfl (by kernel_rfl) (by kernel_rfl) fun K hK => ?_
  go_simp
  refine (HNS.out w3).mono ?_
  rintro e w4 ⟨v4, rfl, ho4, hb4⟩
  have O3 := Lib.hid (O3.out.below hb4)
  have A4 := Lib.hid (A3.out.trans (hb4.mono A3.out.size))
  obtain ⟨D4, c4, rfl⟩ := ho4.form
  have HSE := Lib.hid ho4.sees
  clear ho4 hb4 HNS A3
  refine hK.out _ _ trivial ?_
  clear hK K
  try simp only [Act.put, List.setIfInBounds_toArray, List.set_cons_zero, List.set_cons_succ]
  refine readyL (i := 6) rfl (by kernel_rfl) (by kernel_rfl) fun K hK => ?_
  refine wp_addB14 (.tmp 31) (.tmp 33) rfl W1.heap.size v3 (dig 0 4 ++ dig c 8) (dig s 8) D4 (dig s 8).length c4 _ (by go_simp) O3.out (by go_simp) HSE.out (by rw [List.length_append, dig_len, dig_len, dig_len]; omega) A4.out.size (fun v5 w5 ho5 hb5 => ?_)
  have O5 := Lib.hid ho5
  have A5 := Lib.hid (A4.out.trans hb5)
  clear ho5 hb5 O3 HSE A4
  have HSO : Hid (Sees w5 w5.heap.size (some ⟨go, 0, none⟩) 32 (bv o)) := Lib.hid (by have := (RO.out.below A5.out RO.out.lt).sees0; rwa [bv_length, HO.out.1] at this)
  refine hK.out _ _ trivial ?_
  clear hK K
  try simp only [Act.put, List.setIfInBounds_toArray, List.set_cons_zero, List.set_cons_succ]
  refine readyL (i := 8) rfl (by kernel_rfl) (by kernel_rfl) fun K hK => ?_
  refine wp_addB14 (.tmp 34) (.tmp 35) rfl W1.heap.size v5 (dig 0 4 ++ dig c 8 ++ dig s 8) o (some ⟨go, 0, none⟩) 32 32 _ (by go_simp) O5.out (by go_simp) HSO.out (by rw [List.length_append, List.length_append, dig_len, dig_len, dig_len]; omega) A5.out.size (fun v6 w6 ho6 hb6 => ?_)
  have O6 : Hid (OwnB w6 W1.heap.size v6 (mk14 c s o)) := Lib.hid ho6
  have A6 := Lib.hid (A5.out.trans hb6)
  clear ho6 hb6 O5 HSO A5
  refine hK.out _ _ trivial ?_
  clear hK K
  try simp only [Act.put, List.setIfInBounds_toArray, List.set_cons_zero, List.set_cons_succ]
  refine takeL (i := 9) (v := ?_) rfl (by kernel_rfl) (by kernel_rfl) (by kernel_rfl) (fun _ _ _ h => h) (Or.inl ⟨by rfl, ?_⟩) trivial ?_
  rotate_left
  · intro w hw
    try dsimp only at hw
    go_simp
    try with_reducible rfl
  try simp only [Act.put, List.setIfInBounds_toArray, List.set_cons_zero, List.set_cons_succ]
  refine wpAnyH_done (by kernel_rfl) ?_ _
  obtain ⟨D, cD, hv6⟩ := O6.out.form
  rw [HML.out] at hv6
  subst hv6
  have RP6 := Lib.hid (RP.out.below A6.out RP.out.lt)
  have RO6 := Lib.hid (RO.out.below A6.out RO.out.lt)
  have B6 := Lib.hid (B0.out.trans (A6.out.mono B0.out.size))
  have RA := Lib.hid (Row.new w6 5 (bv [0, 1]))
  have BA := Lib.hid ((Below.refl w6.heap.size w6).alloc (Nat.le_refl _) (.cells (bv [0, 1]).toArray 5))
  clear RP RO A6 B0
  go_upto_region 5 with (first
    | ((with_reducible show wpList _ _ _ ({ dst := some 39, op := Op.build _ _, type := _, pos := _, after := _, guard := _ } :: _) _ _); go_must (refine wpList_plain rfl fun K hK => wp_built _ _ _ rfl (by simp only [List.map_toArray, List.map_cons, List.map_nil]; exact built_ins14 _ _ _ _ _ _ _) (hK _ _ ?_)))
    | ((with_reducible show wpList _ _ _ ({ dst := some 10, op := Op.alloc _, type := _, pos := _, after := _, guard := _ } :: _) _ _); go_must (refine wpList_alloc_zero rfl 26 rfl (insC 0 none 0 0 none 0 0) zero_ins14 ?_))
    | ((with_reducible show wpList _ _ _ ({ dst := none, op := Op.store 26 (.tmp 10) _, type := _, pos := _, after := _, guard := _ } :: _) _ _); go_must (refine wpList_store_new rfl 26 (.tmp 10) (.tmp 39) rfl (insC 1 (some ⟨w6.heap.size, 0, none⟩) 2 2 D 52 cD) (size_ins14 _ _ _ _ _ _ _) (ins14_one _ _ _ _ _ _ _) rfl ?_ ?_ ?_; go_simp; go_simp; intro w9 hr9 hb9 hz9)))
  obtain ⟨ga, hga⟩ : ∃ g, g = w6.heap.size := ⟨_, rfl⟩
  have RA' : Hid (Row (w6.alloc (.cells #[.int .u8 0, .int .u8 1] 5)) w6.heap.size 5 (bv [0, 1])) := Lib.hid RA.out
  have BA' : Hid (Below w6.heap.size w6 (w6.alloc (.cells #[.int .u8 0, .int .u8 1] 5))) := Lib.hid BA.out
  clear RA BA
  generalize w6.alloc (.cells #[.int .u8 0, .int .u8 1] 5) = w7 at *
  have hb8 : Below w6.heap.size w6 w9 := BA'.out.trans (hb9.mono BA'.out.size)
  have M9 := Lib.hid (MK14.mk (V := w9) (gi := w7.heap.size) (B6.out.trans (hb8.mono B6.out.size)) (RP6.out.below hb8 RP6.out.lt) (RO6.out.below hb8 RO6.out.lt) hr9 (RA'.out.below hb9 RA'.out.lt) (O6.out.below hb8))
  rw [← hga] at M9 ⊢
  obtain ⟨gi, hgi⟩ : ∃ g, g = w7.heap.size := ⟨_, rfl⟩
  rw [← hgi] at M9 ⊢
  clear hga hgi hb8 hr9 hb9 hz9 RA' BA' RP6 RO6 B6 O6
  generalize W1.heap.size = bs at *
  go_frame
  go_cut [11, 12, 13] (fun s11 s12 s13 wx => ∃ v, s11 = v ∧ s12 = .int .u64 s ∧ s13 = .int .i64 0 ∧ MK14 w wx gp go gi ga bs ((LAcc.mk xc key0 0)) o c s D cD ∧ OA14 wx w.heap.size v [(LAcc.mk (xc - c) key0 0), (LAcc.mk c o s)])
  case first =>
    refine wp_region_held_drew (S := fun V => MK14 w V gp go gi ga bs ((LAcc.mk xc key0 0)) o c s D cD) (by kernel_rfl) M9.out.drew (fun _ => ?_)
    have MD := Lib.hid M9.out.drew
    generalize w9.drew = wd at *
    clear M9
    refine takeL (i := 0) (v := .agg ((LAcc.mk xc key0 0)).cells.toArray) rfl (by kernel_rfl) (by kernel_rfl) (by kernel_rfl) (fun _ _ _ h => h) (Or.inl ⟨by rfl, fun wz hwz => exec_load_at wz 48 (.tmp 3) rfl ⟨gp, 0, none⟩ ((LAcc.mk xc key0 0)).cells _ Try.underlying48 rfl (size_acc HX.out.o.1) hwz.pall (by go_simp)⟩) MD.out ?_
    try simp only [Act.put, List.setIfInBounds_toArray, List.set_cons_zero, List.set_cons_succ]
    refine takeL (i := 1) (v := .agg blank13.cells.toArray) rfl (by kernel_rfl) (by kernel_rfl) (by kernel_rfl) (fun _ _ _ h => h) (Or.inl ⟨by rfl, fun wz hwz => exec_built wz _ _ _ rfl (by simp only [List.map_toArray, List.map_nil]; exact built_blank)⟩) MD.out ?_
    try simp only [Act.put, List.setIfInBounds_toArray, List.set_cons_zero, List.set_cons_succ]
    refine takeL (i := 4) (v := .agg (insC 1 (some ⟨ga, 0, none⟩) 2 2 D 52 cD).toArray) rfl (by kernel_rfl) (by kernel_rfl) (by kernel_rfl) (fun _ _ _ h => h) (Or.inl ⟨by rfl, fun wz hwz => exec_load_at wz 26 (.tmp 10) rfl ⟨gi, 0, none⟩ (insC 1 (some ⟨ga, 0, none⟩) 2 2 D 52 cD) _ Try.underlying26 rfl (size_ins14 _ _ _ _ _ _ _) hwz.iall (by go_simp)⟩) MD.out ?_
    try simp only [Act.put, List.setIfInBounds_toArray, List.set_cons_zero, List.set_cons_succ]
    refine readyL2 (i := 2) (j := 3) rfl rfl (by kernel_rfl) (by kernel_rfl) (by kernel_rfl) (fun K hK => ?_) (fun K hK => ?_)
    · refine wp_buildTwo14 22 48 (.tmp 41) (.tmp 42) rfl ((LAcc.mk xc key0 0)).cells blank13.cells _ 34 48 Try.underlying22 infoAc14 zszAc14 (by omega) (by omega) (acc_len HX.out.o.1) (acc_len (a := blank13) rfl) (by go_simp) (by go_simp) ?_
      have RL := Lib.hid (Row.new wd 48 (((LAcc.mk xc key0 0)).cells ++ blank13.cells))
      have BL := Lib.hid ((Below.refl wd.heap.size wd).alloc (Nat.le_refl _) (.cells (((LAcc.mk xc key0 0)).cells ++ blank13.cells).toArray 48))
      obtain ⟨gl, hgl⟩ : ∃ g, g = wd.heap.size := ⟨_, rfl⟩
      rw [← hgl] at RL ⊢
      clear hgl
      generalize wd.alloc (.cells (((LAcc.mk xc key0 0)).cells ++ blank13.cells).toArray 48) = wl at *
      have ML := Lib.hid (MD.out.below BL.out)
      refine hK.out _ _ ML.out ?_
      clear hK K
      try simp only [Act.put, List.setIfInBounds_toArray, List.set_cons_zero, List.set_cons_succ]
      refine readyL (i := 3) rfl (by kernel_rfl) (by kernel_rfl) fun K hK => ?_
      go_simp
      refine (both14_ wl).mono ?_
      rintro e wr ⟨rfl, hrr, hbr⟩
      have RR := Lib.hid hrr
      have BR := Lib.hid hbr
      have MR := Lib.hid (ML.out.below hbr)
      obtain ⟨gr, hgr⟩ : ∃ g, g = wl.heap.size := ⟨_, rfl⟩
      rw [← hgr] at RR ⊢
      clear hrr hbr hgr
      have RL := Lib.hid (RL.out.below BR.out RL.out.lt)
      refine hK.out _ _ MR.out ?_
      clear hK K
      try simp only [Act.put, List.setIfInBounds_toArray, List.set_cons_zero, List.set_cons_succ]
      refine readyL (i := 5) rfl (by kernel_rfl) (by kernel_rfl) fun K hK => ?_
      go_simp
      refine (do_some14 (two_in RL.out HOK.out RL.out.lt) (Nat.le_refl _) RR.out MR.out.a MR.out.d HML.out (by decide) HMB.out rfl (by decide) (two_bytes (by unfold IsByte; omega) (by unfold IsByte; omega)) HR.out).mono ?_
      rintro e we ⟨va, rfl, hva, hbe⟩
      have ME := Lib.hid (MR.out.below hbe)
      have OE : Hid (OA14 we w.heap.size va [(LAcc.mk (xc - c) key0 0), (LAcc.mk c o s)]) := Lib.hid ⟨by obtain ⟨A, c, c', e, h1, h2, h3⟩ := hva.is; exact ⟨A, c, c', e, h1, h2, own_baseR h3 MR.out.b.size⟩, hva.ok⟩
      clear hva hbe
      refine hK.out _ _ ME.out ?_
      clear hK K
      try simp only []
      refine takeL (i := 6) (v := ?_) rfl (by kernel_rfl) (by kernel_rfl) (by kernel_rfl) (fun _ _ _ h => h) (Or.inl ⟨by rfl, ?_⟩) ME.out ?_
      rotate_left
      · intro w hw
        try dsimp only at hw
        go_simp
        try with_reducible rfl
      try simp only [Act.put, List.setIfInBounds_toArray, List.set_cons_zero, List.set_cons_succ]
      refine takeL (i := 7) (v := ?_) rfl (by kernel_rfl) (by kernel_rfl) (by kernel_rfl) (fun _ _ _ h => h) (Or.inl ⟨by rfl, ?_⟩) ME.out ?_
      rotate_left
      · intro w hw
        try dsimp only at hw
        go_simp
        try with_reducible rfl
      try simp only [Act.put, List.setIfInBounds_toArray, List.set_cons_zero, List.set_cons_succ]
      refine takeL (i := 8) (v := ?_) rfl (by kernel_rfl) (by kernel_rfl) (by kernel_rfl) (fun _ _ _ h => h) (Or.inl ⟨by rfl, ?_⟩) ME.out ?_
      rotate_left
      · intro w hw
        try dsimp only at hw
        go_simp
        try with_reducible rfl
      try simp only [Act.put, List.setIfInBounds_toArray, List.set_cons_zero, List.set_cons_succ]
      refine takeL (i := 9) (v := ?_) rfl (by kernel_rfl) (by kernel_rfl) (by kernel_rfl) (fun _ _ _ h => h) (Or.inl ⟨by rfl, ?_⟩) ME.out ?_
      rotate_left
      · intro w hw
        try dsimp only at hw
        go_simp
        try with_reducible rfl
      try simp only [Act.put, List.setIfInBounds_toArray, List.set_cons_zero, List.set_cons_succ]
      refine takeL (i := 10) (v := ?_) rfl (by kernel_rfl) (by kernel_rfl) (by kernel_rfl) (fun _ _ _ h => h) (Or.inl ⟨by rfl, ?_⟩) ME.out ?_
      rotate_left
      · intro w hw
        try dsimp only at hw
        go_simp
        try with_reducible rfl
      try simp only [Act.put, List.setIfInBounds_toArray, List.set_cons_zero, List.set_cons_succ]
      refine takeL (i := 11) (v := ?_) rfl (by kernel_rfl) (by kernel_rfl) (by kernel_rfl) (fun _ _ _ h => h) (Or.inl ⟨by rfl, ?_⟩) ME.out ?_
      rotate_left
      · intro w hw
        try dsimp only at hw
        go_simp
        try with_reducible rfl
      try simp only [Act.put, List.setIfInBounds_toArray, List.set_cons_zero, List.set_cons_succ]
      refine takeL (i := 12) (v := ?_) rfl (by kernel_rfl) (by kernel_rfl) (by kernel_rfl) (fun _ _ _ h => h) (Or.inl ⟨by rfl, ?_⟩) ME.out ?_
      rotate_left
      · intro w hw
        try dsimp only at hw
        go_simp
        try with_reducible rfl
      try simp only [Act.put, List.setIfInBounds_toArray, List.set_cons_zero, List.set_cons_succ]
      refine wpAnyH_done (by kernel_rfl) ?_ _
      go_wp2_with fail
      go_meet
      exact ⟨va, rfl, rfl, rfl, ME.out, OE.out⟩
    · go_simp
      refine (both14_ wd).mono ?_
      rintro e wr ⟨rfl, hrr, hbr⟩
      have RR := Lib.hid hrr
      have BR := Lib.hid hbr
      have MR := Lib.hid (MD.out.below hbr)
      obtain ⟨gr, hgr⟩ : ∃ g, g = wd.heap.size := ⟨_, rfl⟩
      rw [← hgr] at RR ⊢
      clear hrr hbr hgr
      refine hK.out _ _ MR.out ?_
      clear hK K
      try simp only [Act.put, List.setIfInBounds_toArray, List.set_cons_zero, List.set_cons_succ]
      refine readyL (i := 2) rfl (by kernel_rfl) (by kernel_rfl) fun K hK => ?_
      refine wp_buildTwo14 22 48 (.tmp 41) (.tmp 42) rfl ((LAcc.mk xc key0 0)).cells blank13.cells _ 34 48 Try.underlying22 infoAc14 zszAc14 (by omega) (by omega) (acc_len HX.out.o.1) (acc_len (a := blank13) rfl) (by go_simp) (by go_simp) ?_
      have RL := Lib.hid (Row.new wr 48 (((LAcc.mk xc key0 0)).cells ++ blank13.cells))
      have BL := Lib.hid ((Below.refl wr.heap.size wr).alloc (Nat.le_refl _) (.cells (((LAcc.mk xc key0 0)).cells ++ blank13.cells).toArray 48))
      obtain ⟨gl, hgl⟩ : ∃ g, g = wr.heap.size := ⟨_, rfl⟩
      rw [← hgl] at RL ⊢
      clear hgl
      generalize wr.alloc (.cells (((LAcc.mk xc key0 0)).cells ++ blank13.cells).toArray 48) = wl at *
      have ML := Lib.hid (MR.out.below BL.out)
      have RR := Lib.hid (RR.out.below BL.out RR.out.lt)
      refine hK.out _ _ ML.out ?_
      clear hK K
      try simp only [Act.put, List.setIfInBounds_toArray, List.set_cons_zero, List.set_cons_succ]
      refine readyL (i := 5) rfl (by kernel_rfl) (by kernel_rfl) fun K hK => ?_
      go_simp
      refine (do_some14 (two_in RL.out HOK.out RL.out.lt) (Nat.le_refl _) RR.out ML.out.a ML.out.d HML.out (by decide) HMB.out rfl (by decide) (two_bytes (by unfold IsByte; omega) (by unfold IsByte; omega)) HR.out).mono ?_
      rintro e we ⟨va, rfl, hva, hbe⟩
      have ME := Lib.hid (ML.out.below hbe)
      have OE : Hid (OA14 we w.heap.size va [(LAcc.mk (xc - c) key0 0), (LAcc.mk c o s)]) := Lib.hid ⟨by obtain ⟨A, c, c', e, h1, h2, h3⟩ := hva.is; exact ⟨A, c, c', e, h1, h2, own_baseR h3 ML.out.b.size⟩, hva.ok⟩
      clear hva hbe
      refine hK.out _ _ ME.out ?_
      clear hK K
      try simp only []
      refine takeL (i := 6) (v := ?_) rfl (by kernel_rfl) (by kernel_rfl) (by kernel_rfl) (fun _ _ _ h => h) (Or.inl ⟨by rfl, ?_⟩) ME.out ?_
      rotate_left
      · intro w hw
        try dsimp only at hw
        go_simp
        try with_reducible rfl
      try simp only [Act.put, List.setIfInBounds_toArray, List.set_cons_zero, List.set_cons_succ]
      refine takeL (i := 7) (v := ?_) rfl (by kernel_rfl) (by kernel_rfl) (by kernel_rfl) (fun _ _ _ h => h) (Or.inl ⟨by rfl, ?_⟩) ME.out ?_
      rotate_left
      · intro w hw
        try dsimp only at hw
        go_simp
        try with_reducible rfl
      try simp only [Act.put, List.setIfInBounds_toArray, List.set_cons_zero, List.set_cons_succ]
      refine takeL (i := 8) (v := ?_) rfl (by kernel_rfl) (by kernel_rfl) (by kernel_rfl) (fun _ _ _ h => h) (Or.inl ⟨by rfl, ?_⟩) ME.out ?_
      rotate_left
      · intro w hw
        try dsimp only at hw
        go_simp
        try with_reducible rfl
      try simp only [Act.put, List.setIfInBounds_toArray, List.set_cons_zero, List.set_cons_succ]
      refine takeL (i := 9) (v := ?_) rfl (by kernel_rfl) (by kernel_rfl) (by kernel_rfl) (fun _ _ _ h => h) (Or.inl ⟨by rfl, ?_⟩) ME.out ?_
      rotate_left
      · intro w hw
        try dsimp only at hw
        go_simp
        try with_reducible rfl
      try simp only [Act.put, List.setIfInBounds_toArray, List.set_cons_zero, List.set_cons_succ]
      refine takeL (i := 10) (v := ?_) rfl (by kernel_rfl) (by kernel_rfl) (by kernel_rfl) (fun _ _ _ h => h) (Or.inl ⟨by rfl, ?_⟩) ME.out ?_
      rotate_left
      · intro w hw
        try dsimp only at hw
        go_simp
        try with_reducible rfl
      try simp only [Act.put, List.setIfInBounds_toArray, List.set_cons_zero, List.set_cons_succ]
      refine takeL (i := 11) (v := ?_) rfl (by kernel_rfl) (by kernel_rfl) (by kernel_rfl) (fun _ _ _ h => h) (Or.inl ⟨by rfl, ?_⟩) ME.out ?_
      rotate_left
      · intro w hw
        try dsimp only at hw
        go_simp
        try with_reducible rfl
      try simp only [Act.put, List.setIfInBounds_toArray, List.set_cons_zero, List.set_cons_succ]
      refine takeL (i := 12) (v := ?_) rfl (by kernel_rfl) (by kernel_rfl) (by kernel_rfl) (fun _ _ _ h => h) (Or.inl ⟨by rfl, ?_⟩) ME.out ?_
      rotate_left
      · intro w hw
        try dsimp only at hw
        go_simp
        try with_reducible rfl
      try simp only [Act.put, List.setIfInBounds_toArray, List.set_cons_zero, List.set_cons_succ]
      refine wpAnyH_done (by kernel_rfl) ?_ _
      go_wp2_with fail
      go_meet
      exact ⟨va, rfl, rfl, rfl, ME.out, OE.out⟩
  case rest =>
  obtain ⟨va, rfl, rfl, rfl, hm, hoa⟩ := hcut
  have M := Lib.hid hm
  have OA := Lib.hid hoa
  clear hm hoa M9
  rename World => wx
  obtain ⟨gl, cl, rl, rfl, hcl, hclm, _, hrl⟩ := oa_two14 OA.out
  have RL := Lib.hid hrl
  have HCL := Lib.hid (And.intro hcl hclm)
  clear hrl hcl hclm OA
  have hl' := HF.out.2
  have hf' := HF.out.1
  have NK := fun w => key_eql HX.out.o.1 key0_ok.1 w
  rw [decide_eq_true HK.out] at NK
  have cpc := M.out.pc
  have cps := M.out.ps HX.out.o.1
  go_upto_region 7 with (first
    | ((with_reducible show wpList _ _ _ ({ dst := some 51, op := Op.load _ _, type := _, pos := _, after := _, guard := _ } :: _) _ _); go_must (refine wpList_load_at rfl 46 (.tmp 50) rfl ⟨gp, 1, none⟩ (bv ((LAcc.mk xc key0 0)).o) _ Try.underlying46 rfl (by rw [size_key, bv_length, HX.out.o.1]) M.out.po ?_ ?_; go_simp))
    | ((with_reducible show wpList _ _ _ ({ dst := some 52, op := Op.build _ _, type := _, pos := _, after := _, guard := _ } :: _) _ _); go_must (refine wpList_plain rfl fun K hK => wp_built _ _ _ rfl (by simp only [List.map_toArray, List.map_nil]; exact built_key14) (hK _ _ ?_))))
  clear cpc cps NK
  clear hl' hf'
  go_upto_region 9 with fail
  have cpc : wx.cell? ⟨gp, 0, none⟩ = some (.int .u64 xc) := M.out.pc
  have E1 : IntKind.u64.wrap (xc - c) = xc - c := by rw [IntKind.wrap_u64]; have := HX.out.c; have := HC.out; have := HF.out; dsimp only at *; omega
  have hss : (s != s) = false := by simp
  have HT := Lib.hid (row_two14 RL.out (show (LAcc.mk (xc - c) key0 0).o.length = 32 from rfl))
  have ne0 := fun w => acc_neq (x := (LAcc.mk (xc - c) key0 0)) (y := (LAcc.mk (xc - c) key0 0)) rfl rfl w
  rw [decide_eq_true rfl] at ne0
  have ne1 := fun w => acc_neq (x := (LAcc.mk c o s)) (y := (LAcc.mk c o s)) HO.out.1 HO.out.1 w
  rw [decide_eq_true rfl] at ne1
  try go_frame
  refine wp_region_quiet_lit (by kernel_rfl) (by kernel_rfl) ?_
  try go_frame
  repeat (first
    | ((with_reducible show wpQuiet _ _ _ _ ({ dst := some 95, op := Op.load _ _, type := _, pos := _, after := _, guard := _ } :: _) _); go_must (refine quiet_load_at (by kernel_rfl) 48 (.tmp 94) rfl ⟨gl, 0, none⟩ (LAcc.mk (xc - c) key0 0).cells _ Try.underlying48 rfl (size_acc rfl) (by rintro _ ⟨nq, rfl⟩; exact HT.out.1) ?_ ?_; go_simp; go_simp))
    | ((with_reducible show wpQuiet _ _ _ _ ({ dst := some 106, op := Op.load _ _, type := _, pos := _, after := _, guard := _ } :: _) _); go_must (refine quiet_load_at (by kernel_rfl) 48 (.tmp 105) rfl ⟨gl, 34, none⟩ (LAcc.mk c o s).cells _ Try.underlying48 rfl (size_acc HO.out.1) (by rintro _ ⟨nq, rfl⟩; exact HT.out.2) ?_ ?_; go_simp; go_simp))
    | ((with_reducible show wpQuiet _ _ _ _ ({ dst := some 108, op := Op.load _ _, type := _, pos := _, after := _, guard := _ } :: _) _); go_must (refine quiet_load_at (by kernel_rfl) 46 (.tmp 5) rfl ⟨go, 0, none⟩ (bv o) _ Try.underlying46 rfl (by rw [size_key, bv_length, HO.out.1]) (by rintro _ ⟨nq, rfl⟩; exact M.out.oall) ?_ ?_; go_simp; go_simp))
    | ((with_reducible show wpQuiet _ _ _ _ ({ dst := some 100, op := Op.build _ _, type := _, pos := _, after := _, guard := _ } :: _) _); go_must (refine quiet_built14 (by kernel_rfl) _ _ ((LAcc.mk (xc - c) key0 0).cells).toArray rfl (by simp only [List.map_toArray, List.map_cons, List.map_nil]; exact built_c14 _) ?_; go_frame))
    | ((with_reducible show wpQuiet _ _ _ _ ({ dst := some 110, op := Op.build _ _, type := _, pos := _, after := _, guard := _ } :: _) _); go_must (refine quiet_built14 (by kernel_rfl) _ _ ((LAcc.mk c o s).cells).toArray rfl (by simp only [List.map_toArray, List.map_cons, List.map_nil]; exact built_acc14 _ _ HO.out.1) ?_; go_frame))
    | go_big_quiet_step (fail))
  refine wpQuiet_nil ?_
  intro nq
  clear cpc E1 hss ne0 ne1 HT
  have M := Lib.hid (M.out.drewN nq)
  have RL := Lib.hid (RL.out.drewN nq)
  generalize wx.drewN nq = wy at *
  have HT := Lib.hid (row_two14 RL.out (show (LAcc.mk (xc - c) key0 0).o.length = 32 from rfl))
  have NB := fun w => acc_eql (x := (LAcc.mk c o s)) (y := blank13) HO.out.1 rfl w
  simp only [HBK.out, decide_false] at NB
  go_upto_region 12 with (first
    | ((with_reducible show wpList _ _ _ ({ dst := some 115, op := Op.load _ _, type := _, pos := _, after := _, guard := _ } :: _) _ _); go_must (refine wpList_load_at rfl 48 (.tmp 114) rfl ⟨gl, 34, none⟩ ((LAcc.mk c o s)).cells _ Try.underlying48 rfl (size_acc HO.out.1) HT.out.2 ?_ ?_; go_simp))
    | ((with_reducible show wpList _ _ _ ({ dst := some 116, op := Op.build _ _, type := _, pos := _, after := _, guard := _ } :: _) _ _); go_must (refine wpList_plain rfl fun K hK => wp_built _ _ _ rfl (by simp only [List.map_toArray, List.map_nil]; exact built_blank) (hK _ _ ?_))))
  clear NB HT
  have HR1 : Hid (do14 [(LAcc.mk (xc - c) key0 0), (LAcc.mk c o s)] (b14 true) [0, 1] (mk14 c s o) = ⟨12, [], 0⟩) := Lib.hid (HD1.out.trans (k1_there (fun h => by have := HBK.out; rw [h] at this; exact cast this rfl)))
  clear HD1
  refine wp_region_held_drew (S := fun V => MK14 w V gp go gi ga bs (LAcc.mk xc key0 0) o c s D cD) (by kernel_rfl) M.out.drew (fun _ => ?_)
  have MD := Lib.hid M.out.drew
  have RL := Lib.hid RL.out.drew
  generalize wy.drew = wd at *
  clear M
  refine takeL (i := 0) (v := ?_) rfl (by kernel_rfl) (by kernel_rfl) (by kernel_rfl) (fun _ _ _ h => h) (Or.inl ⟨by rfl, ?_⟩) MD.out ?_
  rotate_left
  · intro w hw
    try dsimp only at hw
    go_simp
    try with_reducible rfl
  try simp only [Act.put, List.setIfInBounds_toArray, List.set_cons_zero, List.set_cons_succ]
  refine takeL (i := 2) (v := .agg (insC 1 (some ⟨ga, 0, none⟩) 2 2 D 52 cD).toArray) rfl (by kernel_rfl) (by kernel_rfl) (by kernel_rfl) (fun _ _ _ h => h) (Or.inl ⟨by rfl, fun wz hwz => exec_load_at wz 26 (.tmp 10) rfl ⟨gi, 0, none⟩ (insC 1 (some ⟨ga, 0, none⟩) 2 2 D 52 cD) _ Try.underlying26 rfl (size_ins14 _ _ _ _ _ _ _) hwz.iall (by go_simp)⟩) MD.out ?_
  try simp only [Act.put, List.setIfInBounds_toArray, List.set_cons_zero, List.set_cons_succ]
  refine readyL (i := 1) rfl (by kernel_rfl) (by kernel_rfl) fun K hK => ?_
  go_simp
  refine (both14_ _).mono ?_
  rintro e wr ⟨rfl, hrr, hbr⟩
  have RR := Lib.hid hrr
  have MR := Lib.hid (MD.out.below hbr)
  have RL := Lib.hid (RL.out.below hbr RL.out.lt)
  clear hrr hbr
  refine hK.out _ _ MR.out ?_
  clear hK K
  try simp only [Act.put, List.setIfInBounds_toArray, List.set_cons_zero, List.set_cons_succ]
  refine readyL (i := 3) rfl (by kernel_rfl) (by kernel_rfl) fun K hK => ?_
  go_simp
  refine (do_some14 (two_in' RL.out HK1.out RL.out.lt) HCL.out.1 RR.out MR.out.a MR.out.d HML.out (by decide) HMB.out rfl (by decide) (two_bytes (by unfold IsByte; omega) (by unfold IsByte; omega)) HR1.out).mono ?_
  rintro e we ⟨vb, rfl, hvb, hbe⟩
  have ME := Lib.hid (MR.out.below hbe)
  have RL := Lib.hid (RL.out.below hbe RL.out.lt)
  clear hvb
  clear hbe
  refine hK.out _ _ ME.out ?_
  clear hK K
  try simp only []
  refine takeL (i := 4) (v := ?_) rfl (by kernel_rfl) (by kernel_rfl) (by kernel_rfl) (fun _ _ _ h => h) (Or.inl ⟨by rfl, ?_⟩) ME.out ?_
  rotate_left
  · intro w hw
    try dsimp only at hw
    go_simp
    try with_reducible rfl
  try simp only [Act.put, List.setIfInBounds_toArray, List.set_cons_zero, List.set_cons_succ]
  refine takeL (i := 5) (v := ?_) rfl (by kernel_rfl) (by kernel_rfl) (by kernel_rfl) (fun _ _ _ h => h) (Or.inl ⟨by rfl, ?_⟩) ME.out ?_
  rotate_left
  · intro w hw
    try dsimp only at hw
    go_simp
    try with_reducible rfl
  try simp only [Act.put, List.setIfInBounds_toArray, List.set_cons_zero, List.set_cons_succ]
  refine takeL (i := 6) (v := ?_) rfl (by kernel_rfl) (by kernel_rfl) (by kernel_rfl) (fun _ _ _ h => h) (Or.inl ⟨by rfl, ?_⟩) ME.out ?_
  rotate_left
  · intro w hw
    try dsimp only at hw
    go_simp
    try with_reducible rfl
  try simp only [Act.put, List.setIfInBounds_toArray, List.set_cons_zero, List.set_cons_succ]
  refine takeL (i := 7) (v := ?_) rfl (by kernel_rfl) (by kernel_rfl) (by kernel_rfl) (fun _ _ _ h => h) (Or.inl ⟨by rfl, ?_⟩) ME.out ?_
  rotate_left
  · intro w hw
    try dsimp only at hw
    go_simp
    try with_reducible rfl
  try simp only [Act.put, List.setIfInBounds_toArray, List.set_cons_zero, List.set_cons_succ]
  refine takeL (i := 8) (v := ?_) rfl (by kernel_rfl) (by kernel_rfl) (by kernel_rfl) (fun _ _ _ h => h) (Or.inl ⟨by rfl, ?_⟩) ME.out ?_
  rotate_left
  · intro w hw
    try dsimp only at hw
    go_simp
    try with_reducible rfl
  try simp only [Act.put, List.setIfInBounds_toArray, List.set_cons_zero, List.set_cons_succ]
  refine takeL (i := 9) (v := ?_) rfl (by kernel_rfl) (by kernel_rfl) (by kernel_rfl) (fun _ _ _ h => h) (Or.inl ⟨by rfl, ?_⟩) ME.out ?_
  rotate_left
  · intro w hw
    try dsimp only at hw
    go_simp
    try with_reducible rfl
  try simp only [Act.put, List.setIfInBounds_toArray, List.set_cons_zero, List.set_cons_succ]
  refine takeL (i := 10) (v := ?_) rfl (by kernel_rfl) (by kernel_rfl) (by kernel_rfl) (fun _ _ _ h => h) (Or.inl ⟨by rfl, ?_⟩) ME.out ?_
  rotate_left
  · intro w hw
    try dsimp only at hw
    go_simp
    try with_reducible rfl
  try simp only [Act.put, List.setIfInBounds_toArray, List.set_cons_zero, List.set_cons_succ]
  refine wpAnyH_done (by kernel_rfl) ?_ _
  clear MD MR RR
  have RB := Lib.hid (Row.new we 5 (bv [1]))
  have BB := Lib.hid ((Below.refl we.heap.size we).alloc (Nat.le_refl _) (.cells (bv [1]).toArray 5))
  have RB' : Hid (Row (we.alloc (.cells #[.int .u8 1] 5)) we.heap.size 5 (bv [1])) := Lib.hid RB.out
  have BB' : Hid (Below we.heap.size we (we.alloc (.cells #[.int .u8 1] 5))) := Lib.hid BB.out
  clear RB BB
  go_wp2_with fail
  have MA := Lib.hid (ME.out.below BB'.out)
  have RL := Lib.hid (RL.out.below BB'.out RL.out.lt)
  obtain ⟨gb, hgb⟩ : ∃ g, g = we.heap.size := ⟨_, rfl⟩
  rw [← hgb] at RB' ⊢
  clear hgb BB' ME
  generalize we.alloc (.cells #[.int .u8 1] 5) = wa at *
  refine (show Calls Try.prog 22 #[.int .u64 8, .int .i64 4] wa _ from HN8.out wa).mono ?_
  rintro e w8 ⟨v8, rfl, ho8, hb8⟩
  have O8 := Lib.hid ho8
  have A8 := Lib.hid hb8
  clear ho8 hb8 HN8
  go_wp2_with fail
  refine (show Calls Try.prog 22 #[.int .u64 5, .int .i64 8] w8 _ from HN5.out w8).mono ?_
  rintro e w5 ⟨v5, rfl, ho5, hb5⟩
  have O8 := Lib.hid (O8.out.below hb5)
  have A5 := Lib.hid (A8.out.trans (hb5.mono A8.out.size))
  have A5S := Lib.hid A5.out.size
  obtain ⟨D5, c5, rfl⟩ := ho5.form
  have HSE := Lib.hid ho5.sees
  clear ho5 hb5 A8 HN5
  go_upto_region 14 with (first
    | ((with_reducible show wpList _ _ _ ({ dst := some 129, op := _, type := _, pos := _, after := _, guard := _ } :: _) _ _); go_must (refine wpList_addBg (by kernel_rfl) (.tmp 127) (.tmp 128) 24 rfl wa.heap.size Try.underlying24 info_u8 v8 (dig 8 4) ?_ O8.out w5.heap.size D5 (dig 5 8).length c5 (dig 5 8) ?_ HSE.out A5S.out ?_ ?_; go_simp; go_simp; (rw [List.length_append, dig_len, dig_len]; omega); intro v9 w16 ho9 hg9; have ho9m : OwnB w16 wa.heap.size v9 sp14 := ho9; have A16 := Lib.hid (A5.out.trans (hg9.below O8.out A5S.out)); obtain ⟨D9, c9, hv9⟩ := ho9m.form; rw [sp14_len] at hv9; subst hv9; have O9 := Lib.hid ho9m; clear ho9 hg9 ho9m HSE O8 A5))
    | ((with_reducible show wpList _ _ _ ({ dst := some 130, op := Op.build _ _, type := _, pos := _, after := _, guard := _ } :: _) _ _); go_must (refine wpList_plain rfl fun K hK => wp_built _ _ _ rfl (by simp only [List.map_toArray, List.map_cons, List.map_nil]; exact built_ins14 _ _ _ _ _ _ _) (hK _ _ ?_)))
    | ((with_reducible show wpList _ _ _ ({ dst := some 19, op := Op.alloc _, type := _, pos := _, after := _, guard := _ } :: _) _ _); go_must (refine wpList_alloc_zero rfl 26 rfl (insC 0 none 0 0 none 0 0) zero_ins14 ?_))
    | ((with_reducible show wpList _ _ _ ({ dst := none, op := Op.store 26 (.tmp 19) _, type := _, pos := _, after := _, guard := _ } :: _) _ _); go_must (refine wpList_store_new rfl 26 (.tmp 19) (.tmp 130) rfl (insC 1 (some ⟨gb, 0, none⟩) 1 1 D9 12 c9) (size_ins14 _ _ _ _ _ _ _) (ins14_one _ _ _ _ _ _ _) rfl ?_ ?_ ?_; go_simp; go_simp; intro w17 hr17 hb17 hz17)))
  obtain ⟨gv, hgv⟩ : ∃ g, g = w16.heap.size := ⟨_, rfl⟩
  rw [← hgv] at hr17 ⊢
  have ML := Lib.hid ((MA.out.below A16.out).below hb17)
  have RL := Lib.hid ((RL.out.below A16.out RL.out.lt).below hb17 (RL.out.below A16.out RL.out.lt).lt)
  have RB := Lib.hid ((RB'.out.below A16.out RB'.out.lt).below hb17 (RB'.out.below A16.out RB'.out.lt).lt)
  have RV := Lib.hid hr17
  have OV := Lib.hid (O9.out.below hb17)
  generalize wa.heap.size = ba at *
  clear hgv hr17 hb17 hz17 MA RB' A16 O9 A5S
  have HR2 : Hid (do14 [(LAcc.mk (xc - c) key0 0), (LAcc.mk c o s)] (b14 true) [1] sp14 = ⟨12, [], 0⟩) := Lib.hid (do_k2.trans (k2_there HPL.out))
  refine wp_region_held_drew (S := fun V => Row V gv 26 (insC 1 (some ⟨gb, 0, none⟩) 1 1 D9 12 c9)) (by kernel_rfl) RV.out.drew (fun _ => ?_)
  have RV := Lib.hid RV.out.drew
  have MD := Lib.hid ML.out.drew
  have RL := Lib.hid RL.out.drew
  have RB := Lib.hid RB.out.drew
  have OV := Lib.hid (show OwnB w17.drew ba (.slice D9 12 c9) sp14 from OV.out)
  generalize w17.drew = wd2 at *
  clear ML
  refine takeL (i := 0) (v := ?_) rfl (by kernel_rfl) (by kernel_rfl) (by kernel_rfl) (fun _ _ _ h => h) (Or.inl ⟨by rfl, ?_⟩) RV.out ?_
  rotate_left
  · intro w hw
    try dsimp only at hw
    go_simp
    try with_reducible rfl
  try simp only [Act.put, List.setIfInBounds_toArray, List.set_cons_zero, List.set_cons_succ]
  refine takeL (i := 2) (v := .agg (insC 1 (some ⟨gb, 0, none⟩) 1 1 D9 12 c9).toArray) rfl (by kernel_rfl) (by kernel_rfl) (by kernel_rfl) (fun _ _ _ h => h) (Or.inl ⟨by rfl, fun wz hwz => exec_load_at wz 26 (.tmp 19) rfl ⟨gv, 0, none⟩ (insC 1 (some ⟨gb, 0, none⟩) 1 1 D9 12 c9) _ Try.underlying26 rfl (size_ins14 _ _ _ _ _ _ _) (fun j u hu => by rw [addr_row, hwz.cell, Nat.zero_add]; exact hu) (by go_simp)⟩) RV.out ?_
  try simp only [Act.put, List.setIfInBounds_toArray, List.set_cons_zero, List.set_cons_succ]
  refine readyL (i := 1) rfl (by kernel_rfl) (by kernel_rfl) fun K hK => ?_
  go_simp
  refine (both14_ _).mono ?_
  rintro e wq ⟨rfl, hrr, hbr⟩
  have RR := Lib.hid hrr
  have RV := Lib.hid (RV.out.below hbr RV.out.lt)
  have MR := Lib.hid (MD.out.below hbr)
  have RL := Lib.hid (RL.out.below hbr RL.out.lt)
  have RB := Lib.hid (RB.out.below hbr RB.out.lt)
  have OV := Lib.hid (OV.out.below hbr)
  clear hrr hbr MD
  refine hK.out _ _ RV.out ?_
  clear hK K
  try simp only [Act.put, List.setIfInBounds_toArray, List.set_cons_zero, List.set_cons_succ]
  refine readyL (i := 3) rfl (by kernel_rfl) (by kernel_rfl) fun K hK => ?_
  go_simp
  refine (do_some14 (two_in' RL.out HK1.out RL.out.lt) HCL.out.1 RR.out RB.out OV.out sp14_len (by decide) sp14_bytes rfl (by decide) (bytes_one14 (by unfold IsByte; omega)) HR2.out).mono ?_
  rintro e wf ⟨vc, rfl, hvc, hbe⟩
  have MF := Lib.hid (MR.out.below hbe)
  have RV := Lib.hid (RV.out.below hbe RV.out.lt)
  clear hvc hbe MR RL RB OV RR
  refine hK.out _ _ RV.out ?_
  clear hK K
  try simp only []
  refine takeL (i := 4) (v := ?_) rfl (by kernel_rfl) (by kernel_rfl) (by kernel_rfl) (fun _ _ _ h => h) (Or.inl ⟨by rfl, ?_⟩) RV.out ?_
  rotate_left
  · intro w hw
    try dsimp only at hw
    go_simp
    try with_reducible rfl
  try simp only [Act.put, List.setIfInBounds_toArray, List.set_cons_zero, List.set_cons_succ]
  refine takeL (i := 5) (v := ?_) rfl (by kernel_rfl) (by kernel_rfl) (by kernel_rfl) (fun _ _ _ h => h) (Or.inl ⟨by rfl, ?_⟩) RV.out ?_
  rotate_left
  · intro w hw
    try dsimp only at hw
    go_simp
    try with_reducible rfl
  try simp only [Act.put, List.setIfInBounds_toArray, List.set_cons_zero, List.set_cons_succ]
  refine takeL (i := 6) (v := ?_) rfl (by kernel_rfl) (by kernel_rfl) (by kernel_rfl) (fun _ _ _ h => h) (Or.inl ⟨by rfl, ?_⟩) RV.out ?_
  rotate_left
  · intro w hw
    try dsimp only at hw
    go_simp
    try with_reducible rfl
  try simp only [Act.put, List.setIfInBounds_toArray, List.set_cons_zero, List.set_cons_succ]
  refine takeL (i := 7) (v := ?_) rfl (by kernel_rfl) (by kernel_rfl) (by kernel_rfl) (fun _ _ _ h => h) (Or.inl ⟨by rfl, ?_⟩) RV.out ?_
  rotate_left
  · intro w hw
    try dsimp only at hw
    go_simp
    try with_reducible rfl
  try simp only [Act.put, List.setIfInBounds_toArray, List.set_cons_zero, List.set_cons_succ]
  refine takeL (i := 8) (v := ?_) rfl (by kernel_rfl) (by kernel_rfl) (by kernel_rfl) (fun _ _ _ h => h) (Or.inl ⟨by rfl, ?_⟩) RV.out ?_
  rotate_left
  · intro w hw
    try dsimp only at hw
    go_simp
    try with_reducible rfl
  try simp only [Act.put, List.setIfInBounds_toArray, List.set_cons_zero, List.set_cons_succ]
  refine takeL (i := 9) (v := ?_) rfl (by kernel_rfl) (by kernel_rfl) (by kernel_rfl) (fun _ _ _ h => h) (Or.inl ⟨by rfl, ?_⟩) RV.out ?_
  rotate_left
  · intro w hw
    try dsimp only at hw
    go_simp
    try with_reducible rfl
  try simp only [Act.put, List.setIfInBounds_toArray, List.set_cons_zero, List.set_cons_succ]
  refine takeL (i := 10) (v := ?_) rfl (by kernel_rfl) (by kernel_rfl) (by kernel_rfl) (fun _ _ _ h => h) (Or.inl ⟨by rfl, ?_⟩) RV.out ?_
  rotate_left
  · intro w hw
    try dsimp only at hw
    go_simp
    try with_reducible rfl
  try simp only [Act.put, List.setIfInBounds_toArray, List.set_cons_zero, List.set_cons_succ]
  refine wpAnyH_done (by kernel_rfl) ?_ _
  have NO := fun w => key_eql HO.out.1 key0_ok.1 w
  simp only [HKO.out, decide_false] at NO
  go_upto_region 16 with (first
    | ((with_reducible show wpList _ _ _ ({ dst := some 139, op := Op.load _ _, type := _, pos := _, after := _, guard := _ } :: _) _ _); go_must (refine wpList_load_at rfl 46 (.tmp 5) rfl ⟨go, 0, none⟩ (bv o) _ Try.underlying46 rfl (by rw [size_key, bv_length, HO.out.1]) MF.out.oall ?_ ?_; go_simp))
    | ((with_reducible show wpList _ _ _ ({ dst := some 140, op := Op.build _ _, type := _, pos := _, after := _, guard := _ } :: _) _ _); go_must (refine wpList_plain rfl fun K hK => wp_built _ _ _ rfl (by simp only [List.map_toArray, List.map_nil]; exact built_key14) (hK _ _ ?_))))
  clear NO
  go_wp2_with fail
  refine (lives14_ _).mono ?_
  rintro e wl ⟨rfl, hbl⟩
  have BL := Lib.hid (MF.out.b.trans (hbl.mono MF.out.b.size))
  clear hbl
  go_wp2_with fail
  go_ret
  exact ⟨rfl, BL.out⟩
end Go.Proofs.Ytodoaebpkmhhmaa

/-
  Of part MakeRoom14: what is needed here.
-/
namespace Go.Proofs.Ytodoaebpkmhhmaa
open Go.RowKit
set_option linter.unusedVariables false
set_option maxRecDepth 100000
set_option maxHeartbeats 16000000 in
theorem make_room14 (xc : Int) (o : List Int) (c s : Int) (w : World) (hx : AccOk (LAcc.mk xc key0 0)) (hl : ¬ 1048576 < s) (hf : ¬ xc < c) (hnb : ¬ LAcc.mk c o s = blank13) (ho0 : o = key0) (hs0 : ¬ s = 0) (hc : 0 ≤ c ∧ c < 18446744073709551616) (hs : 0 ≤ s ∧ s < 18446744073709551616) (ho : o.length = 32 ∧ AllBytes o) : Calls Try.prog 6 #[.agg ((LAcc.mk xc key0 0)).cells.toArray, .agg #[.int .u64 c, .int .u64 s], .agg (bv o).toArray] w fun e w' => e = .returned (.bool true) ∧ Below w.heap.size w w' := by
  have HX := Lib.hid hx
  have HO := Lib.hid ho
  have HR : Hid (do14 [(LAcc.mk xc key0 0), blank13] (b14 true) [0, 1] (mk14 c s o) = ⟨0, [(LAcc.mk (xc - c) key0 0), (LAcc.mk c o s)], s⟩) := Lib.hid ((do_k1 hc hs ho.1).trans (k1_good ⟨rfl, rfl⟩ hl hf))
  have HML := Lib.hid (mk14_len c s ho.1)
  have HMB := Lib.hid (mk14_bytes c s ho.2)
  have HN0 := Lib.hid (fun V => number14_ 0 4 V (by omega) (by omega) (by omega))
  have HNC := Lib.hid (fun V => number14_ c 8 V hc.1 hc.2 (by omega))
  have HNS := Lib.hid (fun V => number14_ s 8 V hs.1 hs.2 (by omega))
  have HOK : Hid (∀ z ∈ [(LAcc.mk xc key0 0), blank13], AccOk z) := Lib.hid (fun z hz => by
    simp only [List.mem_cons, List.not_mem_nil, or_false] at hz
    rcases hz with rfl | rfl
    · exact hx
    · exact blank_ok)
  have HK : Hid ((LAcc.mk xc key0 0).o = key0) := Lib.hid rfl
  have HF : Hid (c ≤ xc ∧ s ≤ 1048576) := Lib.hid (by omega)
  have HY0 : Hid (AccOk (LAcc.mk (xc - c) key0 0)) := Lib.hid ⟨by have := hx.c; have := hc; dsimp only at *; omega, hx.o, hx.s⟩
  have HY1 : Hid (AccOk (LAcc.mk c o s)) := Lib.hid ⟨hc, ho, hs⟩
  have HK1 : Hid (∀ z ∈ [(LAcc.mk (xc - c) key0 0), (LAcc.mk c o s)], AccOk z) := Lib.hid (fun z hz => by
    simp only [List.mem_cons, List.not_mem_nil, or_false] at hz
    rcases hz with rfl | rfl
    · exact HY0.out
    · exact HY1.out)
  have HD1 := Lib.hid (do_k1 (x := (LAcc.mk (xc - c) key0 0)) (y := (LAcc.mk c o s)) hc hs ho.1)
  have HN8 := Lib.hid (fun V => number14_ 8 4 V (by omega) (by omega) (by omega))
  have HN5 := Lib.hid (fun V => number14_ 5 8 V (by omega) (by omega) (by omega))
  have HBK : Hid (((LAcc.mk c o s) = blank13) = False) := Lib.hid (eq_false hnb)
  have HKO : Hid ((o = key0) = True) := Lib.hid (eq_true ho0)
  have HS0 : Hid ((s == 0) = false) := Lib.hid (by simpa using hs0)
  have HPL : Hid (¬ plain14 (LAcc.mk c o s)) := Lib.hid (fun h => hs0 h.2)
  have HC := Lib.hid hc
  have HS := Lib.hid hs
  clear hx ho hc hs hl hf hnb ho0 hs0
  have RP := Lib.hid (((Row.new w 48 ((LAcc.mk xc key0 0)).cells).alloc (.cells #[.int .u64 c, .int .u64 s] 54)).alloc (.cells (bv o).toArray 46))
  have RZ := Lib.hid ((Row.new' (w.alloc (.cells ((LAcc.mk xc key0 0)).cells.toArray 48)) 54 [.int .u64 c, .int .u64 s] (g := w.heap.size + 1) (by simp)).alloc (.cells (bv o).toArray 46))
  have RO := Lib.hid (Row.new' ((w.alloc (.cells ((LAcc.mk xc key0 0)).cells.toArray 48)).alloc (.cells #[.int .u64 c, .int .u64 s] 54)) 46 (bv o) (g := w.heap.size + 1 + 1) (by simp))
  have B0 := Lib.hid ((((Below.refl w.heap.size w).alloc (Nat.le_refl _) (.cells ((LAcc.mk xc key0 0)).cells.toArray 48)).alloc (by simp) (.cells #[.int .u64 c, .int .u64 s] 54)).alloc (by simp; omega) (.cells (bv o).toArray 46))
  obtain ⟨go, hgo⟩ : ∃ g, g = w.heap.size + 1 + 1 := ⟨_, rfl⟩
  obtain ⟨gz, hgz⟩ : ∃ g, g = w.heap.size + 1 := ⟨_, rfl⟩
  obtain ⟨gp, hgp⟩ : ∃ g, g = w.heap.size := ⟨_, rfl⟩
  have HGO : Hid (w.heap.size + 1 + 1 = go) := Lib.hid hgo.symm
  have HGZ : Hid (w.heap.size + 1 = gz) := Lib.hid hgz.symm
  have HGP : Hid (w.heap.size = gp) := Lib.hid hgp.symm
  rw [← hgo] at RO
  rw [← hgz] at RZ
  rw [← hgp] at RP
  clear hgo hgz hgp
  have RZ' : Hid (Row (((w.alloc (.cells ((LAcc.mk xc key0 0)).cells.toArray 48)).alloc (.cells #[.int .u64 c, .int .u64 s] 54)).alloc (.cells (bv o).toArray 46)) gz 54 [.int .u64 c, .int .u64 s]) := Lib.hid RZ.out
  clear RZ
  generalize hW : ((w.alloc (.cells ((LAcc.mk xc key0 0)).cells.toArray 48)).alloc (.cells #[.int .u64 c, .int .u64 s] 54)).alloc (.cells (bv o).toArray 46) = W at *
  have HW := Lib.hid hW
  clear hW
  go_enter Try.func6, Try.ntmps6
  go_upto_region 1 with fail
  try rw [HGO.out]
  try rw [HGZ.out]
  try rw [HGP.out]
  rw [HW.out]
  clear HW HGO HGZ HGP
  have cz0 : W.cell? ⟨gz, 0, none⟩ = some (.int .u64 c) := RZ'.out.cell 0
  have cz1 : W.cell? ⟨gz, 1, none⟩ = some (.int .u64 s) := RZ'.out.cell 1
  go_upto_region 3 with fail
  clear cz0 cz1 RZ'
  refine wp_region_held_drew (S := fun _ => True) (by kernel_rfl) trivial (fun _ => ?_)
  have RP := Lib.hid RP.out.drew
  have RO := Lib.hid RO.out.drew
  have B0 := Lib.hid B0.out.drew
  generalize W.drew = W1 at *
  refine takeL (i := 1) (v := ?_) rfl (by kernel_rfl) (by kernel_rfl) (by kernel_rfl) (fun _ _ _ h => h) (Or.inl ⟨by rfl, ?_⟩) trivial ?_
  rotate_left
  · intro w hw
    try dsimp only at hw
    go_simp
    try with_reducible rfl
  try simp only [Act.put, List.setIfInBounds_toArray, List.set_cons_zero, List.set_cons_succ]
  refine takeL (i := 4) (v := ?_) rfl (by kernel_rfl) (by kernel_rfl) (by kernel_rfl) (fun _ _ _ h => h) (Or.inl ⟨by rfl, ?_⟩) trivial ?_
  rotate_left
  · intro w hw
    try dsimp only at hw
    go_simp
    try with_reducible rfl
  try simp only [Act.put, List.setIfInBounds_toArray, List.set_cons_zero, List.set_cons_succ]
  refine takeL (i := 7) (v := ?_) rfl (by kernel_rfl) (by kernel_rfl) (by kernel_rfl) (fun _ _ _ h => h) (Or.inl ⟨by rfl, ?_⟩) trivial ?_
  rotate_left
  · intro w hw
    try dsimp only at hw
    go_simp
    try with_reducible rfl
  try simp only [Act.put, List.setIfInBounds_toArray, List.set_cons_zero, List.set_cons_succ]
  refine readyL (i := 0) rfl (by kernel_rfl) (by kernel_rfl) fun K hK => ?_
  go_simp
  refine (HN0.out W1).mono ?_
  rintro e w1 ⟨v1, rfl, ho1, hb1⟩
  have O1 := Lib.hid ho1
  have A1 := Lib.hid hb1
  clear ho1 hb1 HN0
  refine hK.out _ _ trivial ?_
  clear hK K
  try simp only [Act.put, List.setIfInBounds_toArray, List.set_cons_zero, List.set_cons_succ]
  refine readyL (i := 2) rfl (by kernel_rfl) (by kernel_rfl) fun K hK => ?_
  go_simp
  refine (HNC.out w1).mono ?_
  rintro e w2 ⟨v2, rfl, ho2, hb2⟩
  have O1 := Lib.hid (O1.out.below hb2)
  have A2 := Lib.hid (A1.out.trans (hb2.mono A1.out.size))
  obtain ⟨D2, c2, rfl⟩ := ho2.form
  have HSE := Lib.hid ho2.sees
  clear ho2 hb2 HNC A1
  refine hK.out _ _ trivial ?_
  clear hK K
  try simp only [Act.put, List.setIfInBounds_toArray, List.set_cons_zero, List.set_cons_succ]
  refine readyL (i := 3) rfl (by kernel_rfl) (by kernel_rfl) fun K hK => ?_
  refine wp_addB14 (.tmp 28) (.tmp 30) rfl W1.heap.size v1 (dig 0 4) (dig c 8) D2 (dig c 8).length c2 _ (by go_simp) O1.out (by go_simp) HSE.out (by rw [dig_len, dig_len]; omega) A2.out.size (fun v3 w3 ho3 hb3 => ?_)
  have O3 := Lib.hid ho3
  have A3 := Lib.hid (A2.out.trans hb3)
  clear ho3 hb3 O1 HSE A2
  refine hK.out _ _ trivial ?_
  clear hK K
  try simp only [Act.put, List.setIfInBounds_toArray, List.set_cons_zero, List.set_cons_succ]
  refine readyL (i := 5) rfl (by kernel_rfl) (by kernel_rfl) fun K hK => ?_
  go_simp
  refine (HNS.out w3).mono ?_
  rintro e w4 ⟨v4, rfl, ho4, hb4⟩
  have O3 := Lib.hid (O3.out.below hb4)
  have A4 := Lib.hid (A3.out.trans (hb4.mono A3.out.size))
  obtain ⟨D4, c4, rfl⟩ := ho4.form
  have HSE := Lib.hid ho4.sees
  clear ho4 hb4 HNS A3
  refine hK.out _ _ trivial ?_
  clear hK K
  try simp only [Act.put, List.setIfInBounds_toArray, List.set_cons_zero, List.set_cons_succ]
  refine readyL (i := 6) rfl (by kernel_rfl) (by kernel_rfl) fun K hK => ?_
  refine wp_addB14 (.tmp 31) (.tmp 33) rfl W1.heap.size v3 (dig 0 4 ++ dig c 8) (dig s 8) D4 (dig s 8).length c4 _ (by go_simp) O3.out (by go_simp) HSE.out (by rw [List.length_append, dig_len, dig_len, dig_len]; omega) A4.out.size (fun v5 w5 ho5 hb5 => ?_)
  have O5 := Lib.hid ho5
  have A5 := Lib.hid (A4.out.trans hb5)
  clear ho5 hb5 O3 HSE A4
  have HSO : Hid (Sees w5 w5.heap.size (some ⟨go, 0, none⟩) 32 (bv o)) := Lib.hid (by have := (RO.out.below A5.out RO.out.lt).sees0; rwa [bv_length, HO.out.1] at this)
  refine hK.out _ _ trivial ?_
  clear hK K
  try simp only [Act.put, List.setIfInBounds_toArray, List.set_cons_zero, List.set_cons_succ]
  refine readyL (i := 8) rfl (by kernel_rfl) (by kernel_rfl) fun K hK => ?_
  refine wp_addB14 (.tmp 34) (.tmp 35) rfl W1.heap.size v5 (dig 0 4 ++ dig c 8 ++ dig s 8) o (some ⟨go, 0, none⟩) 32 32 _ (by go_simp) O5.out (by go_simp) HSO.out (by rw [List.length_append, List.length_append, dig_len, dig_len, dig_len]; omega) A5.out.size (fun v6 w6 ho6 hb6 => ?_)
  have O6 : Hid (OwnB w6 W1.heap.size v6 (mk14 c s o)) := Lib.hid ho6
  have A6 := Lib.hid (A5.out.trans hb6)
  clear ho6 hb6 O5 HSO A5
  refine hK.out _ _ trivial ?_
  clear hK K
  try simp only [Act.put, List.setIfInBounds_toArray, List.set_cons_zero, List.set_cons_succ]
  refine takeL (i := 9) (v := ?_) rfl (by kernel_rfl) (by kernel_rfl) (by kernel_rfl) (fun _ _ _ h => h) (Or.inl ⟨by rfl, ?_⟩) trivial ?_
  rotate_left
  · intro w hw
    try dsimp only at hw
    go_simp
    try with_reducible rfl
  try simp only [Act.put, List.setIfInBounds_toArray, List.set_cons_zero, List.set_cons_succ]
  refine wpAnyH_done (by kernel_rfl) ?_ _
  obtain ⟨D, cD, hv6⟩ := O6.out.form
  rw [HML.out] at hv6
  subst hv6
  have RP6 := Lib.hid (RP.out.below A6.out RP.out.lt)
  have RO6 := Lib.hid (RO.out.below A6.out RO.out.lt)
  have B6 := Lib.hid (B0.out.trans (A6.out.mono B0.out.size))
  have RA := Lib.hid (Row.new w6 5 (bv [0, 1]))
  have BA := Lib.hid ((Below.refl w6.heap.size w6).alloc (Nat.le_refl _) (.cells (bv [0, 1]).toArray 5))
  clear RP RO A6 B0
  go_upto_region 5 with (first
    | ((with_reducible show wpList _ _ _ ({ dst := some 39, op := Op.build _ _, type := _, pos := _, after := _, guard := _ } :: _) _ _); go_must (refine wpList_plain rfl fun K hK => wp_built _ _ _ rfl (by simp only [List.map_toArray, List.map_cons, List.map_nil]; exact built_ins14 _ _ _ _ _ _ _) (hK _ _ ?_)))
    | ((with_reducible show wpList _ _ _ ({ dst := some 10, op := Op.alloc _, type := _, pos := _, after := _, guard := _ } :: _) _ _); go_must (refine wpList_alloc_zero rfl 26 rfl (insC 0 none 0 0 none 0 0) zero_ins14 ?_))
    | ((with_reducible show wpList _ _ _ ({ dst := none, op := Op.store 26 (.tmp 10) _, type := _, pos := _, after := _, guard := _ } :: _) _ _); go_must (refine wpList_store_new rfl 26 (.tmp 10) (.tmp 39) rfl (insC 1 (some ⟨w6.heap.size, 0, none⟩) 2 2 D 52 cD) (size_ins14 _ _ _ _ _ _ _) (ins14_one _ _ _ _ _ _ _) rfl ?_ ?_ ?_; go_simp; go_simp; intro w9 hr9 hb9 hz9)))
  obtain ⟨ga, hga⟩ : ∃ g, g = w6.heap.size := ⟨_, rfl⟩
  have RA' : Hid (Row (w6.alloc (.cells #[.int .u8 0, .int .u8 1] 5)) w6.heap.size 5 (bv [0, 1])) := Lib.hid RA.out
  have BA' : Hid (Below w6.heap.size w6 (w6.alloc (.cells #[.int .u8 0, .int .u8 1] 5))) := Lib.hid BA.out
  clear RA BA
  generalize w6.alloc (.cells #[.int .u8 0, .int .u8 1] 5) = w7 at *
  have hb8 : Below w6.heap.size w6 w9 := BA'.out.trans (hb9.mono BA'.out.size)
  have M9 := Lib.hid (MK14.mk (V := w9) (gi := w7.heap.size) (B6.out.trans (hb8.mono B6.out.size)) (RP6.out.below hb8 RP6.out.lt) (RO6.out.below hb8 RO6.out.lt) hr9 (RA'.out.below hb9 RA'.out.lt) (O6.out.below hb8))
  rw [← hga] at M9 ⊢
  obtain ⟨gi, hgi⟩ : ∃ g, g = w7.heap.size := ⟨_, rfl⟩
  rw [← hgi] at M9 ⊢
  clear hga hgi hb8 hr9 hb9 hz9 RA' BA' RP6 RO6 B6 O6
  generalize W1.heap.size = bs at *
  go_frame
  go_cut [11, 12, 13] (fun s11 s12 s13 wx => ∃ v, s11 = v ∧ s12 = .int .u64 s ∧ s13 = .int .i64 0 ∧ MK14 w wx gp go gi ga bs ((LAcc.mk xc key0 0)) o c s D cD ∧ OA14 wx w.heap.size v [(LAcc.mk (xc - c) key0 0), (LAcc.mk c o s)])
  case first =>
    refine wp_region_held_drew (S := fun V => MK14 w V gp go gi ga bs ((LAcc.mk xc key0 0)) o c s D cD) (by kernel_rfl) M9.out.drew (fun _ => ?_)
    have MD := Lib.hid M9.out.drew
    generalize w9.drew = wd at *
    clear M9
    refine takeL (i := 0) (v := .agg ((LAcc.mk xc key0 0)).cells.toArray) rfl (by kernel_rfl) (by kernel_rfl) (by kernel_rfl) (fun _ _ _ h => h) (Or.inl ⟨by rfl, fun wz hwz => exec_load_at wz 48 (.tmp 3) rfl ⟨gp, 0, none⟩ ((LAcc.mk xc key0 0)).cells _ Try.underlying48 rfl (size_acc HX.out.o.1) hwz.pall (by go_simp)⟩) MD.out ?_
    try simp only [Act.put, List.setIfInBounds_toArray, List.set_cons_zero, List.set_cons_succ]
    refine takeL (i := 1) (v := .agg blank13.cells.toArray) rfl (by kernel_rfl) (by kernel_rfl) (by kernel_rfl) (fun _ _ _ h => h) (Or.inl ⟨by rfl, fun wz hwz => exec_built wz _ _ _ rfl (by simp only [List.map_toArray, List.map_nil]; exact built_blank)⟩) MD.out ?_
    try simp only [Act.put, List.setIfInBounds_toArray, List.set_cons_zero, List.set_cons_succ]
    refine takeL (i := 4) (v := .agg (insC 1 (some ⟨ga, 0, none⟩) 2 2 D 52 cD).toArray) rfl (by kernel_rfl) (by kernel_rfl) (by kernel_rfl) (fun _ _ _ h => h) (Or.inl ⟨by rfl, fun wz hwz => exec_load_at wz 26 (.tmp 10) rfl ⟨gi, 0, none⟩ (insC 1 (some ⟨ga, 0, none⟩) 2 2 D 52 cD) _ Try.underlying26 rfl (size_ins14 _ _ _ _ _ _ _) hwz.iall (by go_simp)⟩) MD.out ?_
    try simp only [Act.put, List.setIfInBounds_toArray, List.set_cons_zero, List.set_cons_succ]
    refine readyL2 (i := 2) (j := 3) rfl rfl (by kernel_rfl) (by kernel_rfl) (by kernel_rfl) (fun K hK => ?_) (fun K hK => ?_)
    · refine wp_buildTwo14 22 48 (.tmp 41) (.tmp 42) rfl ((LAcc.mk xc key0 0)).cells blank13.cells _ 34 48 Try.underlying22 infoAc14 zszAc14 (by omega) (by omega) (acc_len HX.out.o.1) (acc_len (a := blank13) rfl) (by go_simp) (by go_simp) ?_
      have RL := Lib.hid (Row.new wd 48 (((LAcc.mk xc key0 0)).cells ++ blank13.cells))
      have BL := Lib.hid ((Below.refl wd.heap.size wd).alloc (Nat.le_refl _) (.cells (((LAcc.mk xc key0 0)).cells ++ blank13.cells).toArray 48))
      obtain ⟨gl, hgl⟩ : ∃ g, g = wd.heap.size := ⟨_, rfl⟩
      rw [← hgl] at RL ⊢
      clear hgl
      generalize wd.alloc (.cells (((LAcc.mk xc key0 0)).cells ++ blank13.cells).toArray 48) = wl at *
      have ML := Lib.hid (MD.out.below BL.out)
      refine hK.out _ _ ML.out ?_
      clear hK K
      try simp only [Act.put, List.setIfInBounds_toArray, List.set_cons_zero, List.set_cons_succ]
      refine readyL (i := 3) rfl (by kernel_rfl) (by kernel_rfl) fun K hK => ?_
      go_simp
      refine (both14_ wl).mono ?_
      rintro e wr ⟨rfl, hrr, hbr⟩
      have RR := Lib.hid hrr
      have BR := Lib.hid hbr
      have MR := Lib.hid (ML.out.below hbr)
      obtain ⟨gr, hgr⟩ : ∃ g, g = wl.heap.size := ⟨_, rfl⟩
      rw [← hgr] at RR ⊢
      clear hrr hbr hgr
      have RL := Lib.hid (RL.out.below BR.out RL.out.lt)
      refine hK.out _ _ MR.out ?_
      clear hK K
      try simp only [Act.put, List.setIfInBounds_toArray, List.set_cons_zero, List.set_cons_succ]
      refine readyL (i := 5) rfl (by kernel_rfl) (by kernel_rfl) fun K hK => ?_
      go_simp
      refine (do_some14 (two_in RL.out HOK.out RL.out.lt) (Nat.le_refl _) RR.out MR.out.a MR.out.d HML.out (by decide) HMB.out rfl (by decide) (two_bytes (by unfold IsByte; omega) (by unfold IsByte; omega)) HR.out).mono ?_
      rintro e we ⟨va, rfl, hva, hbe⟩
      have ME := Lib.hid (MR.out.below hbe)
      have OE : Hid (OA14 we w.heap.size va [(LAcc.mk (xc - c) key0 0), (LAcc.mk c o s)]) := Lib.hid ⟨by obtain ⟨A, c, c', e, h1, h2, h3⟩ := hva.is; exact ⟨A, c, c', e, h1, h2, own_baseR h3 MR.out.b.size⟩, hva.ok⟩
      clear hva hbe
      refine hK.out _ _ ME.out ?_
      clear hK K
      try simp only []
      refine takeL (i := 6) (v := ?_) rfl (by kernel_rfl) (by kernel_rfl) (by kernel_rfl) (fun _ _ _ h => h) (Or.inl ⟨by rfl, ?_⟩) ME.out ?_
      rotate_left
      · intro w hw
        try dsimp only at hw
        go_simp
        try with_reducible rfl
      try simp only [Act.put, List.setIfInBounds_toArray, List.set_cons_zero, List.set_cons_succ]
      refine takeL (i := 7) (v := ?_) rfl (by kernel_rfl) (by kernel_rfl) (by kernel_rfl) (fun _ _ _ h => h) (Or.inl ⟨by rfl, ?_⟩) ME.out ?_
      rotate_left
      · intro w hw
        try dsimp only at hw
        go_simp
        try with_reducible rfl
      try simp only [Act.put, List.setIfInBounds_toArray, List.set_cons_zero, List.set_cons_succ]
      refine takeL (i := 8) (v := ?_) rfl (by kernel_rfl) (by kernel_rfl) (by kernel_rfl) (fun _ _ _ h => h) (Or.inl ⟨by rfl, ?_⟩) ME.out ?_
      rotate_left
      · intro w hw
        try dsimp only at hw
        go_simp
        try with_reducible rfl
      try simp only [Act.put, List.setIfInBounds_toArray, List.set_cons_zero, List.set_cons_succ]
      refine takeL (i := 9) (v := ?_) rfl (by kernel_rfl) (by kernel_rfl) (by kernel_rfl) (fun _ _ _ h => h) (Or.inl ⟨by rfl, ?_⟩) ME.out ?_
      rotate_left
      · intro w hw
        try dsimp only at hw
        go_simp
        try with_reducible rfl
      try simp only [Act.put, List.setIfInBounds_toArray, List.set_cons_zero, List.set_cons_succ]
      refine takeL (i := 10) (v := ?_) rfl (by kernel_rfl) (by kernel_rfl) (by kernel_rfl) (fun _ _ _ h => h) (Or.inl ⟨by rfl, ?_⟩) ME.out ?_
      rotate_left
      · intro w hw
        try dsimp only at hw
        go_simp
        try with_reducible rfl
      try simp only [Act.put, List.setIfInBounds_toArray, List.set_cons_zero, List.set_cons_succ]
      refine takeL (i := 11) (v := ?_) rfl (by kernel_rfl) (by kernel_rfl) (by kernel_rfl) (fun _ _ _ h => h) (Or.inl ⟨by rfl, ?_⟩) ME.out ?_
      rotate_left
      · intro w hw
        try dsimp only at hw
        go_simp
        try with_reducible rfl
      try simp only [Act.put, List.setIfInBounds_toArray, List.set_cons_zero, List.set_cons_succ]
      refine takeL (i := 12) (v := ?_) rfl (by kernel_rfl) (by kernel_rfl) (by kernel_rfl) (fun _ _ _ h => h) (Or.inl ⟨by rfl, ?_⟩) ME.out ?_
      rotate_left
      · intro w hw
        try dsimp only at hw
        go_simp
        try with_reducible rfl
      try simp only [Act.put, List.setIfInBounds_toArray, List.set_cons_zero, List.set_cons_succ]
      refine wpAnyH_done (by kernel_rfl) ?_ _
      go_wp2_with fail
      go_meet
      exact ⟨va, rfl, rfl, rfl, ME.out, OE.out⟩
    · go_simp
      refine (both14_ wd).mono ?_
      rintro e wr ⟨rfl, hrr, hbr⟩
      have RR := Lib.hid hrr
      have BR := Lib.hid hbr
      have MR := Lib.hid (MD.out.below hbr)
      obtain ⟨gr, hgr⟩ : ∃ g, g = wd.heap.size := ⟨_, rfl⟩
      rw [← hgr] at RR ⊢
      clear hrr hbr hgr
      refine hK.out _ _ MR.out ?_
      clear hK K
      try simp only [Act.put, List.setIfInBounds_toArray, List.set_cons_zero, List.set_cons_succ]
      refine readyL (i := 2) rfl (by kernel_rfl) (by kernel_rfl) fun K hK => ?_
      refine wp_buildTwo14 22 48 (.tmp 41) (.tmp 42) rfl ((LAcc.mk xc key0 0)).cells blank13.cells _ 34 48 Try.underlying22 infoAc14 zszAc14 (by omega) (by omega) (acc_len HX.out.o.1) (acc_len (a := blank13) rfl) (by go_simp) (by go_simp) ?_
      have RL := Lib.hid (Row.new wr 48 (((LAcc.mk xc key0 0)).cells ++ blank13.cells))
      have BL := Lib.hid ((Below.refl wr.heap.size wr).alloc (Nat.le_refl _) (.cells (((LAcc.mk xc key0 0)).cells ++ blank13.cells).toArray 48))
      obtain ⟨gl, hgl⟩ : ∃ g, g = wr.heap.size := ⟨_, rfl⟩
      rw [← hgl] at RL ⊢
      clear hgl
      generalize wr.alloc (.cells (((LAcc.mk xc key0 0)).cells ++ blank13.cells).toArray 48) = wl at *
      have ML := Lib.hid (MR.out.below BL.out)
      have RR := Lib.hid (RR.out.below BL.out RR.out.lt)
      refine hK.out _ _ ML.out ?_
      clear hK K
      try simp only [Act.put, List.setIfInBounds_toArray, List.set_cons_zero, List.set_cons_succ]
      refine readyL (i := 5) rfl (by kernel_rfl) (by kernel_rfl) fun K hK => ?_
      go_simp
      refine (do_some14 (two_in RL.out HOK.out RL.out.lt) (Nat.le_refl _) RR.out ML.out.a ML.out.d HML.out (by decide) HMB.out rfl (by decide) (two_bytes (by unfold IsByte; omega) (by unfold IsByte; omega)) HR.out).mono ?_
      rintro e we ⟨va, rfl, hva, hbe⟩
      have ME := Lib.hid (ML.out.below hbe)
      have OE : Hid (OA14 we w.heap.size va [(LAcc.mk (xc - c) key0 0), (LAcc.mk c o s)]) := Lib.hid ⟨by obtain ⟨A, c, c', e, h1, h2, h3⟩ := hva.is; exact ⟨A, c, c', e, h1, h2, own_baseR h3 ML.out.b.size⟩, hva.ok⟩
      clear hva hbe
      refine hK.out _ _ ME.out ?_
      clear hK K
      try simp only []
      refine takeL (i := 6) (v := ?_) rfl (by kernel_rfl) (by kernel_rfl) (by kernel_rfl) (fun _ _ _ h => h) (Or.inl ⟨by rfl, ?_⟩) ME.out ?_
      rotate_left
      · intro w hw
        try dsimp only at hw
        go_simp
        try with_reducible rfl
      try simp only [Act.put, List.setIfInBounds_toArray, List.set_cons_zero, List.set_cons_succ]
      refine takeL (i := 7) (v := ?_) rfl (by kernel_rfl) (by kernel_rfl) (by kernel_rfl) (fun _ _ _ h => h) (Or.inl ⟨by rfl, ?_⟩) ME.out ?_
      rotate_left
      · intro w hw
        try dsimp only at hw
        go_simp
        try with_reducible rfl
      try simp only [Act.put, List.setIfInBounds_toArray, List.set_cons_zero, List.set_cons_succ]
      refine takeL (i := 8) (v := ?_) rfl (by kernel_rfl) (by kernel_rfl) (by kernel_rfl) (fun _ _ _ h => h) (Or.inl ⟨by rfl, ?_⟩) ME.out ?_
      rotate_left
      · intro w hw
        try dsimp only at hw
        go_simp
        try with_reducible rfl
      try simp only [Act.put, List.setIfInBounds_toArray, List.set_cons_zero, List.set_cons_succ]
      refine takeL (i := 9) (v := ?_) rfl (by kernel_rfl) (by kernel_rfl) (by kernel_rfl) (fun _ _ _ h => h) (Or.inl ⟨by rfl, ?_⟩) ME.out ?_
      rotate_left
      · intro w hw
        try dsimp only at hw
        go_simp
        try with_reducible rfl
      try simp only [Act.put, List.setIfInBounds_toArray, List.set_cons_zero, List.set_cons_succ]
      refine takeL (i := 10) (v := ?_) rfl (by kernel_rfl) (by kernel_rfl) (by kernel_rfl) (fun _ _ _ h => h) (Or.inl ⟨by rfl, ?_⟩) ME.out ?_
      rotate_left
      · intro w hw
        try dsimp only at hw
        go_simp
        try with_reducible rfl
      try simp only [Act.put, List.setIfInBounds_toArray, List.set_cons_zero, List.set_cons_succ]
      refine takeL (i := 11) (v := ?_) rfl (by kernel_rfl) (by kernel_rfl) (by kernel_rfl) (fun _ _ _ h => h) (Or.inl ⟨by rfl, ?_⟩) ME.out ?_
      rotate_left
      · intro w hw
        try dsimp only at hw
        go_simp
        try with_reducible rfl
      try simp only [Act.put, List.setIfInBounds_toArray, List.set_cons_zero, List.set_cons_succ]
      refine takeL (i := 12) (v := ?_) rfl (by kernel_rfl) (by kernel_rfl) (by kernel_rfl) (fun _ _ _ h => h) (Or.inl ⟨by rfl, ?_⟩) ME.out ?_
      rotate_left
      · intro w hw
        try dsimp only at hw
        go_simp
        try with_reducible rfl
      try simp only [Act.put, List.setIfInBounds_toArray, List.set_cons_zero, List.set_cons_succ]
      refine wpAnyH_done (by kernel_rfl) ?_ _
      go_wp2_with fail
      go_meet
      exact ⟨va, rfl, rfl, rfl, ME.out, OE.out⟩
  case rest =>
  obtain ⟨va, rfl, rfl, rfl, hm, hoa⟩ := hcut
  have M := Lib.hid hm
  have OA := Lib.hid hoa
  clear hm hoa M9
  rename World => wx
  obtain ⟨gl, cl, rl, rfl, hcl, hclm, _, hrl⟩ := oa_two14 OA.out
  have RL := Lib.hid hrl
  have HCL := Lib.hid (And.intro hcl hclm)
  clear hrl hcl hclm OA
  have hl' := HF.out.2
  have hf' := HF.out.1
  have NK := fun w => key_eql HX.out.o.1 key0_ok.1 w
  rw [decide_eq_true HK.out] at NK
  have cpc := M.out.pc
  have cps := M.out.ps HX.out.o.1
  go_upto_region 7 with (first
    | ((with_reducible show wpList _ _ _ ({ dst := some 51, op := Op.load _ _, type := _, pos := _, after := _, guard := _ } :: _) _ _); go_must (refine wpList_load_at rfl 46 (.tmp 50) rfl ⟨gp, 1, none⟩ (bv ((LAcc.mk xc key0 0)).o) _ Try.underlying46 rfl (by rw [size_key, bv_length, HX.out.o.1]) M.out.po ?_ ?_; go_simp))
    | ((with_reducible show wpList _ _ _ ({ dst := some 52, op := Op.build _ _, type := _, pos := _, after := _, guard := _ } :: _) _ _); go_must (refine wpList_plain rfl fun K hK => wp_built _ _ _ rfl (by simp only [List.map_toArray, List.map_nil]; exact built_key14) (hK _ _ ?_))))
  clear cpc cps NK
  clear hl' hf'
  go_upto_region 9 with fail
  have cpc : wx.cell? ⟨gp, 0, none⟩ = some (.int .u64 xc) := M.out.pc
  have E1 : IntKind.u64.wrap (xc - c) = xc - c := by rw [IntKind.wrap_u64]; have := HX.out.c; have := HC.out; have := HF.out; dsimp only at *; omega
  have hss : (s != s) = false := by simp
  have HT := Lib.hid (row_two14 RL.out (show (LAcc.mk (xc - c) key0 0).o.length = 32 from rfl))
  have ne0 := fun w => acc_neq (x := (LAcc.mk (xc - c) key0 0)) (y := (LAcc.mk (xc - c) key0 0)) rfl rfl w
  rw [decide_eq_true rfl] at ne0
  have ne1 := fun w => acc_neq (x := (LAcc.mk c o s)) (y := (LAcc.mk c o s)) HO.out.1 HO.out.1 w
  rw [decide_eq_true rfl] at ne1
  try go_frame
  refine wp_region_quiet_lit (by kernel_rfl) (by kernel_rfl) ?_
  try go_frame
  repeat (first
    | ((with_reducible show wpQuiet _ _ _ _ ({ dst := some 95, op := Op.load _ _, type := _, pos := _, after := _, guard := _ } :: _) _); go_must (refine quiet_load_at (by kernel_rfl) 48 (.tmp 94) rfl ⟨gl, 0, none⟩ (LAcc.mk (xc - c) key0 0).cells _ Try.underlying48 rfl (size_acc rfl) (by rintro _ ⟨nq, rfl⟩; exact HT.out.1) ?_ ?_; go_simp; go_simp))
    | ((with_reducible show wpQuiet _ _ _ _ ({ dst := some 106, op := Op.load _ _, type := _, pos := _, after := _, guard := _ } :: _) _); go_must (refine quiet_load_at (by kernel_rfl) 48 (.tmp 105) rfl ⟨gl, 34, none⟩ (LAcc.mk c o s).cells _ Try.underlying48 rfl (size_acc HO.out.1) (by rintro _ ⟨nq, rfl⟩; exact HT.out.2) ?_ ?_; go_simp; go_simp))
    | ((with_reducible show wpQuiet _ _ _ _ ({ dst := some 108, op := Op.load _ _, type := _, pos := _, after := _, guard := _ } :: _) _); go_must (refine quiet_load_at (by kernel_rfl) 46 (.tmp 5) rfl ⟨go, 0, none⟩ (bv o) _ Try.underlying46 rfl (by rw [size_key, bv_length, HO.out.1]) (by rintro _ ⟨nq, rfl⟩; exact M.out.oall) ?_ ?_; go_simp; go_simp))
    | ((with_reducible show wpQuiet _ _ _ _ ({ dst := some 100, op := Op.build _ _, type := _, pos := _, after := _, guard := _ } :: _) _); go_must (refine quiet_built14 (by kernel_rfl) _ _ ((LAcc.mk (xc - c) key0 0).cells).toArray rfl (by simp only [List.map_toArray, List.map_cons, List.map_nil]; exact built_c14 _) ?_; go_frame))
    | ((with_reducible show wpQuiet _ _ _ _ ({ dst := some 110, op := Op.build _ _, type := _, pos := _, after := _, guard := _ } :: _) _); go_must (refine quiet_built14 (by kernel_rfl) _ _ ((LAcc.mk c o s).cells).toArray rfl (by simp only [List.map_toArray, List.map_cons, List.map_nil]; exact built_acc14 _ _ HO.out.1) ?_; go_frame))
    | go_big_quiet_step (fail))
  refine wpQuiet_nil ?_
  intro nq
  clear cpc E1 hss ne0 ne1 HT
  have M := Lib.hid (M.out.drewN nq)
  have RL := Lib.hid (RL.out.drewN nq)
  generalize wx.drewN nq = wy at *
  have HT := Lib.hid (row_two14 RL.out (show (LAcc.mk (xc - c) key0 0).o.length = 32 from rfl))
  have NB := fun w => acc_eql (x := (LAcc.mk c o s)) (y := blank13) HO.out.1 rfl w
  simp only [HBK.out, decide_false] at NB
  go_upto_region 12 with (first
    | ((with_reducible show wpList _ _ _ ({ dst := some 115, op := Op.load _ _, type := _, pos := _, after := _, guard := _ } :: _) _ _); go_must (refine wpList_load_at rfl 48 (.tmp 114) rfl ⟨gl, 34, none⟩ ((LAcc.mk c o s)).cells _ Try.underlying48 rfl (size_acc HO.out.1) HT.out.2 ?_ ?_; go_simp))
    | ((with_reducible show wpList _ _ _ ({ dst := some 116, op := Op.build _ _, type := _, pos := _, after := _, guard := _ } :: _) _ _); go_must (refine wpList_plain rfl fun K hK => wp_built _ _ _ rfl (by simp only [List.map_toArray, List.map_nil]; exact built_blank) (hK _ _ ?_))))
  clear NB HT
  have HR1 : Hid (do14 [(LAcc.mk (xc - c) key0 0), (LAcc.mk c o s)] (b14 true) [0, 1] (mk14 c s o) = ⟨12, [], 0⟩) := Lib.hid (HD1.out.trans (k1_there (fun h => by have := HBK.out; rw [h] at this; exact cast this rfl)))
  clear HD1
  refine wp_region_held_drew (S := fun V => MK14 w V gp go gi ga bs (LAcc.mk xc key0 0) o c s D cD) (by kernel_rfl) M.out.drew (fun _ => ?_)
  have MD := Lib.hid M.out.drew
  have RL := Lib.hid RL.out.drew
  generalize wy.drew = wd at *
  clear M
  refine takeL (i := 0) (v := ?_) rfl (by kernel_rfl) (by kernel_rfl) (by kernel_rfl) (fun _ _ _ h => h) (Or.inl ⟨by rfl, ?_⟩) MD.out ?_
  rotate_left
  · intro w hw
    try dsimp only at hw
    go_simp
    try with_reducible rfl
  try simp only [Act.put, List.setIfInBounds_toArray, List.set_cons_zero, List.set_cons_succ]
  refine takeL (i := 2) (v := .agg (insC 1 (some ⟨ga, 0, none⟩) 2 2 D 52 cD).toArray) rfl (by kernel_rfl) (by kernel_rfl) (by kernel_rfl) (fun _ _ _ h => h) (Or.inl ⟨by rfl, fun wz hwz => exec_load_at wz 26 (.tmp 10) rfl ⟨gi, 0, none⟩ (insC 1 (some ⟨ga, 0, none⟩) 2 2 D 52 cD) _ Try.underlying26 rfl (size_ins14 _ _ _ _ _ _ _) hwz.iall (by go_simp)⟩) MD.out ?_
  try simp only [Act.put, List.setIfInBounds_toArray, List.set_cons_zero, List.set_cons_succ]
  refine readyL (i := 1) rfl (by kernel_rfl) (by kernel_rfl) fun K hK => ?_
  go_simp
  refine (both14_ _).mono ?_
  rintro e wr ⟨rfl, hrr, hbr⟩
  have RR := Lib.hid hrr
  have MR := Lib.hid (MD.out.below hbr)
  have RL := Lib.hid (RL.out.below hbr RL.out.lt)
  clear hrr hbr
  refine hK.out _ _ MR.out ?_
  clear hK K
  try simp only [Act.put, List.setIfInBounds_toArray, List.set_cons_zero, List.set_cons_succ]
  refine readyL (i := 3) rfl (by kernel_rfl) (by kernel_rfl) fun K hK => ?_
  go_simp
  refine (do_some14 (two_in' RL.out HK1.out RL.out.lt) HCL.out.1 RR.out MR.out.a MR.out.d HML.out (by decide) HMB.out rfl (by decide) (two_bytes (by unfold IsByte; omega) (by unfold IsByte; omega)) HR1.out).mono ?_
  rintro e we ⟨vb, rfl, hvb, hbe⟩
  have ME := Lib.hid (MR.out.below hbe)
  have RL := Lib.hid (RL.out.below hbe RL.out.lt)
  clear hvb
  clear hbe
  refine hK.out _ _ ME.out ?_
  clear hK K
  try simp only []
  refine takeL (i := 4) (v := ?_) rfl (by kernel_rfl) (by kernel_rfl) (by kernel_rfl) (fun _ _ _ h => h) (Or.inl ⟨by rfl, ?_⟩) ME.out ?_
  rotate_left
  · intro w hw
    try dsimp only at hw
    go_simp
    try with_reducible rfl
  try simp only [Act.put, List.setIfInBounds_toArray, List.set_cons_zero, List.set_cons_succ]
  refine takeL (i := 5) (v := ?_) rfl (by kernel_rfl) (by kernel_rfl) (by kernel_rfl) (fun _ _ _ h => h) (Or.inl ⟨by rfl, ?_⟩) ME.out ?_
  rotate_left
  · intro w hw
    try dsimp only at hw
    go_simp
    try with_reducible rfl
  try simp only [Act.put, List.setIfInBounds_toArray, List.set_cons_zero, List.set_cons_succ]
  refine takeL (i := 6) (v := ?_) rfl (by kernel_rfl) (by kernel_rfl) (by kernel_rfl) (fun _ _ _ h => h) (Or.inl ⟨by rfl, ?_⟩) ME.out ?_
  rotate_left
  · intro w hw
    try dsimp only at hw
    go_simp
    try with_reducible rfl
  try simp only [Act.put, List.setIfInBounds_toArray, List.set_cons_zero, List.set_cons_succ]
  refine takeL (i := 7) (v := ?_) rfl (by kernel_rfl) (by kernel_rfl) (by kernel_rfl) (fun _ _ _ h => h) (Or.inl ⟨by rfl, ?_⟩) ME.out ?_
  rotate_left
  · intro w hw
    try dsimp only at hw
    go_simp
    try with_reducible rfl
  try simp only [Act.put, List.setIfInBounds_toArray, List.set_cons_zero, List.set_cons_succ]
  refine takeL (i := 8) (v := ?_) rfl (by kernel_rfl) (by kernel_rfl) (by kernel_rfl) (fun _ _ _ h => h) (Or.inl ⟨by rfl, ?_⟩) ME.out ?_
  rotate_left
  · intro w hw
    try dsimp only at hw
    go_simp
    try with_reducible rfl
  try simp only [Act.put, List.setIfInBounds_toArray, List.set_cons_zero, List.set_cons_succ]
  refine takeL (i := 9) (v := ?_) rfl (by kernel_rfl) (by kernel_rfl) (by kernel_rfl) (fun _ _ _ h => h) (Or.inl ⟨by rfl, ?_⟩) ME.out ?_
  rotate_left
  · intro w hw
    try dsimp only at hw
    go_simp
    try with_reducible rfl
  try simp only [Act.put, List.setIfInBounds_toArray, List.set_cons_zero, List.set_cons_succ]
  refine takeL (i := 10) (v := ?_) rfl (by kernel_rfl) (by kernel_rfl) (by kernel_rfl) (fun _ _ _ h => h) (Or.inl ⟨by rfl, ?_⟩) ME.out ?_
  rotate_left
  · intro w hw
    try dsimp only at hw
    go_simp
    try with_reducible rfl
  try simp only [Act.put, List.setIfInBounds_toArray, List.set_cons_zero, List.set_cons_succ]
  refine wpAnyH_done (by kernel_rfl) ?_ _
  clear MD MR RR
  have RB := Lib.hid (Row.new we 5 (bv [1]))
  have BB := Lib.hid ((Below.refl we.heap.size we).alloc (Nat.le_refl _) (.cells (bv [1]).toArray 5))
  have RB' : Hid (Row (we.alloc (.cells #[.int .u8 1] 5)) we.heap.size 5 (bv [1])) := Lib.hid RB.out
  have BB' : Hid (Below we.heap.size we (we.alloc (.cells #[.int .u8 1] 5))) := Lib.hid BB.out
  clear RB BB
  go_wp2_with fail
  have MA := Lib.hid (ME.out.below BB'.out)
  have RL := Lib.hid (RL.out.below BB'.out RL.out.lt)
  obtain ⟨gb, hgb⟩ : ∃ g, g = we.heap.size := ⟨_, rfl⟩
  rw [← hgb] at RB' ⊢
  clear hgb BB' ME
  generalize we.alloc (.cells #[.int .u8 1] 5) = wa at *
  refine (show Calls Try.prog 22 #[.int .u64 8, .int .i64 4] wa _ from HN8.out wa).mono ?_
  rintro e w8 ⟨v8, rfl, ho8, hb8⟩
  have O8 := Lib.hid ho8
  have A8 := Lib.hid hb8
  clear ho8 hb8 HN8
  go_wp2_with fail
  refine (show Calls Try.prog 22 #[.int .u64 5, .int .i64 8] w8 _ from HN5.out w8).mono ?_
  rintro e w5 ⟨v5, rfl, ho5, hb5⟩
  have O8 := Lib.hid (O8.out.below hb5)
  have A5 := Lib.hid (A8.out.trans (hb5.mono A8.out.size))
  have A5S := Lib.hid A5.out.size
  obtain ⟨D5, c5, rfl⟩ := ho5.form
  have HSE := Lib.hid ho5.sees
  clear ho5 hb5 A8 HN5
  go_upto_region 14 with (first
    | ((with_reducible show wpList _ _ _ ({ dst := some 129, op := _, type := _, pos := _, after := _, guard := _ } :: _) _ _); go_must (refine wpList_addBg (by kernel_rfl) (.tmp 127) (.tmp 128) 24 rfl wa.heap.size Try.underlying24 info_u8 v8 (dig 8 4) ?_ O8.out w5.heap.size D5 (dig 5 8).length c5 (dig 5 8) ?_ HSE.out A5S.out ?_ ?_; go_simp; go_simp; (rw [List.length_append, dig_len, dig_len]; omega); intro v9 w16 ho9 hg9; have ho9m : OwnB w16 wa.heap.size v9 sp14 := ho9; have A16 := Lib.hid (A5.out.trans (hg9.below O8.out A5S.out)); obtain ⟨D9, c9, hv9⟩ := ho9m.form; rw [sp14_len] at hv9; subst hv9; have O9 := Lib.hid ho9m; clear ho9 hg9 ho9m HSE O8 A5))
    | ((with_reducible show wpList _ _ _ ({ dst := some 130, op := Op.build _ _, type := _, pos := _, after := _, guard := _ } :: _) _ _); go_must (refine wpList_plain rfl fun K hK => wp_built _ _ _ rfl (by simp only [List.map_toArray, List.map_cons, List.map_nil]; exact built_ins14 _ _ _ _ _ _ _) (hK _ _ ?_)))
    | ((with_reducible show wpList _ _ _ ({ dst := some 19, op := Op.alloc _, type := _, pos := _, after := _, guard := _ } :: _) _ _); go_must (refine wpList_alloc_zero rfl 26 rfl (insC 0 none 0 0 none 0 0) zero_ins14 ?_))
    | ((with_reducible show wpList _ _ _ ({ dst := none, op := Op.store 26 (.tmp 19) _, type := _, pos := _, after := _, guard := _ } :: _) _ _); go_must (refine wpList_store_new rfl 26 (.tmp 19) (.tmp 130) rfl (insC 1 (some ⟨gb, 0, none⟩) 1 1 D9 12 c9) (size_ins14 _ _ _ _ _ _ _) (ins14_one _ _ _ _ _ _ _) rfl ?_ ?_ ?_; go_simp; go_simp; intro w17 hr17 hb17 hz17)))
  obtain ⟨gv, hgv⟩ : ∃ g, g = w16.heap.size := ⟨_, rfl⟩
  rw [← hgv] at hr17 ⊢
  have ML := Lib.hid ((MA.out.below A16.out).below hb17)
  have RL := Lib.hid ((RL.out.below A16.out RL.out.lt).below hb17 (RL.out.below A16.out RL.out.lt).lt)
  have RB := Lib.hid ((RB'.out.below A16.out RB'.out.lt).below hb17 (RB'.out.below A16.out RB'.out.lt).lt)
  have RV := Lib.hid hr17
  have OV := Lib.hid (O9.out.below hb17)
  generalize wa.heap.size = ba at *
  clear hgv hr17 hb17 hz17 MA RB' A16 O9 A5S
  have HR2 : Hid (do14 [(LAcc.mk (xc - c) key0 0), (LAcc.mk c o s)] (b14 true) [1] sp14 = ⟨12, [], 0⟩) := Lib.hid (do_k2.trans (k2_there HPL.out))
  refine wp_region_held_drew (S := fun V => Row V gv 26 (insC 1 (some ⟨gb, 0, none⟩) 1 1 D9 12 c9)) (by kernel_rfl) RV.out.drew (fun _ => ?_)
  have RV := Lib.hid RV.out.drew
  have MD := Lib.hid ML.out.drew
  have RL := Lib.hid RL.out.drew
  have RB := Lib.hid RB.out.drew
  have OV := Lib.hid (show OwnB w17.drew ba (.slice D9 12 c9) sp14 from OV.out)
  generalize w17.drew = wd2 at *
  clear ML
  refine takeL (i := 0) (v := ?_) rfl (by kernel_rfl) (by kernel_rfl) (by kernel_rfl) (fun _ _ _ h => h) (Or.inl ⟨by rfl, ?_⟩) RV.out ?_
  rotate_left
  · intro w hw
    try dsimp only at hw
    go_simp
    try with_reducible rfl
  try simp only [Act.put, List.setIfInBounds_toArray, List.set_cons_zero, List.set_cons_succ]
  refine takeL (i := 2) (v := .agg (insC 1 (some ⟨gb, 0, none⟩) 1 1 D9 12 c9).toArray) rfl (by kernel_rfl) (by kernel_rfl) (by kernel_rfl) (fun _ _ _ h => h) (Or.inl ⟨by rfl, fun wz hwz => exec_load_at wz 26 (.tmp 19) rfl ⟨gv, 0, none⟩ (insC 1 (some ⟨gb, 0, none⟩) 1 1 D9 12 c9) _ Try.underlying26 rfl (size_ins14 _ _ _ _ _ _ _) (fun j u hu => by rw [addr_row, hwz.cell, Nat.zero_add]; exact hu) (by go_simp)⟩) RV.out ?_
  try simp only [Act.put, List.setIfInBounds_toArray, List.set_cons_zero, List.set_cons_succ]
  refine readyL (i := 1) rfl (by kernel_rfl) (by kernel_rfl) fun K hK => ?_
  go_simp
  refine (both14_ _).mono ?_
  rintro e wq ⟨rfl, hrr, hbr⟩
  have RR := Lib.hid hrr
  have RV := Lib.hid (RV.out.below hbr RV.out.lt)
  have MR := Lib.hid (MD.out.below hbr)
  have RL := Lib.hid (RL.out.below hbr RL.out.lt)
  have RB := Lib.hid (RB.out.below hbr RB.out.lt)
  have OV := Lib.hid (OV.out.below hbr)
  clear hrr hbr MD
  refine hK.out _ _ RV.out ?_
  clear hK K
  try simp only [Act.put, List.setIfInBounds_toArray, List.set_cons_zero, List.set_cons_succ]
  refine readyL (i := 3) rfl (by kernel_rfl) (by kernel_rfl) fun K hK => ?_
  go_simp
  refine (do_some14 (two_in' RL.out HK1.out RL.out.lt) HCL.out.1 RR.out RB.out OV.out sp14_len (by decide) sp14_bytes rfl (by decide) (bytes_one14 (by unfold IsByte; omega)) HR2.out).mono ?_
  rintro e wf ⟨vc, rfl, hvc, hbe⟩
  have MF := Lib.hid (MR.out.below hbe)
  have RV := Lib.hid (RV.out.below hbe RV.out.lt)
  clear hvc hbe MR RL RB OV RR
  refine hK.out _ _ RV.out ?_
  clear hK K
  try simp only []
  refine takeL (i := 4) (v := ?_) rfl (by kernel_rfl) (by kernel_rfl) (by kernel_rfl) (fun _ _ _ h => h) (Or.inl ⟨by rfl, ?_⟩) RV.out ?_
  rotate_left
  · intro w hw
    try dsimp only at hw
    go_simp
    try with_reducible rfl
  try simp only [Act.put, List.setIfInBounds_toArray, List.set_cons_zero, List.set_cons_succ]
  refine takeL (i := 5) (v := ?_) rfl (by kernel_rfl) (by kernel_rfl) (by kernel_rfl) (fun _ _ _ h => h) (Or.inl ⟨by rfl, ?_⟩) RV.out ?_
  rotate_left
  · intro w hw
    try dsimp only at hw
    go_simp
    try with_reducible rfl
  try simp only [Act.put, List.setIfInBounds_toArray, List.set_cons_zero, List.set_cons_succ]
  refine takeL (i := 6) (v := ?_) rfl (by kernel_rfl) (by kernel_rfl) (by kernel_rfl) (fun _ _ _ h => h) (Or.inl ⟨by rfl, ?_⟩) RV.out ?_
  rotate_left
  · intro w hw
    try dsimp only at hw
    go_simp
    try with_reducible rfl
  try simp only [Act.put, List.setIfInBounds_toArray, List.set_cons_zero, List.set_cons_succ]
  refine takeL (i := 7) (v := ?_) rfl (by kernel_rfl) (by kernel_rfl) (by kernel_rfl) (fun _ _ _ h => h) (Or.inl ⟨by rfl, ?_⟩) RV.out ?_
  rotate_left
  · intro w hw
    try dsimp only at hw
    go_simp
    try with_reducible rfl
  try simp only [Act.put, List.setIfInBounds_toArray, List.set_cons_zero, List.set_cons_succ]
  refine takeL (i := 8) (v := ?_) rfl (by kernel_rfl) (by kernel_rfl) (by kernel_rfl) (fun _ _ _ h => h) (Or.inl ⟨by rfl, ?_⟩) RV.out ?_
  rotate_left
  · intro w hw
    try dsimp only at hw
    go_simp
    try with_reducible rfl
  try simp only [Act.put, List.setIfInBounds_toArray, List.set_cons_zero, List.set_cons_succ]
  refine takeL (i := 9) (v := ?_) rfl (by kernel_rfl) (by kernel_rfl) (by kernel_rfl) (fun _ _ _ h => h) (Or.inl ⟨by rfl, ?_⟩) RV.out ?_
  rotate_left
  · intro w hw
    try dsimp only at hw
    go_simp
    try with_reducible rfl
  try simp only [Act.put, List.setIfInBounds_toArray, List.set_cons_zero, List.set_cons_succ]
  refine takeL (i := 10) (v := ?_) rfl (by kernel_rfl) (by kernel_rfl) (by kernel_rfl) (fun _ _ _ h => h) (Or.inl ⟨by rfl, ?_⟩) RV.out ?_
  rotate_left
  · intro w hw
    try dsimp only at hw
    go_simp
    try with_reducible rfl
  try simp only [Act.put, List.setIfInBounds_toArray, List.set_cons_zero, List.set_cons_succ]
  refine wpAnyH_done (by kernel_rfl) ?_ _
  have NO := fun w => key_eql HO.out.1 key0_ok.1 w
  simp only [HKO.out, decide_true] at NO
  have hs0b : (s == 0) = false := HS0.out
  go_upto_region 16 with (first
    | ((with_reducible show wpList _ _ _ ({ dst := some 139, op := Op.load _ _, type := _, pos := _, after := _, guard := _ } :: _) _ _); go_must (refine wpList_load_at rfl 46 (.tmp 5) rfl ⟨go, 0, none⟩ (bv o) _ Try.underlying46 rfl (by rw [size_key, bv_length, HO.out.1]) MF.out.oall ?_ ?_; go_simp))
    | ((with_reducible show wpList _ _ _ ({ dst := some 140, op := Op.build _ _, type := _, pos := _, after := _, guard := _ } :: _) _ _); go_must (refine wpList_plain rfl fun K hK => wp_built _ _ _ rfl (by simp only [List.map_toArray, List.map_nil]; exact built_key14) (hK _ _ ?_))))
  clear NO
  go_wp2_with fail
  refine (lives14_ _).mono ?_
  rintro e wl ⟨rfl, hbl⟩
  have BL := Lib.hid (MF.out.b.trans (hbl.mono MF.out.b.size))
  clear hbl
  go_wp2_with fail
  go_ret
  exact ⟨rfl, BL.out⟩
end Go.Proofs.Ytodoaebpkmhhmaa

/-
  Of part MakeJoin14: what is needed here.
-/
namespace Go.Proofs.Ytodoaebpkmhhmaa
open Go.RowKit
set_option linter.unusedVariables false
set_option maxRecDepth 100000
theorem makeWalk14 (x : LAcc) (o : List Int) (c s : Int) (w : World) (hx : AccOk x) (hc : 0 ≤ c ∧ c < 18446744073709551616) (hs : 0 ≤ s ∧ s < 18446744073709551616) (ho : o.length = 32 ∧ AllBytes o) : Calls Try.prog 6 #[.agg x.cells.toArray, .agg #[.int .u64 c, .int .u64 s], .agg (bv o).toArray] w fun e w' => e = .returned (.bool true) ∧ Below w.heap.size w w' := by
  by_cases hko : x.o = key0
  rotate_left
  · exact make_owner14 x o c s w hx hko hc hs ho
  by_cases hxs : x.s = 0
  rotate_left
  · exact make_space14 x o c s w hx hko hxs hc hs ho
  obtain ⟨xc, xo, xs⟩ := x
  dsimp only at hko hxs
  subst hko
  subst hxs
  by_cases hl : 1048576 < s
  · exact make_limit14 xc o c s w hx hl hc hs ho
  by_cases hf : xc < c
  · exact make_funds14 xc o c s w hx hl hf hc hs ho
  by_cases hnb : LAcc.mk c o s = blank13
  · have h1 : c = 0 := congrArg LAcc.c hnb
    have h2 : o = key0 := congrArg LAcc.o hnb
    have h3 : s = 0 := congrArg LAcc.s hnb
    exact make_blank14 xc o c s w hx hl hf h1 h2 h3 hc hs ho
  by_cases h2 : o = key0
  rotate_left
  · exact make_own14 xc o c s w hx hl hf hnb h2 hc hs ho
  by_cases h3 : s = 0
  · exact make_plain14 xc o c s w hx hl hf hnb h2 h3 hc hs ho
  · exact make_room14 xc o c s w hx hl hf hnb h2 h3 hc hs ho
theorem makeCame14 (x : LAcc) (z o : List Int) (w : World) (hx : AccOk x) (hz : z.length = 2) (hzw : ∀ y ∈ z, (Lit.int .u64 y).wf = true) (ho : o.length = 32) (how : ∀ y ∈ o, (Lit.int .u8 y).wf = true) : Calls Try.prog 6 #[.agg x.cells.toArray, .agg (cv .u64 z).toArray, .agg (cv .u8 o).toArray] w fun e w' => e = .returned (.bool true) ∧ Below w.heap.size w w' := by
  match z, hz, hzw with
  | [c, s], _, h => exact makeWalk14 x o c s w hx (u64_wf13 (h c (by simp))) (u64_wf13 (h s (by simp))) ⟨ho, fun y hy => byte_wf (how y hy)⟩
end Go.Proofs.Ytodoaebpkmhhmaa
