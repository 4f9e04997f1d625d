/-
  Parts joined: Same13 SortLays13 Sort13 List13 TwinHo Lives13 Acts13 Lives7 With8 PlayMem12 PlayMem13.
-/
import Derived.Below
import Derived.Laws.OwnMore
import Derived.Deep.AppendLies
import Derived.Deep.Draws
import Derived.Lib.Hide
import Derived.Laws.MakeOwn
import Derived.Laws.CopyOwn
import Derived.Laws.Rows
import Derived.Laws.BitsAllLaws
import Derived.WalkKit
import Derived.Test.YtpkkgmmcindfgaaRows
import Derived.WalkSpells
import Derived.WalkLawsBesides
import Derived.IntWalk
import Derived.Deep.MidRow
import Derived.Deep.WholeRow
import Derived.Maps.AppendAt
import Derived.OwnWalk
import Derived.Great.BuildSlice
import Derived.Recover
import Derived.Deep.RegionHeld
import Derived.Deep.QuietTactic
import Derived.BigQuiet
import Derived.ChangeKeysEq
import Derived.ProofKit
import Derived.OpenShut
import Derived.ShutString
import Derived.ChangeOld
import Derived.Lib.SmallJoins
import Derived.Deep.Slices
import Derived.Deep.Strs
import Derived.SizedLaws
import Derived.Deep.RegionHeld2
import Derived.Deep.CutBlock
import Derived.Laws.Tables
import Derived.Laws.StructEq
import Derived.Maps.OwnSet
import Derived.DeepKeys4
import Derived.WideKeyArr
import Derived.Maps.RangeWalk
import Derived.Laws.Slices
import Derived.Deep.DeepCutAuto
import Derived.Laws.EntriesVeiled
import Derived.Deep.RegionHeld3
import Derived.WalkMore
import Derived.WideKeyEntry
import Derived.Shelf.SlMaps.Clone
import Derived.Laws.BytesArg
import Derived.Laws.Strings
import Derived.Lib.Strings
import Derived.Great.Walk
import Derived.Laws.Bits64b
import Derived.Laws.Externs
import Derived.Shelf.SlSortCmp.WholeK
import Derived.Shelf.SlSortCmp.NoneTotal
import Derived.Ground.SlsfProg
import Derived.Lib.BytesEntry
import Derived.Laws.Append
import Derived.Laws.AppendOwn
import Derived.LaidMore
import Derived.Test.YtpkkgmmcindfgaaQ1
import Derived.Test.YtpkkgmmcindfgaaQ2
import Derived.Test.YtpkkgmmcindfgaaQ3
/-
  Of part Same13: what is needed here.
-/
namespace Go.Proofs.Ytpkkgmmcindfgaa
open Go.RowKit Go.Maps
set_option linter.unusedVariables false
set_option maxRecDepth 100000
/-- 'v, ok := m[k]' -/
theorem wpList_look13 {ops : Array Oper} {rest : List Oper} {o : Oper} {a : Act} {w : World} {Q : Exit → Act → World → Prop} (hg : o.guard = none) (m x : Operand) (hop : o.op = Op.lookup 53 m x true) (b n : Nat) {D : DataW Unit} {M : List LHold}
    (hm : a.eval m = .map (some b)) (hown : w.ownsMap Try.prog 24 accE b n D) (had : AD D (ks13 M) (getH M)) {k : List Int} (hk : k.length = 32 ∧ AllBytes k) (hx : a.eval x = .agg (bv k).toArray)
    (h : wpList Try.prog ops Q rest (a.put o.dst (.tuple #[.agg (getH M k).cells.toArray, .bool (decide (k ∈ ks13 M))])) w) : wpList Try.prog ops Q (o :: rest) a w := by
  refine wpList_lookup_own_ok w hg m x 53 hop 24 35 key_law Try.underlying53 accE (zero_acc_run w) (accD blank13) [] (accE_mk blank_ok) b n D hm hown _ (KL k) hx (KL_is hk.1 hk.2) fun v ps hv => ?_
  rw [had.at_key hk] at hv
  obtain ⟨y, rfl, hy, e⟩ := accE_inv hv
  injection e with e _
  have : y = getH M k := by
    by_cases hmm : k ∈ ks13 M
    · rw [if_pos hmm] at e
      exact (accD_inj e).symm
    · rw [if_neg hmm] at e
      rw [getH_in.2 hmm]
      exact (accD_inj e).symm
  rw [this, had.has_key hk]
  exact h
theorem same_all {L M : List LHold} (hs : Sto L) (ht : Sto M) (hl : L.length = M.length) {vs : List (List Int)} (hp : vs.Perm (ks13 L)) (h : ∀ k ∈ vs, k ∈ ks13 M ∧ getH L k = getH M k) : L = M := by
  have h1 : ∀ k ∈ ks13 L, k ∈ ks13 M ∧ getH L k = getH M k := fun k hk => h k (hp.symm.subset hk)
  refine hs.ext ht fun k => ?_
  by_cases hk : k ∈ ks13 L
  · exact (h1 k hk).2
  · have hk' : k ∉ ks13 M := fun hm => by
      have := nodup_le13 (l := k :: ks13 L) (m := ks13 M) (List.nodup_cons.2 ⟨hk, ks13_nodup hs.rise⟩) fun x hx => by
        rcases List.mem_cons.1 hx with rfl | hx
        · exact hm
        · exact (h1 x hx).1
      rw [List.length_cons, ks13_len, ks13_len] at this
      omega
    rw [getH_in.2 hk, getH_in.2 hk']
set_option maxHeartbeats 8000000 in
theorem equal13 (mb mb' : Nat) (L M : List LHold) (w : World) {D E : DataW Unit} (ho : w.ownsMap Try.prog 24 accE mb L.length D) (hd : AD D (ks13 L) (getH L)) (ho' : w.ownsMap Try.prog 24 accE mb' M.length E) (he : AD E (ks13 M) (getH M)) (hs : Sto L) (ht : Sto M) (hL : L.length ≤ 900) (hM : M.length ≤ 900) :
    Calls Try.prog 27 #[.map (some mb), .map (some mb')] w fun e w' => e = .returned (.bool (decide (L = M))) ∧ Below w.heap.size w w' := by
  have l1 := fun ty => ho.len Try.underlying53 ty
  have l2 := fun ty => ho'.len Try.underlying53 ty
  rw [hd.size, ks13_len] at l1
  rw [he.size, ks13_len] at l2
  have HOW := Lib.hid ho
  have HOE := Lib.hid ho'
  have HAD := Lib.hid hd
  have HAE := Lib.hid he
  have HST := Lib.hid hs
  have HSE := Lib.hid ht
  clear ho ho' hd he hs ht
  obtain ⟨n, hn⟩ : ∃ n, n = L.length := ⟨_, rfl⟩
  obtain ⟨m, hm⟩ : ∃ m, m = M.length := ⟨_, rfl⟩
  have HN := Lib.hid hn
  have HMM := Lib.hid hm
  rw [← hn] at l1 hL
  rw [← hm] at l2 hM
  clear hn hm
  by_cases hnm : n = m
  · have HNM : Hid (L.length = M.length) := Lib.hid (by rw [← HN.out, ← HMM.out]; exact hnm)
    subst hnm
    go_enter Try.func27, Try.ntmps27
    go_wp2_with (at_range; go_must (refine wpList_range_own _ rfl (.tmp 14) 53 rfl 24 35 key_law Try.underlying53 accE mb L.length D rfl HOW.out ?_; intro w4 hrg hg hsz))
    try go_frame
    have B4 : Hid (Below w.heap.size w w4) := Lib.hid ((Below.refl _ _).grown hg (Nat.le_refl _) (by intro k hk; cases hk))
    have R4 := Lib.hid (RV13.start hrg HAD.out)
    obtain ⟨rr, hrr⟩ : ∃ r, r = w.heap.size := ⟨_, rfl⟩
    have HRR : Hid (w.heap.size ≤ rr) := Lib.hid (Nat.le_of_eq hrr.symm)
    rw [← hrr] at R4 ⊢
    clear hrr hrg hg hsz HOW l1 l2
    go_loopw [16] (fun _ wx => ∃ vs, RV13 wx mb rr L D vs ∧ Hid (∀ k ∈ vs, k ∈ ks13 M ∧ getH L k = getH M k) ∧ Below w.heap.size w wx) (fun _ wx => wx.rangeLeft mb rr)
    case atStart => exact ⟨[], R4.out, Lib.hid (by simp), B4.out⟩
    case round =>
      clear B4 R4
      obtain ⟨vs, hrv, HV, hb⟩ := hrel
      have RV := Lib.hid hrv
      have HB := Lib.hid hb
      clear hrv hb
      go_wp2_with (at_next; go_must (refine wpList_next13 rfl (.tmp 15) rfl rfl HST.out RV.out HAD.out ?_ ?_))
      · intro hp
        have E1 : Hid (decide (L = M) = true) := Lib.hid (decide_eq_true (same_all HST.out HSE.out HNM.out hp HV.out))
        clear hp
        go_wp2_with fail
        go_ret
        exact ⟨by rw [E1.out]; rfl, HB.out⟩
      · intro k1 w5 hk1 hnv hrv1 hlt hg1 hs1 hen
        have RV5 := Lib.hid hrv1
        have HLT := Lib.hid hlt
        have B5 := Lib.hid (HB.out.grown hg1 HB.out.size (fun j hj => by cases hj; exact HRR.out))
        have HEY := Lib.hid (HSE.out.get_ok k1)
        have HIN := Lib.hid hk1
        have HOK := Lib.hid (HST.out.get_ok k1)
        have HKO := Lib.hid (HAD.out.ok k1 hk1).1
        have HSK : Hid ((Try.prog.info? 24).map (·.size) = some (bv k1).length) := Lib.hid (by rw [size_key, bv_length, HKO.out.1])
        have HSF := Lib.hid (size_acc HOK.out.o.1)
        have RA := Lib.hid ((Row.new w5 24 (bv (List.replicate 32 0))).alloc (.cells blank13.cells.toArray 35))
        have RB := Lib.hid (Row.new' (w5.alloc (.cells (bv (List.replicate 32 0)).toArray 24)) 35 blank13.cells (g := w5.heap.size + 1) (by simp))
        have BW := Lib.hid (((Below.refl w5.heap.size w5).alloc (Nat.le_refl _) (.cells (bv (List.replicate 32 0)).toArray 24)).alloc (by simp) (.cells blank13.cells.toArray 35))
        have HLZ : Hid ((bv (List.replicate 32 0)).length = (bv k1).length) := Lib.hid (by rw [bv_length, bv_length, HKO.out.1]; rfl)
        have HLA : Hid (blank13.cells.length = (getH L k1).cells.length) := Lib.hid (by rw [acc_len HOK.out.o.1]; rfl)
        clear hk1 hnv hrv1 hlt hg1 hs1
        go_upto_region 6 with (first
        | ((with_reducible show wpList _ _ _ ({ dst := some 5, op := Op.alloc _, type := _, pos := _, after := _, guard := _ } :: _) _ _); go_must (refine wpList_alloc_zero rfl 24 rfl (bv (List.replicate 32 0)) zero_key ?_))
        | ((with_reducible show wpList _ _ _ ({ dst := some 6, op := Op.alloc _, type := _, pos := _, after := _, guard := _ } :: _) _ _); go_must (refine wpList_alloc_zero rfl 35 rfl blank13.cells zero_acc ?_))
        | ((with_reducible show wpList _ _ _ ({ dst := none, op := Op.store 24 _ _, type := _, pos := _, after := _, guard := _ } :: _) _ _); go_must (refine wpList_store_whole rfl 24 (.tmp 5) (.tmp 19) rfl w5.heap.size (bv (List.replicate 32 0)) (bv k1) RA.out HSK.out HLZ.out (bv_one _) ?_ ?_ ?_; go_simp; go_simp; intro w6 hr ht; have RA6 := Lib.hid hr; have RB6 := Lib.hid (ht.row RB.out (by omega)); have BW6 := Lib.hid (BW.out.trans (ht.below (Nat.le_refl _))); clear hr ht))
        | ((with_reducible show wpList _ _ _ ({ dst := none, op := Op.store 35 _ _, type := _, pos := _, after := _, guard := _ } :: _) _ _); go_must (refine wpList_store_whole rfl 35 (.tmp 6) (.tmp 20) rfl (w5.heap.size + 1) blank13.cells (getH L k1).cells RB6.out HSF.out HLA.out (acc_one _) ?_ ?_ ?_; go_simp; go_simp; intro w7 hr ht; have RB7 := Lib.hid hr; have RA7 := Lib.hid (ht.row RA6.out (by omega)); have BW7 := Lib.hid (BW6.out.trans (ht.below (by omega))); clear hr ht)))
        clear hen
        try go_frame
        have e8 : (w5.alloc (.cells (bv (List.replicate 32 0)).toArray 24)).heap.size = w5.heap.size + 1 := by simp
        try rw [e8]
        clear e8
        obtain ⟨ga, hga⟩ : ∃ g, g = w5.heap.size := ⟨_, rfl⟩
        obtain ⟨gb, hgb⟩ : ∃ g, g = w5.heap.size + 1 := ⟨_, rfl⟩
        rw [← hgb] at RB7 ⊢
        rw [← hga] at RA7 ⊢
        clear hgb hga
        have HO7 : Hid (w7.ownsMap Try.prog 24 accE mb' M.length E) := Lib.hid (HOE.out.kept (grown_none (B5.out.trans (BW7.out.mono B5.out.size))) (by simp))
        have HLE : Hid (blank13.cells.toArray.size = (getH M k1).cells.length) := Lib.hid (by rw [List.size_toArray, acc_len HEY.out.o.1]; rfl)
        have HSE2 := Lib.hid (size_acc HEY.out.o.1)
        go_upto_region 7 with (first
          | ((with_reducible show wpList _ _ _ ({ dst := some 23, op := Op.load _ _, type := _, pos := _, after := _, guard := _ } :: _) _ _); go_must (refine wpList_load_whole rfl 24 (.tmp 5) rfl ga 24 (bv k1) _ Try.underlying24 rfl HSK.out RA7.out ?_ ?_; go_simp))
          | (at_lookup; go_must (refine wpList_look13 rfl (.tmp 22) (.tmp 23) rfl mb' M.length ?_ HO7.out HAE.out HKO.out ?_ ?_; go_simp; go_simp))
          | ((with_reducible show wpList _ _ _ ({ dst := some 7, op := Op.alloc _, type := _, pos := _, after := _, guard := _ } :: _) _ _); go_must (refine wpList_alloc_zero rfl 35 rfl blank13.cells zero_acc ?_))
          | ((with_reducible show wpList _ _ _ ({ dst := none, op := Op.store 35 _ _, type := _, pos := _, after := _, guard := _ } :: _) _ _); go_must (refine wpList_store_new rfl 35 (.tmp 7) (.tmp 25) rfl (getH M k1).cells HSE2.out (acc_one _) HLE.out ?_ ?_ ?_; go_simp; go_simp; intro w8 hr8 hb8 hz8)))
        have RC8 := Lib.hid hr8
        have RB8 := Lib.hid (RB7.out.below hb8 RB7.out.lt)
        have BW8 := Lib.hid (BW7.out.trans (hb8.mono BW7.out.size))
        have B8 := Lib.hid (B5.out.trans (BW8.out.mono B5.out.size))
        have K8 := RV5.out.kept (grown_none BW8.out) (by simp) (by simp)
        have RV8 := Lib.hid K8.1
        have HLT8 := Lib.hid K8.2
        clear hr8 hb8 hz8 K8
        obtain ⟨gc, hgc⟩ : ∃ g, g = w7.heap.size := ⟨_, rfl⟩
        rw [← hgc] at RC8 ⊢
        clear hgc RA7 RB7 BW7 HO7 B5 RV5
        have HNEQ := Lib.hid (fun w => acc_neq (x := getH L k1) (y := getH M k1) HOK.out.o.1 HEY.out.o.1 w)
        by_cases hm : k1 ∈ ks13 M
        · rw [decide_eq_true hm]
          by_cases hy : getH L k1 = getH M k1
          · rw [decide_eq_true hy] at HNEQ
            have HV2 : Hid (∀ k ∈ k1 :: vs, k ∈ ks13 M ∧ getH L k = getH M k) := Lib.hid fun k hk => by
              rcases List.mem_cons.1 hk with rfl | hk
              · exact ⟨hm, hy⟩
              · exact HV.out k hk
            clear hm hy
            have NEQ := HNEQ.out
            clear HNEQ
            go_wp2_with (first
              | ((with_reducible show wpList _ _ _ ({ dst := some 30, op := Op.load _ _, type := _, pos := _, after := _, guard := _ } :: _) _ _); go_must (refine wpList_load_atg (by kernel_rfl) 35 (.tmp 6) rfl ⟨gb, 0, none⟩ (getH L k1).cells _ Try.underlying35 rfl HSF.out (fun j u hu => by rw [addr_row, Nat.zero_add]; exact (RB8.out.cell j).trans hu) ?_ ?_; go_simp))
              | ((with_reducible show wpList _ _ _ ({ dst := some 31, op := Op.load _ _, type := _, pos := _, after := _, guard := _ } :: _) _ _); go_must (refine wpList_load_atg (by kernel_rfl) 35 (.tmp 7) rfl ⟨gc, 0, none⟩ (getH M k1).cells _ Try.underlying35 rfl HSE2.out (fun j u hu => by rw [addr_row, Nat.zero_add]; exact (RC8.out.cell j).trans hu) ?_ ?_; go_simp)))
            go_roundw
            case rel => exact ⟨k1 :: vs, RV8.out, HV2, B8.out⟩
            case measure =>
              show World.rangeLeft _ mb rr < World.rangeLeft _ mb rr
              rw [HLT8.out]
              exact HLT.out
          · rw [decide_eq_false hy] at HNEQ
            have E1 : Hid (decide (L = M) = false) := Lib.hid (decide_eq_false fun e => hy (by rw [e]))
            clear hm hy
            have NEQ := HNEQ.out
            clear HNEQ
            go_wp2_with (first
              | ((with_reducible show wpList _ _ _ ({ dst := some 30, op := Op.load _ _, type := _, pos := _, after := _, guard := _ } :: _) _ _); go_must (refine wpList_load_atg (by kernel_rfl) 35 (.tmp 6) rfl ⟨gb, 0, none⟩ (getH L k1).cells _ Try.underlying35 rfl HSF.out (fun j u hu => by rw [addr_row, Nat.zero_add]; exact (RB8.out.cell j).trans hu) ?_ ?_; go_simp))
              | ((with_reducible show wpList _ _ _ ({ dst := some 31, op := Op.load _ _, type := _, pos := _, after := _, guard := _ } :: _) _ _); go_must (refine wpList_load_atg (by kernel_rfl) 35 (.tmp 7) rfl ⟨gc, 0, none⟩ (getH M k1).cells _ Try.underlying35 rfl HSE2.out (fun j u hu => by rw [addr_row, Nat.zero_add]; exact (RC8.out.cell j).trans hu) ?_ ?_; go_simp)))
            go_ret
            exact ⟨by rw [E1.out]; rfl, B8.out⟩
        · rw [decide_eq_false hm]
          have E1 : Hid (decide (L = M) = false) := Lib.hid (decide_eq_false fun e => hm (by rw [← e]; exact HIN.out))
          clear hm HNEQ
          go_wp2_with fail
          go_ret
          exact ⟨by rw [E1.out]; rfl, B8.out⟩
  · have hne : ¬ (n : Int) = (m : Int) := fun e => hnm (by exact_mod_cast e)
    have E1 : Hid (decide (L = M) = false) := Lib.hid (decide_eq_false fun e => hnm (by rw [HN.out, HMM.out, e]))
    clear hnm
    go_enter Try.func27, Try.ntmps27
    go_wp2_with fail
    go_ret
    exact ⟨by rw [E1.out]; rfl, Below.refl _ _⟩
set_option maxHeartbeats 1000000 in
theorem same13 (sb mb sb' mb' : Nat) (L M : List LHold) (w : World) (h : StIn w sb mb L) (h' : StIn w sb' mb' M) (hL : L.length ≤ 900) (hM : M.length ≤ 900) : Calls Try.prog 16 #[.pointer (some ⟨sb, 0, none⟩), .pointer (some ⟨sb', 0, none⟩)] w fun e w' => e = .returned (.bool (decide (L = M))) ∧ Below w.heap.size w w' := by
  have HT := Lib.hid (there13 sb mb L w h)
  have HU := Lib.hid (there13 sb' mb' M w h')
  have c0 : w.cell? ⟨sb, 0, none⟩ = some (.map (some mb)) := h.row.cell 0
  have c1 : w.cell? ⟨sb', 0, none⟩ = some (.map (some mb')) := h'.row.cell 0
  obtain ⟨D, ho, hd⟩ := h.map
  obtain ⟨E, ho', he⟩ := h'.map
  have HE : Hid (∀ V, Below w.heap.size w V → Calls Try.prog 27 #[.map (some mb), .map (some mb')] V fun e w' => e = .returned (.bool (decide (L = M))) ∧ Below w.heap.size w w') := Lib.hid fun V hV =>
    (equal13 mb mb' L M V (ho.kept (grown_none hV) (by simp)) hd (ho'.kept (grown_none hV) (by simp)) he h.sto h'.sto hL hM).mono fun e w' ⟨h1, h2⟩ => ⟨h1, hV.trans (h2.mono hV.size)⟩
  have HC : Hid (∀ V, Below w.heap.size w V → V.cell? ⟨sb, 0, none⟩ = some (.map (some mb)) ∧ V.cell? ⟨sb', 0, none⟩ = some (.map (some mb'))) := Lib.hid fun V hV => ⟨(hV.cell h.lt.1).trans c0, (hV.cell h'.lt.1).trans c1⟩
  clear c0 c1
  clear h h' ho ho' hd he
  generalize decide (L = M) = r at *
  go_enter Try.func16, Try.ntmps16
  go_wp2_with fail
  refine HT.out.mono ?_
  rintro e w' ⟨rfl, rfl⟩
  go_wp2_with fail
  refine HU.out.mono ?_
  rintro e w' ⟨rfl, rfl⟩
  go_wp2_with fail
  refine wp_region_held_drew (S := (fun V => Below w.heap.size w V)) (by kernel_rfl) (Below.refl w.heap.size w).drew (fun _ => ?_)
  refine takeL (i := 0) (v := ?_) rfl (by kernel_rfl) (by kernel_rfl) (by kernel_rfl) (fun _ _ _ h => h) (Or.inl ⟨by rfl, ?_⟩) (Below.refl w.heap.size w).drew ?_
  rotate_left
  · intro w hw
    try dsimp only at hw
    go_simp
    try with_reducible rfl
  try simp only [Act.put, List.setIfInBounds_toArray, List.set_cons_zero, List.set_cons_succ]
  refine takeL (i := 1) (v := ?_) rfl (by kernel_rfl) (by kernel_rfl) (by kernel_rfl) (fun _ _ _ h => h) (Or.inl ⟨by rfl, ?_⟩) (Below.refl w.heap.size w).drew ?_
  rotate_left
  · intro w hw
    try dsimp only at hw
    go_simp
    try with_reducible rfl
  try simp only [Act.put, List.setIfInBounds_toArray, List.set_cons_zero, List.set_cons_succ]
  refine takeL (i := 2) (v := ?_) rfl (by kernel_rfl) (by kernel_rfl) (by kernel_rfl) (fun _ _ _ h => h) (Or.inl ⟨by rfl, ?_⟩) (Below.refl w.heap.size w).drew ?_
  rotate_left
  · intro w hw
    try dsimp only at hw
    go_simp
    try with_reducible rfl
  try simp only [Act.put, List.setIfInBounds_toArray, List.set_cons_zero, List.set_cons_succ]
  refine takeL (i := 3) (v := ?_) rfl (by kernel_rfl) (by kernel_rfl) (by kernel_rfl) (fun _ _ _ h => h) (Or.inl ⟨by rfl, ?_⟩) (Below.refl w.heap.size w).drew ?_
  rotate_left
  · intro w hw
    try dsimp only at hw
    have hc := (HC.out _ hw).1
    go_simp
    try with_reducible rfl
  try simp only [Act.put, List.setIfInBounds_toArray, List.set_cons_zero, List.set_cons_succ]
  refine takeL (i := 4) (v := ?_) rfl (by kernel_rfl) (by kernel_rfl) (by kernel_rfl) (fun _ _ _ h => h) (Or.inl ⟨by rfl, ?_⟩) (Below.refl w.heap.size w).drew ?_
  rotate_left
  · intro w hw
    try dsimp only at hw
    go_simp
    try with_reducible rfl
  try simp only [Act.put, List.setIfInBounds_toArray, List.set_cons_zero, List.set_cons_succ]
  refine takeL (i := 5) (v := ?_) rfl (by kernel_rfl) (by kernel_rfl) (by kernel_rfl) (fun _ _ _ h => h) (Or.inl ⟨by rfl, ?_⟩) (Below.refl w.heap.size w).drew ?_
  rotate_left
  · intro w hw
    try dsimp only at hw
    go_simp
    try with_reducible rfl
  try simp only [Act.put, List.setIfInBounds_toArray, List.set_cons_zero, List.set_cons_succ]
  refine takeL (i := 6) (v := ?_) rfl (by kernel_rfl) (by kernel_rfl) (by kernel_rfl) (fun _ _ _ h => h) (Or.inl ⟨by rfl, ?_⟩) (Below.refl w.heap.size w).drew ?_
  rotate_left
  · intro w hw
    try dsimp only at hw
    go_simp
    try with_reducible rfl
  try simp only [Act.put, List.setIfInBounds_toArray, List.set_cons_zero, List.set_cons_succ]
  refine takeL (i := 7) (v := ?_) rfl (by kernel_rfl) (by kernel_rfl) (by kernel_rfl) (fun _ _ _ h => h) (Or.inl ⟨by rfl, ?_⟩) (Below.refl w.heap.size w).drew ?_
  rotate_left
  · intro w hw
    try dsimp only at hw
    have hc := (HC.out _ hw).2
    go_simp
    try with_reducible rfl
  try simp only [Act.put, List.setIfInBounds_toArray, List.set_cons_zero, List.set_cons_succ]
  refine readyL (i := 8) rfl (by kernel_rfl) (by kernel_rfl) fun K hK => ?_
  go_simp
  refine (HE.out _ (Below.refl w.heap.size w).drew).mono ?_
  rintro e w1 ⟨rfl, hb⟩
  have B1 := Lib.hid hb
  clear hb
  refine hK.out _ _ B1.out ?_
  clear hK K
  try simp only [Act.put, List.setIfInBounds_toArray, List.set_cons_zero, List.set_cons_succ]
  refine takeL (i := 9) (v := ?_) rfl (by kernel_rfl) (by kernel_rfl) (by kernel_rfl) (fun _ _ _ h => h) (Or.inl ⟨by rfl, ?_⟩) B1.out ?_
  rotate_left
  · intro w hw
    try dsimp only at hw
    go_simp
    try with_reducible rfl
  try simp only [Act.put, List.setIfInBounds_toArray, List.set_cons_zero, List.set_cons_succ]
  refine wpAnyH_done (by kernel_rfl) ?_ _
  go_wp2_with fail
  go_ret
  exact ⟨rfl, B1.out⟩
end Go.Proofs.Ytpkkgmmcindfgaa

/-
  Of part SortLays13: what is needed here.
-/
namespace Go.Proofs.Ytpkkgmmcindfgaa
open Go.Shelf
set_option maxRecDepth 100000
def sortRen : Go.Shelf.Ren := ⟨fun | 6 => 28 | 15 => 38 | 14 => 37 | 28 => 48 | 29 => 49 | 20 => 40 | 21 => 41 | 22 => 42 | 23 => 43 | 24 => 44 | 25 => 45 | 26 => 46 | 27 => 47 | 46 => 50 | 47 => 51 | 48 => 52 | 49 => 53 | 50 => 54 | 57 => 55 | n => n, fun | 22 => 29 | 24 => 60 | 25 => 70 | 3 => 3 | 39 => 85 | 0 => 0 | 53 => 95 | 55 => 33 | 4 => 4 | 46 => 88 | 45 => 87 | 50 => 92 | 5 => 5 | 9 => 9 | 66 => 97 | 70 => 101 | 76 => 103 | 77 => 104 | n => n, fun | n => n⟩
theorem sortHo : Go.Proofs.SlLaysF0.n6 Try.prog sortRen := {
  mixed := by kernel_rfl,
  f6 := ⟨Try.f28.name, by decide, Try.func28.trans (congrArg some (by kernel_rfl))⟩,
  f14 := ⟨Try.f37.name, by decide, Try.func37.trans (congrArg some (by kernel_rfl))⟩,
  f15 := Try.func38.trans (congrArg some (by kernel_rfl)),
  f20 := ⟨Try.f40.name, by decide, Try.func40.trans (congrArg some (by kernel_rfl))⟩,
  f21 := ⟨Try.f41.name, by decide, Try.func41.trans (congrArg some (by kernel_rfl))⟩,
  f22 := ⟨Try.f42.name, by decide, Try.func42.trans (congrArg some (by kernel_rfl))⟩,
  f23 := ⟨Try.f43.name, by decide, Try.func43.trans (congrArg some (by kernel_rfl))⟩,
  f24 := ⟨Try.f44.name, by decide, Try.func44.trans (congrArg some (by kernel_rfl))⟩,
  f25 := ⟨Try.f45.name, by decide, Try.func45.trans (congrArg some (by kernel_rfl))⟩,
  f26 := ⟨Try.f46.name, by decide, Try.func46.trans (congrArg some (by kernel_rfl))⟩,
  f27 := ⟨Try.f47.name, by decide, Try.func47.trans (congrArg some (by kernel_rfl))⟩,
  f28 := Try.func48.trans (congrArg some (by kernel_rfl)),
  f29 := Try.func49.trans (congrArg some (by kernel_rfl)),
  f46 := ⟨Try.f50.name, by decide, Try.func50.trans (congrArg some (by kernel_rfl))⟩,
  f47 := Try.func51.trans (congrArg some (by kernel_rfl)),
  f48 := Try.func52.trans (congrArg some (by kernel_rfl)),
  f49 := ⟨Try.f53.name, by decide, Try.func53.trans (congrArg some (by kernel_rfl))⟩,
  f50 := ⟨Try.f54.name, by decide, Try.func54.trans (congrArg some (by kernel_rfl))⟩,
  f57 := ⟨Try.f55.name, by decide, Try.func55.trans (congrArg some (by kernel_rfl))⟩,
  t0 := Try.underlying0,
  a0 := Try.isAgg0,
  z0 := Try.sizeOf0,
  v0 := Try.zeroValue0,
  t3 := Try.underlying3,
  a3 := Try.isAgg3,
  z3 := Try.sizeOf3,
  v3 := Try.zeroValue3,
  t4 := Try.underlying4,
  a4 := Try.isAgg4,
  z4 := Try.sizeOf4,
  v4 := Try.zeroValue4,
  t5 := Try.underlying5,
  a5 := Try.isAgg5,
  z5 := Try.sizeOf5,
  v5 := Try.zeroValue5,
  t9 := Try.underlying9,
  a9 := Try.isAgg9,
  z9 := Try.sizeOf9,
  v9 := Try.zeroValue9,
  t22 := Try.underlying29,
  a22 := Try.isAgg29,
  z22 := Try.sizeOf29,
  v22 := Try.zeroValue29,
  t25 := Try.underlying70,
  a25 := Try.isAgg70,
  z25 := Try.sizeOf70,
  v25 := Try.zeroValue70,
  t39 := Try.underlying85,
  a39 := Try.isAgg85,
  z39 := Try.sizeOf85,
  v39 := Try.zeroValue85,
  t45 := Try.underlying87,
  a45 := Try.isAgg87,
  z45 := Try.sizeOf87,
  v45 := Try.zeroValue87,
  t46 := Try.underlying88,
  a46 := Try.isAgg88,
  z46 := Try.sizeOf88,
  v46 := Try.zeroValue88,
  t50 := Try.underlying92,
  a50 := Try.isAgg92,
  z50 := Try.sizeOf92,
  v50 := Try.zeroValue92,
  t53 := Try.underlying95,
  a53 := Try.isAgg95,
  z53 := Try.sizeOf95,
  v53 := Try.zeroValue95,
  t55 := Try.underlying33,
  a55 := Try.isAgg33,
  z55 := Try.sizeOf33,
  v55 := Try.zeroValue33,
  t66 := Try.underlying97,
  a66 := Try.isAgg97,
  z66 := Try.sizeOf97,
  v66 := Try.zeroValue97,
  t70 := Try.underlying101,
  a70 := Try.isAgg101,
  z70 := Try.sizeOf101,
  v70 := Try.zeroValue101,
  t76 := Try.underlying103,
  a76 := Try.isAgg103,
  z76 := Try.sizeOf103,
  v76 := Try.zeroValue103,
  t77 := Try.underlying104,
  a77 := Try.isAgg104,
  z77 := Try.sizeOf104,
  v77 := Try.zeroValue104 }
end Go.Proofs.Ytpkkgmmcindfgaa

/-
  Of part Sort13: what is needed here.
-/
namespace Go.Proofs.Ytpkkgmmcindfgaa
open Go.RowKit Go.Maps
set_option linter.unusedVariables false
set_option maxRecDepth 100000
/-- a holding that is one -/
structure HO where
  v : LHold
  ok : HoldOk v
instance inhabitedHO : Inhabited HO := ⟨⟨⟨List.replicate 32 0, blank13⟩, ⟨⟨rfl, fun z hz => by rw [List.eq_of_mem_replicate hz]; constructor <;> decide⟩, blank_ok⟩⟩⟩
/-- its cells -/
def encHO (x : HO) : List Value := x.v.cells
def cfHO (x y : HO) : Int := Lib.compareBytes (Lib.bytesOf x.v.k) (Lib.bytesOf y.v.k)
theorem u8_lt {a b : Int} (ha : IsByte a) (hb : IsByte b) : (a.toNat.toUInt8 < b.toNat.toUInt8) ↔ a < b := by
  have := ofNat_lt ha hb
  rw [decide_eq_decide] at this
  exact this
theorem compare_is : ∀ {x y : List Int}, AllBytes x → AllBytes y → decide (Lib.compareBytes (Lib.bytesOf x) (Lib.bytesOf y) < 0) = kless x y
  | [], [], _, _ => rfl
  | _ :: _, [], _, _ => by simp [Lib.bytesOf, Lib.compareBytes, kless]
  | [], _ :: _, _, _ => by simp [Lib.bytesOf, Lib.compareBytes, kless]
  | a :: x, b :: y, hx, hy => by
    have h1 := u8_lt (hx a (by simp)) (hy b (by simp))
    have h2 := u8_lt (hy b (by simp)) (hx a (by simp))
    have ih := compare_is (x := x) (y := y) (fun z hz => hx z (List.mem_cons_of_mem _ hz)) (fun z hz => hy z (List.mem_cons_of_mem _ hz))
    show decide (Lib.compareBytes (a.toNat.toUInt8 :: Lib.bytesOf x) (b.toNat.toUInt8 :: Lib.bytesOf y) < 0) = _
    unfold Lib.compareBytes kless
    by_cases e1 : a < b
    · rw [if_pos (h1.2 e1), decide_eq_true e1]
      rfl
    · rw [if_neg (fun h => e1 (h1.1 h)), decide_eq_false e1]
      by_cases e2 : b < a
      · rw [if_pos (h2.2 e2), decide_eq_false (show ¬ a = b by omega)]
        rfl
      · rw [if_neg (fun h => e2 (h2.1 h)), decide_eq_true (show a = b by omega), ih]
        rfl
theorem lt_HO (x y : HO) : ltOf cfHO x y = kless x.v.k y.v.k := compare_is x.ok.k.2 y.ok.k.2
theorem swo_HO : Go.Sort.SWO (ltOf cfHO) := by
  refine ⟨fun x => ?_, fun x y z h1 h2 => ?_, fun x y z h1 h2 => ?_⟩
  · rw [lt_HO, kless_irrefl]
  · rw [lt_HO] at *
    exact kless_trans _ _ _ h1 h2
  · rw [lt_HO] at *
    cases h3 : kless x.v.k z.v.k with
    | false => rfl
    | true =>
      cases h4 : kless y.v.k x.v.k with
      | true => rw [kless_trans _ _ _ h4 h3] at h2; cases h2
      | false =>
        rw [kless_total _ _ h1 h4] at h3
        rw [h3] at h2
        cases h2
theorem flat_get {α : Type} {k : Nat} (hk : 0 < k) : ∀ (l : List (List α)), (∀ c ∈ l, c.length = k) → ∀ t, l.flatten[t]? = (l[t / k]?).bind (·[t % k]?)
  | [], _, t => by simp
  | x :: r, h, t => by
    have hx := h x List.mem_cons_self
    rw [List.flatten_cons]
    by_cases ht : t < k
    · rw [List.getElem?_append_left (by omega), Nat.div_eq_of_lt ht, Nat.mod_eq_of_lt ht]
      rfl
    · rw [List.getElem?_append_right (by omega), flat_get hk r (fun c hc => h c (List.mem_cons_of_mem _ hc)), hx]
      obtain ⟨u, rfl⟩ : ∃ u, t = u + k := ⟨t - k, by omega⟩
      rw [Nat.add_sub_cancel, Nat.add_div_right _ hk, Nat.add_mod_right]
      rfl
theorem flatK_is (d : Array HO) : (Go.Sort.flatK encHO 66 d).toList = holdsC (d.toList.map HO.v) := by
  have hlen : ∀ c ∈ (d.toList.map HO.v).map LHold.cells, c.length = 66 := fun c hc => by
    rw [List.map_map] at hc
    obtain ⟨x, _, rfl⟩ := List.mem_map.1 hc
    exact hold_len x.ok.k.1 x.ok.a.o.1
  apply List.ext_getElem?
  intro t
  unfold holdsC
  rw [flat_get (by omega) _ hlen]
  unfold Go.Sort.flatK
  rw [Array.toList_map, Array.toList_range, List.getElem?_map]
  by_cases ht : t < d.size * 66
  · have hj : t / 66 < d.size := by omega
    have hm : t % 66 < 66 := Nat.mod_lt _ (by omega)
    rw [List.getElem?_range ht]
    simp only [Option.map_some, List.map_map, List.getElem?_map, Array.getElem?_toList]
    rw [Array.getElem?_eq_getElem hj, getElem!_pos d _ hj]
    have hl : (encHO d[t / 66]).length = 66 := hold_len d[t / 66].ok.k.1 d[t / 66].ok.a.o.1
    rw [getElem!_pos (encHO d[t / 66]) _ (by omega)]
    show some _ = (encHO d[t / 66])[t % 66]?
    rw [List.getElem?_eq_getElem (by omega)]
  · rw [List.getElem?_eq_none (by simpa using ht), List.getElem?_eq_none (by simp; omega)]
    rfl
theorem flatK_len (d : Array HO) : (holdsC (d.toList.map HO.v)).length = d.size * 66 := by
  rw [← flatK_is, Array.length_toList, Go.Sort.size_flatK]
theorem holdsK_row {w : World} {g t : Nat} {d : Array HO} {rest : List Value} (hr : Row w g t (holdsC (d.toList.map HO.v) ++ rest)) : Go.Sort.HoldsK encHO 66 w g 0 d := fun j hj => by
  rw [Nat.zero_add]
  refine ⟨?_, hr.frozen j⟩
  rw [hr.cell, List.getElem?_append_left (by rw [← flatK_is, Array.length_toList]; exact hj), ← flatK_is, Array.getElem?_toList, Array.getElem?_eq_getElem hj, getElem!_pos (Go.Sort.flatK encHO 66 d) j hj]
  rfl
/-- the row behind the sort -/
theorem row_sorted {w : World} {g t m : Nat} {os : Array Obj} {xs rest : List Value} {d : Array HO} (hr : Row w g t (xs ++ rest)) (hl : xs.length = d.size * 66) :
    Row (sortWorldK encHO 66 w g 0 m d os) g t (holdsC (d.toList.map HO.v) ++ rest) ∧ w.grownBy (sortWorldK encHO 66 w g 0 m d os) (some g) := by
  have hlt := hr.lt
  have hsz : (Go.Sort.putRowK encHO 66 (Go.Sort.ahead w m) g 0 d).heap.size = w.heap.size := by
    show (w.heap.modify g _).size = _
    simp
  have hat : ∀ k, k ≠ g → (Go.Sort.putRowK encHO 66 (Go.Sort.ahead w m) g 0 d).heap[k]? = w.heap[k]? := fun k hk => by
    show (w.heap.modify g _)[k]? = _
    rw [Array.getElem?_modify, if_neg (fun e => hk e.symm)]
  constructor
  · refine ⟨?_⟩
    show (Go.Sort.grow _ os).heap[g]? = _
    rw [Go.Sort.heap_grow_old _ _ (by rw [hsz]; exact hlt)]
    show (w.heap.modify g _)[g]? = _
    rw [Array.getElem?_modify, if_pos rfl, hr.is]
    show some (Obj.cells (Go.Sort.putCells id 0 (Go.Sort.flatK encHO 66 d) (xs ++ rest).toArray) t (0, 0)) = _
    congr 2
    apply Array.ext'
    show (Array.mapIdx _ _).toList = _
    rw [Array.toList_mapIdx]
    apply List.ext_getElem?
    intro j
    have hf := flatK_len d
    rw [List.getElem?_mapIdx]
    show Option.map _ ((xs ++ rest)[j]?) = (holdsC (d.toList.map HO.v) ++ rest)[j]?
    by_cases hj : j < d.size * 66
    · rw [List.getElem?_append_left (by omega), List.getElem?_append_left (by omega), List.getElem?_eq_getElem (by omega), ← flatK_is, Array.getElem?_toList, Array.getElem?_eq_getElem (by rw [Go.Sort.size_flatK]; exact hj)]
      simp only [Option.map_some, Go.Sort.size_flatK, Nat.zero_le, true_and, Nat.zero_add, hj, if_true, Nat.sub_zero, id]
      rw [getElem!_pos (Go.Sort.flatK encHO 66 d) j (by rw [Go.Sort.size_flatK]; exact hj)]
    · rw [List.getElem?_append_right (by omega), List.getElem?_append_right (by omega), hl, hf]
      cases rest[j - d.size * 66]? with
      | none => rfl
      | some u => simp only [Option.map_some, Go.Sort.size_flatK, Nat.zero_le, true_and, Nat.zero_add, hj, if_false]
  · refine ⟨rfl, rfl, rfl, ?_, fun k hk hne => ?_⟩
    · show w.heap.size ≤ (Go.Sort.grow _ os).heap.size
      rw [Go.Sort.size_grow, hsz]
      omega
    · show (Go.Sort.grow _ os).heap[k]? = _
      rw [Go.Sort.heap_grow_old _ _ (by rw [hsz]; exact hk)]
      exact hat k fun e => hne (by rw [e])
/-- the comparison of two slices of bytes -/
theorem run_compareS {P : Program} (w : World) (a b : Addr) (x y : List Int) (c c' : Nat) (hx : ∀ j u, (bv x)[j]? = some u → w.cell? (a.add j) = some u) (hy : ∀ j u, (bv y)[j]? = some u → w.cell? (b.add j) = some u) :
    (Extern.BytealgCompare.compare #[.slice (some a) x.length c, .slice (some b) y.length c']).run P w = .ok (.int .i64 (Lib.compareBytes (Lib.bytesOf x) (Lib.bytesOf y))) w := by
  have hb : ∀ (l : List Int) (j : Nat) (z : Int), l[j]? = some z → (bv l)[j]? = some (.int .u8 z) := fun l j z h => by
    unfold bv cv
    rw [List.getElem?_map, h]
    rfl
  have h1 := Lib.run_loadBytesX (P := P) w x a .empty (fun j z h => hx j _ (hb x j z h))
  have h2 := Lib.run_loadBytesX (P := P) w y b .empty (fun j z h => hy j _ (hb y j z h))
  have e : ∀ l : List UInt8, (⟨ByteArray.empty.data ++ l.toArray⟩ : ByteArray) = ⟨l.toArray⟩ := fun l => by
    apply ByteArray.ext
    show (#[] : Array UInt8) ++ l.toArray = l.toArray
    simp
  rw [e] at h1 h2
  change Sem.run P (do pure (goInt (Extern.BytealgCompare.cmp (← Extern.Bytes.bytesOf (.slice (some a) x.length c)) (← Extern.Bytes.bytesOf (.slice (some b) y.length c'))))) w = _
  simp only [Extern.Bytes.bytesOf, Sem.run_bind, Sem.run_pure, h1, h2, Result.andThen]
  rw [Lib.cmp_eq]
  rfl
set_option maxHeartbeats 400000 in
theorem bcompare13 (W : World) (a b : Addr) (x y : List Int) (lx : x.length = 32) (ly : y.length = 32) (hx : ∀ j u, (bv x)[j]? = some u → W.cell? (a.add j) = some u) (hy : ∀ j u, (bv y)[j]? = some u → W.cell? (b.add j) = some u) :
    Calls Try.prog 30 #[.slice (some a) 32 32, .slice (some b) 32 32] W fun e w' => e = .returned (.int .i64 (Lib.compareBytes (Lib.bytesOf x) (Lib.bytesOf y))) ∧ w' = W := by
  have s1 : (callFunc 39 #[.slice (some a) 32 32, .slice (some b) 32 32]).run Try.prog W = .ok (.value (.int .i64 (Lib.compareBytes (Lib.bytesOf x) (Lib.bytesOf y)))) W := by
    have h := run_compareS (P := Try.prog) W a b x y 32 32 hx hy
    rw [lx, ly] at h
    rw [run_callFunc_extern Try.func39 (by kernel_rfl) (by kernel_rfl) (by kernel_rfl) (e := Extern.BytealgCompare.compare) (by kernel_rfl), h]
    rfl
  clear hx hy
  generalize Lib.compareBytes (Lib.bytesOf x) (Lib.bytesOf y) = r at *
  go_enter Try.func30, Try.ntmps30
  go_wp2_with fail
  go_ret
  exact ⟨rfl, rfl⟩
set_option maxHeartbeats 1000000 in
/-- List's comparison -/
theorem closure13 (x y : HO) (W : World) : Calls Try.prog 29 (#[.agg (encHO x).toArray, .agg (encHO y).toArray] ++ #[]) W fun e w' => e = .returned (.int .i64 (cfHO x y)) ∧ ∃ q os', w' = Go.Sort.grow (W.drewN q) os' := by
  have R1 := (Row.new W 60 x.v.cells).alloc (.cells y.v.cells.toArray 60)
  have R2 := Row.new' (W.alloc (.cells x.v.cells.toArray 60)) 60 y.v.cells (g := W.heap.size + 1) (by simp)
  have HC : Hid (∀ n, Calls Try.prog 30 #[.slice (some ⟨W.heap.size, 0, none⟩) 32 32, .slice (some ⟨W.heap.size + 1, 0, none⟩) 32 32] (((W.alloc (.cells x.v.cells.toArray 60)).alloc (.cells y.v.cells.toArray 60)).drewN n) fun e w' => e = .returned (.int .i64 (cfHO x y)) ∧ w' = ((W.alloc (.cells x.v.cells.toArray 60)).alloc (.cells y.v.cells.toArray 60)).drewN n) := Lib.hid fun n =>
    bcompare13 _ _ _ x.v.k y.v.k x.ok.k.1 y.ok.k.1 (fun j u hu => by rw [addr_row, Nat.zero_add]; exact ((R1.drewN n).cell j).trans (hold_k hu)) (fun j u hu => by rw [addr_row, Nat.zero_add]; exact ((R2.drewN n).cell j).trans (hold_k hu))
  change Calls _ _ #[.agg x.v.cells.toArray, .agg y.v.cells.toArray] _ _
  have HG : Hid (∀ n, ((W.alloc (.cells x.v.cells.toArray 60)).alloc (.cells y.v.cells.toArray 60)).drewN n = Go.Sort.grow (W.drewN n) #[.cells x.v.cells.toArray 60, .cells y.v.cells.toArray 60]) := Lib.hid fun n => by
    rw [Go.Sort.alloc_eq_grow, Go.Sort.alloc_eq_grow, Go.Sort.grow_grow]
    rfl
  clear R1 R2
  generalize cfHO x y = r at *
  go_enter Try.func29, Try.ntmps29
  go_upto_region 1 with fail
  have e8 : (W.alloc (.cells x.v.cells.toArray 60)).heap.size = W.heap.size + 1 := by simp
  try rw [e8]
  clear e8
  generalize (W.alloc (.cells x.v.cells.toArray 60)).alloc (.cells y.v.cells.toArray 60) = V at *
  go_quiet (first | (go_at_call 30; with_reducible refine Calls.quiet_of_same (HC.out _)))
  go_wp2_with fail
  go_ret
  exact ⟨rfl, _, _, HG.out _⟩
theorem cmpLays13 (blk off size : Nat) (w : World) : CmpLays Try.prog 29 #[] encHO 66 cfHO blk off size w := fun _ _ _ _ x y => closure13 x y _
/-- the sorted list is the store's -/
theorem sorted_is {L : List LHold} (hs : Sto L) {d d' : Array HO} (hd : (d.toList.map HO.v).Perm L) (hp : Go.Sort.PermIn 0 d.size d d') (ho : Go.Sort.SortedIn (ltOf cfHO) 0 d.size d') : d'.toList.map HO.v = L := by
  obtain ⟨hsz, _, hpp⟩ := hp
  have h1 : d'.toList.Perm d.toList := by
    have e1 : (d'.extract 0 d.size).toList = d'.toList := by rw [← hsz]; simp
    have e2 : (d.extract 0 d.size).toList = d.toList := by simp
    rwa [e1, e2] at hpp
  have h2 : (d'.toList.map HO.v).Perm L := (h1.map _).trans hd
  have hnd : (d'.toList.map fun x : HO => x.v.k).Nodup := by
    have h3 := h2.map LHold.k
    rw [List.map_map] at h3
    exact (h3.nodup_iff).2 (ks13_nodup hs.rise)
  refine rise_ext (List.pairwise_map.2 ?_) hs.rise fun x => h2.mem_iff
  rw [List.pairwise_iff_getElem]
  intro i j hi hj hij
  have hi' : i < d'.size := by simpa using hi
  have hj' : j < d'.size := by simpa using hj
  have h4 := ho i j (Nat.zero_le _) hij (by rw [← hsz]; exact hj')
  rw [lt_HO, getElem!_pos d' i hi', getElem!_pos d' j hj'] at h4
  show kless d'.toList[i].v.k d'.toList[j].v.k = true
  rw [Array.getElem_toList, Array.getElem_toList]
  cases h5 : kless d'[i].v.k d'[j].v.k with
  | true => rfl
  | false =>
    have h6 := kless_total _ _ h5 h4
    have h7 := List.pairwise_iff_getElem.1 (List.nodup_iff_pairwise_ne.1 hnd) i j (by simpa using hi') (by simpa using hj') hij
    exact absurd (by simpa using h6) h7
end Go.Proofs.Ytpkkgmmcindfgaa

/-
  Of part List13: what is needed here.
-/
namespace Go.Proofs.Ytpkkgmmcindfgaa
open Go.RowKit Go.Maps
set_option linter.unusedVariables false
set_option maxRecDepth 100000
/-- a list of the call's own, whose room may be less than its block's -/
structure OL13 (w : World) (base : Nat) (v : Value) (L : List LHold) : Prop where
  is : ∃ A c c', v = .slice A L.length c ∧ L.length ≤ c ∧ c ≤ c' ∧ w.ownsRow base 60 66 (.slice A L.length c') L.length (holdsC L)
theorem own_blk (A : Option Addr) (n c c' : Nat) : (Value.slice A n c).ownBlock = (Value.slice A n c').ownBlock := by cases A <;> rfl
section
variable {w w' : World} {base c : Nat} {v : Value} {A : Option Addr} {L : List LHold}
theorem OL13.keep (h : OL13 w base v L) (hk : ∀ g, v.ownBlock = some g → w'.heap[g]? = w.heap[g]?) : OL13 w' base v L := by
  obtain ⟨A, c, c', rfl, h1, h2, h3⟩ := h.is
  exact ⟨A, c, c', rfl, h1, h2, own_keep h3 fun g hg => hk g ((own_blk A _ c c').trans hg)⟩
theorem OL13.lt (h : OL13 w base v L) : ∀ g, v.ownBlock = some g → base ≤ g ∧ g < w.heap.size := fun g hg => by
  obtain ⟨A, c, c', rfl, h1, h2, h3⟩ := h.is
  exact h3.lt g ((own_blk A _ c' c).trans hg)
theorem OL13.below (h : OL13 w base v L) (hb : Below w.heap.size w w') : OL13 w' base v L := h.keep fun g hg => hb.block g (h.lt g hg).2
theorem OL13.cells (h : OL13 w base v L) : ∀ g, v.ownBlock = some g → ∃ cur, w.heap[g]? = some (.cells cur 60 (0, 0)) := fun g hg => by
  obtain ⟨A, c, c', rfl, h1, h2, h3⟩ := h.is
  exact own_is h3 ((own_blk A _ c' c).trans hg)
theorem OL13.holds (h : OL13 w base (.slice A L.length c) L) (ho : ∀ x ∈ L, HoldOk x) : HoldsIn w w.heap.size A L.length L := by
  obtain ⟨A', c1, c', e, h1, h2, h3⟩ := h.is
  injection e with e _ _
  subst e
  exact holds_own h3 ho
theorem StIn.ol_ne {sb mb : Nat} {M : List LHold} (h : StIn w sb mb M) (ho : OL13 w base v L) : ∀ g, v.ownBlock = some g → g ≠ mb := fun g hg => by
  obtain ⟨A, c, c', rfl, h1, h2, h3⟩ := ho.is
  exact h.own_ne h3 g ((own_blk A _ c' c).trans hg)
end
theorem PO13.below {W V V' : World} {v : Value} {X : List LHold} (h : PO13 W V v X) (hb : Below V.heap.size V V') : PO13 W V' v X := ⟨h.b.trans (hb.mono h.b.size), own_below h.own hb⟩
theorem PO13.grown {W V V' : World} {v : Value} {X : List LHold} {r : Nat} (h : PO13 W V v X) (hg : V.grownBy V' (some r)) (hr : W.heap.size ≤ r) (hn : ∀ g, v.ownBlock = some g → some r ≠ some g) : PO13 W V' v X :=
  ⟨h.b.grown hg h.b.size (fun k hk => by cases hk; exact hr), own_keep h.own fun g hgv => hg.block g (h.own.lt g hgv).2 fun e => hn g hgv e.symm⟩
theorem ne_own13 {v : Value} {m : Nat} (h : ∀ g, v.ownBlock = some g → some m ≠ some g) : some m ≠ v.ownBlock := fun e => h m e.symm rfl
set_option maxHeartbeats 1000000 in
theorem sort13 (base : Nat) (v : Value) (X L : List LHold) (V : World) (ho : V.ownsRow base 60 66 v X.length (holdsC X)) (hp : X.Perm L) (hs : Sto L) (hL : L.length ≤ 900) :
    Calls Try.prog 28 #[v, .func (.func 29) #[] #[]] V fun e w' => e = .returned (.tuple #[]) ∧ w'.ownsRow base 60 66 v L.length (holdsC L) ∧ V.grownBy w' v.ownBlock := by
  have hlen := hp.length_eq
  have hnil : X.length = 0 → X = L := fun h => by
    have h1 : X = [] := List.eq_nil_of_length_eq_zero h
    have h2 : L = [] := List.eq_nil_of_length_eq_zero (by omega)
    rw [h1, h2]
  rcases ho.2 with ⟨rfl, h0⟩ | ⟨g, cap, cur, rfl, hg, hh, h1, h2, h3, h4⟩
  · have e := hnil h0
    subst e
    refine (AnyF.slices_SortFunc_none (P := Try.prog) (ρ := sortRen) { sortHo with } none 0 (.func (.func 29) #[] #[]) V).mono ?_
    rintro e w' ⟨rfl, rfl⟩
    exact ⟨rfl, ho, World.grownBy.refl _ _⟩
  · by_cases h0 : X.length = 0
    · have e := hnil h0
      subst e
      rw [h0] at ho ⊢
      refine (AnyF.slices_SortFunc_none (P := Try.prog) (ρ := sortRen) { sortHo with } (some ⟨g, 0, none⟩) cap (.func (.func 29) #[] #[]) V).mono ?_
      rintro e w' ⟨rfl, rfl⟩
      exact ⟨rfl, ho, World.grownBy.refl _ _⟩
    · have hok : ∀ x ∈ X, HoldOk x := fun x hx => hs.ok x (hp.subset hx)
      obtain ⟨d, hd⟩ : ∃ d : Array HO, d.toList.map HO.v = X := ⟨(X.pmap HO.mk hok).toArray, by
        rw [List.toList_toArray, List.map_pmap]
        simp⟩
      have hds : d.size = X.length := by rw [← hd, List.length_map, Array.length_toList]
      have hrow : Row V g 60 (holdsC (d.toList.map HO.v) ++ cur.toList.drop (X.length * 66)) := ⟨by rw [hd, ← h4, List.take_append_drop, hh]⟩
      have eg : ∀ args w, (callFunc 29 args).run Try.prog w = .ok (.enter 29 args) w := enters_of Try.func29 (by kernel_rfl) rfl
      have hc := AnyQ.slices_SortFunc (P := Try.prog) (ρ := sortRen) sortHo 66 Try.isAgg60 Try.sizeOf60 encHO (fun x => hold_len x.ok.k.1 x.ok.a.o.1) (fun x u hu => hold_one x.v u hu) cfHO swo_HO 29 #[] g 0 cap d V eg (cmpLays13 g 0 d.size V) (holdsK_row hrow) hrow.lt (by omega)
      rw [hds] at hc
      refine hc.mono ?_
      rintro e w' ⟨rfl, d', m, os, hpm, hso, rfl⟩
      rw [← hds] at hpm hso
      have hL' := sorted_is hs (d := d) (d' := d') (by rw [hd]; exact hp) hpm hso
      have hsz : d'.size = d.size := hpm.1
      have hr := row_sorted (m := m) (os := os) (d := d') hrow (by rw [flatK_len, hsz])
      rw [hL'] at hr
      have hll : (holdsC L).length = L.length * 66 := holdsC_len hs.ok
      refine ⟨rfl, ?_, hr.2⟩
      rw [hlen]
      refine own_of_row hr.1 hll ?_ (by omega) h2 hg
      have hcl : cur.toList.length = cap * 66 := by rw [Array.length_toList, h3]
      have : X.length * 66 ≤ cap * 66 := Nat.mul_le_mul_right _ h1
      rw [List.length_append, hll, List.length_drop, hcl, ← hlen]
      omega
set_option maxHeartbeats 400000 in
theorem clip13 (A : Option Addr) (n c : Nat) (w : World) (hnc : n ≤ c) (hc : c ≤ maxLen) :
    Calls Try.prog 31 #[.slice A n c] w fun e w' => e = .returned (.slice A n n) ∧ w = w' := by
  unfold maxLen at hc
  go_enter Try.func31, Try.ntmps31
  go_wp2
  go_ret
  exact ⟨rfl, rfl⟩
def hold13 (L : List LHold) (k : List Int) : LHold := ⟨k, getH L k⟩
theorem holds_perm {L : List LHold} (hs : Sto L) {vs : List (List Int)} (hp : vs.Perm (ks13 L)) : ((vs.map (hold13 L)).reverse).Perm L := by
  have h1 : (vs.map (hold13 L)).Perm ((ks13 L).map (hold13 L)) := hp.map _
  have h2 : (ks13 L).map (hold13 L) = L := by
    unfold ks13
    rw [List.map_map]
    conv => rhs; rw [← List.map_id L]
    refine List.map_congr_left fun x hx => ?_
    show LHold.mk x.k (getH L x.k) = x
    rw [getH_at hs.rise hx]
  rw [h2] at h1
  exact (List.reverse_perm _).trans h1
def ListDone13 (w : World) (L : List LHold) (e : Ending) (w' : World) : Prop := ∃ A c, e = .returned (.slice A L.length c) ∧ OL13 w' w.heap.size (.slice A L.length c) L ∧ Below w.heap.size w w'
set_option maxHeartbeats 8000000 in
theorem list13 (sb mb : Nat) (L : List LHold) (w : World) (h : StIn w sb mb L) (hL : L.length ≤ 900) : Calls Try.prog 18 #[.pointer (some ⟨sb, 0, none⟩)] w (ListDone13 w L) := by
  have HT := Lib.hid (there13 sb mb L w h)
  have c0 : w.cell? ⟨sb, 0, none⟩ = some (.map (some mb)) := h.row.cell 0
  obtain ⟨D, ho, had⟩ := h.map
  have HAD := Lib.hid had
  have HOW := Lib.hid ho
  have HST := Lib.hid h.sto
  clear h ho had
  go_enter Try.func18, Try.ntmps18
  go_wp2_with fail
  refine HT.out.mono ?_
  rintro e w' ⟨rfl, rfl⟩
  clear HT
  go_wp2_with (at_range; go_must (refine wpList_range_own _ rfl (.tmp 12) 53 rfl 24 35 key_law Try.underlying53 accE mb L.length D rfl HOW.out ?_; intro w4 hrg hg hsz))
  try go_frame
  have P4 : Hid (PO13 w w4 (.slice none 0 0) []) := Lib.hid ⟨(Below.refl _ _).grown hg (Nat.le_refl _) (by intro k hk; cases hk), World.ownsRow_nil _ _ _ _⟩
  have R4 := Lib.hid (RV13.start hrg HAD.out)
  obtain ⟨rr, hrr⟩ : ∃ r, r = w.heap.size := ⟨_, rfl⟩
  have HRR : Hid (w.heap.size ≤ rr) := Lib.hid (Nat.le_of_eq hrr.symm)
  rw [← hrr] at R4 ⊢
  clear hrr hrg hg hsz HOW c0
  go_loopw [3] (fun s3 wx => ∃ vs X, RV13 wx mb rr L D vs ∧ PO13 w wx s3 X ∧ X = (vs.map (hold13 L)).reverse) (fun _ wx => wx.rangeLeft mb rr)
  case atStart => exact ⟨[], [], R4.out, P4.out, rfl⟩
  case round =>
    clear P4 R4
    obtain ⟨vs, X, hrv, hpo, hX⟩ := hrel
    have RV := Lib.hid hrv
    have PO := Lib.hid hpo
    have HX := Lib.hid hX
    have HVL : Hid (vs.length ≤ 900) := Lib.hid (Nat.le_trans hrv.len hL)
    have HXL : Hid (X.length ≤ 900) := Lib.hid (by rw [hX, List.length_reverse, List.length_map]; exact HVL.out)
    clear hrv hpo hX
    go_wp2_with (at_next; go_must (refine wpList_next13 rfl (.tmp 13) rfl rfl HST.out RV.out HAD.out ?_ ?_))
    · intro hp
      have HSO := Lib.hid (sort13 w.heap.size u3 X L wr PO.out.own (by rw [HX.out]; exact holds_perm HST.out hp) HST.out hL)
      clear hp
      go_wp2_with fail
      refine HSO.out.mono ?_
      rintro e w5 ⟨rfl, ho, hg⟩
      have B5 := Lib.hid (PO.out.b.grown hg PO.out.b.size (fun k hk => (PO.out.own.lt k hk).1))
      obtain ⟨A, c, rfl, _, hnc, hcm, _⟩ := own_form2 ho
      have HOL : Hid (OL13 w5 w.heap.size (.slice A L.length L.length) L) := Lib.hid ⟨A, _, c, rfl, Nat.le_refl _, hnc, ho⟩
      have HCP := Lib.hid (clip13 A L.length c w5 hnc hcm)
      clear ho hg hnc hcm HSO
      go_wp2_with fail
      refine HCP.out.mono ?_
      rintro e w6 ⟨rfl, rfl⟩
      go_wp2_with fail
      go_ret
      exact ⟨A, _, rfl, HOL.out, B5.out⟩
    · intro k1 w5 hk1 hnv hrv1 hlt hg1 hs1 hen
      have RV5 := Lib.hid hrv1
      have HLT := Lib.hid hlt
      have PO5 := Lib.hid (PO.out.grown hg1 HRR.out fun g hgv => (RV.out.own_ne PO.out.own g hgv).2)
      have HOK := Lib.hid (HST.out.get_ok k1)
      have HKO := Lib.hid (HAD.out.ok k1 hk1).1
      have HSK : Hid ((Try.prog.info? 24).map (·.size) = some (bv k1).length) := Lib.hid (by rw [size_key, bv_length, HKO.out.1])
      have HSF := Lib.hid (size_acc HOK.out.o.1)
      have RA := Lib.hid ((Row.new w5 24 (bv (List.replicate 32 0))).alloc (.cells blank13.cells.toArray 35))
      have RB := Lib.hid (Row.new' (w5.alloc (.cells (bv (List.replicate 32 0)).toArray 24)) 35 blank13.cells (g := w5.heap.size + 1) (by simp))
      have BW := Lib.hid (((Below.refl w5.heap.size w5).alloc (Nat.le_refl _) (.cells (bv (List.replicate 32 0)).toArray 24)).alloc (by simp) (.cells blank13.cells.toArray 35))
      have HLZ : Hid ((bv (List.replicate 32 0)).length = (bv k1).length) := Lib.hid (by rw [bv_length, bv_length, HKO.out.1]; rfl)
      have HLA : Hid (blank13.cells.length = (getH L k1).cells.length) := Lib.hid (by rw [acc_len HOK.out.o.1]; rfl)
      have HBUI : Hid (Try.prog.built 60 [(0, .agg (bv k1).toArray), (1, .agg (getH L k1).cells.toArray)] = some (hold13 L k1).cells.toArray) := Lib.hid (built_hold (bv k1) (getH L k1).cells (by rw [bv_length, HKO.out.1]) (acc_len HOK.out.o.1))
      have HCK : Hid ((hold13 L k1).cells.length = 66) := Lib.hid (hold_len HKO.out.1 HOK.out.o.1)
      have HX2 : Hid (X ++ [hold13 L k1] = ((k1 :: vs).map (hold13 L)).reverse) := Lib.hid (by rw [List.map_cons, List.reverse_cons, HX.out])
      clear hk1 hnv hrv1 hlt hg1 hs1
      go_upto_region 7 with (first
        | ((with_reducible show wpList _ _ _ ({ dst := some 4, op := Op.alloc _, type := _, pos := _, after := _, guard := _ } :: _) _ _); go_must (refine wpList_alloc_zero rfl 24 rfl (bv (List.replicate 32 0)) zero_key ?_))
        | ((with_reducible show wpList _ _ _ ({ dst := some 5, op := Op.alloc _, type := _, pos := _, after := _, guard := _ } :: _) _ _); go_must (refine wpList_alloc_zero rfl 35 rfl blank13.cells zero_acc ?_))
        | ((with_reducible show wpList _ _ _ ({ dst := none, op := Op.store 24 _ _, type := _, pos := _, after := _, guard := _ } :: _) _ _); go_must (refine wpList_store_whole rfl 24 (.tmp 4) (.tmp 17) rfl w5.heap.size (bv (List.replicate 32 0)) (bv k1) RA.out HSK.out HLZ.out (bv_one _) ?_ ?_ ?_; go_simp; go_simp; intro w6 hr ht; have RA6 := Lib.hid hr; have RB6 := Lib.hid (ht.row RB.out (by omega)); have BW6 := Lib.hid (BW.out.trans (ht.below (Nat.le_refl _))); clear hr ht))
        | ((with_reducible show wpList _ _ _ ({ dst := none, op := Op.store 35 _ _, type := _, pos := _, after := _, guard := _ } :: _) _ _); go_must (refine wpList_store_whole rfl 35 (.tmp 5) (.tmp 18) rfl (w5.heap.size + 1) blank13.cells (getH L k1).cells RB6.out HSF.out HLA.out (acc_one _) ?_ ?_ ?_; go_simp; go_simp; intro w7 hr ht; have RB7 := Lib.hid hr; have RA7 := Lib.hid (ht.row RA6.out (by omega)); have BW7 := Lib.hid (BW6.out.trans (ht.below (by omega))); clear hr ht)))
      clear hen
      try go_frame
      have e8 : (w5.alloc (.cells (bv (List.replicate 32 0)).toArray 24)).heap.size = w5.heap.size + 1 := by simp
      try rw [e8]
      clear e8
      obtain ⟨ga, hga⟩ : ∃ g, g = w5.heap.size := ⟨_, rfl⟩
      obtain ⟨gb, hgb⟩ : ∃ g, g = w5.heap.size + 1 := ⟨_, rfl⟩
      rw [← hgb] at RB7 ⊢
      rw [← hga] at RA7 ⊢
      clear hgb hga
      have PO7 := Lib.hid (PO5.out.below BW7.out)
      have K7 := RV5.out.kept (grown_none BW7.out) (by simp) (by simp)
      have RV7 := Lib.hid K7.1
      have HLT7 := Lib.hid K7.2
      clear K7
      have hxl := HXL.out
      go_wp2_with (first
        | ((with_reducible show wpList _ _ _ ({ dst := some 20, op := Op.load _ _, type := _, pos := _, after := _, guard := _ } :: _) _ _); go_must (refine wpList_load_whole rfl 24 (.tmp 4) rfl ga 24 (bv k1) _ Try.underlying24 rfl HSK.out RA7.out ?_ ?_; go_simp))
        | ((with_reducible show wpList _ _ _ ({ dst := some 21, op := Op.load _ _, type := _, pos := _, after := _, guard := _ } :: _) _ _); go_must (refine wpList_load_whole rfl 35 (.tmp 5) rfl gb 35 (getH L k1).cells _ Try.underlying35 rfl HSF.out RB7.out ?_ ?_; go_simp))
        | ((with_reducible show wpList _ _ _ ({ dst := some 22, op := Op.build _ _, type := _, pos := _, after := _, guard := _ } :: _) _ _); go_must (refine wpList_plain rfl fun K hK => wp_built _ _ _ rfl (by simp only [List.map_toArray, List.map_cons, List.map_nil]; exact HBUI.out) (hK _ _ ?_)))
        | ((with_reducible show wpList _ _ _ ({ dst := some 23, op := Op.buildSlice _ _ _, type := _, pos := _, after := _, guard := _ } :: _) _ _); go_must (refine wpList_buildOne rfl 29 60 (.tmp 22) rfl (hold13 L k1).cells _ 66 80 Try.underlying29 infoHo zszHo (by omega) (by omega) HCK.out ?_ ?_; go_simp))
        | ((with_reducible show wpList _ _ _ ({ dst := some 24, op := Op.call _, type := _, pos := _, after := _, guard := _ } :: _) _ _); go_must (refine wpList_appendN rfl (.tmp 19) (.tmp 23) 29 60 _ 66 80 rfl Try.underlying29 infoHo zszHo (by omega) u3 X.length (holdsC X) w.heap.size _ _ 1 1 (hold13 L k1).cells ?_ (PO7.out.lit _) ?_ (lit_sees _ (hold13 L k1) HCK.out) (hold_one _) (by unfold maxLen; omega) (by omega) (Nat.le_trans PO7.out.b.size (by simp)) ?_; go_simp; go_simp; intro v8 w8 ho8 hg8)))
      have PO8 := Lib.hid (PO7.out.add ho8 hg8)
      have K8 := RV7.out.kept (World.grownBy_alloc w7 (.cells (hold13 L k1).cells.toArray 60) none) (by simp) (by simp)
      have K9 := K8.1.kept hg8.grown (ne_own13 fun g hgv => (RV7.out.own_ne PO7.out.own g hgv).1) (ne_own13 fun g hgv => (RV7.out.own_ne PO7.out.own g hgv).2)
      have RV9 := Lib.hid K9.1
      have HLT9 := Lib.hid (K9.2.trans K8.2)
      clear ho8 hg8 K8 K9
      go_roundw
      case rel => exact ⟨k1 :: vs, _, RV9.out, PO8.out, HX2.out⟩
      case measure =>
        show World.rangeLeft _ mb rr < World.rangeLeft _ mb rr
        rw [HLT9.out, HLT7.out]
        exact HLT.out
end Go.Proofs.Ytpkkgmmcindfgaa

/-
  Of part TwinHo: what is needed here.
-/
namespace Go.Proofs.Ytpkkgmmcindfgaa
open Go.RowKit
set_option linter.unusedVariables false
set_option maxRecDepth 100000 in
set_option maxHeartbeats 600000 in
theorem sameHo (A B : Option Addr) (n c d : Nat) (l : List (List Value)) (w : World) (S T : Nat) (hx : CsIn 66 w S A n l) (hy : CsIn 66 w T B n l) (ho : ∀ k ∈ l, IsHo k) (hn : n ≤ maxLen) :
    Calls Try.prog 33 #[.slice A n c, .slice B n d] w fun e w' => e = .returned (.bool true) ∧ ∃ k, w' = w.drewN k := by
  unfold maxLen at hn
  have HX := Lib.hid hx
  have HY := Lib.hid hy
  have HO := Lib.hid ho
  clear hx hy ho
  go_enter Try.func33, Try.ntmps33
  go_wp2
  go_loopw [5] (fun i wr => ∃ k j : Nat, k ≤ n ∧ i = .int .i64 k ∧ wr = w.drewN j) (fun i _ => n - (intOf i).toNat)
  case atStart => exact ⟨0, 0, Nat.zero_le _, rfl, rfl⟩
  case round =>
    obtain ⟨k, j, hk, rfl, rfl⟩ := hrel
    by_cases hlt : k < n
    · obtain ⟨a, x, rfl, ha, hxl, _, ca⟩ := HX.out.get hlt (by omega)
      obtain ⟨b, y, rfl, hb, hyl, _, cb⟩ := HY.out.get hlt (by omega)
      obtain rfl : x = y := by rw [hxl] at hyl; exact Option.some.inj hyl
      have hxo := HO.out x (List.mem_of_getElem? hxl)
      have NQ := fun w => hxo.neq w
      have HSZ := Lib.hid hxo.size
      have CA := Lib.hid ca
      have CB := Lib.hid cb
      clear ca cb hxl hyl hxo
      go_wp2
      refine wp_region_quiet_lit (by kernel_rfl) (by kernel_rfl) ?_
      repeat (first
        | ((with_reducible show wpQuiet _ _ _ _ ({ dst := some 20, op := Op.load _ _, type := _, pos := _, after := _, guard := _ } :: _) _); go_must (refine quiet_load_at (by kernel_rfl) 60 (.tmp 19) rfl (a.add (k * 66)) x _ Try.underlying60 rfl HSZ.out (by rintro _ ⟨nq, rfl⟩; exact CA.out) ?_ ?_; go_simp; go_simp))
        | ((with_reducible show wpQuiet _ _ _ _ ({ dst := some 24, op := Op.load _ _, type := _, pos := _, after := _, guard := _ } :: _) _); go_must (refine quiet_load_at (by kernel_rfl) 60 (.tmp 23) rfl (b.add (k * 66)) x _ Try.underlying60 rfl HSZ.out (by rintro _ ⟨nq, rfl⟩; exact CB.out) ?_ ?_; go_simp; go_simp))
        | go_big_quiet_step (fail))
      refine wpQuiet_nil ?_
      intro nq
      go_wp2
      go_roundw
      case rel => exact ⟨k + 1, j + nq, by omega, by go_num, by simp⟩
      case measure => simp [intOf]; omega
    · go_wp2
      go_ret
      exact ⟨rfl, j, rfl⟩
end Go.Proofs.Ytpkkgmmcindfgaa

/-
  Of part Lives13: what is needed here.
-/
namespace Go.Proofs.Ytpkkgmmcindfgaa
open Go.RowKit
set_option linter.unusedVariables false
set_option maxRecDepth 100000
theorem HoldsIn.cs {w : World} {B n : Nat} {A : Option Addr} {L : List LHold} (h : HoldsIn w B A n L) : CsIn 66 w B A n (L.map LHold.cells) := ⟨by rw [List.length_map, h.len], holds_each h.ok, h.sees⟩
theorem sameHolds (A B : Option Addr) (n c d : Nat) (L : List LHold) (w : World) (S T : Nat) (hx : HoldsIn w S A n L) (hy : HoldsIn w T B n L) (hn : n ≤ maxLen) :
    Calls Try.prog 21 #[.slice A n c, .slice B n d] w fun e w' => e = .returned (.bool true) ∧ ∃ k, w' = w.drewN k := by
  have HS := Lib.hid (sameHo A B n c d _ w S T hx.cs hy.cs (holds_is hx.ok) hn)
  clear hx hy
  go_enter Try.func21, Try.ntmps21
  go_wp2_with fail
  refine HS.out.mono ?_
  rintro e w' ⟨rfl, k, rfl⟩
  go_wp2_with fail
  go_ret
  exact ⟨rfl, k, rfl⟩
/-- a store of the call's own -/
structure LS13 (w V : World) (sb mb : Nat) (L : List LHold) : Prop where
  b : Below w.heap.size w V
  s : StIn V sb mb L
  lo : w.heap.size ≤ sb ∧ w.heap.size ≤ mb
section
variable {w V V' : World} {sb mb : Nat} {L L' : List LHold}
theorem LS13.below (h : LS13 w V sb mb L) (hb : Below V.heap.size V V') : LS13 w V' sb mb L := ⟨h.b.trans (hb.mono h.b.size), h.s.below hb, h.lo⟩
theorem LS13.put (h : LS13 w V sb mb L) (hs : StIn V' sb mb L') (hg : V.grownBy V' (some mb)) : LS13 w V' sb mb L' := ⟨h.b.grown hg h.b.size (fun k hk => by cases hk; exact h.lo.2), hs, h.lo⟩
end
theorem holds_lit {w : World} {g t B : Nat} {x : LHold} (hx : HoldOk x) (hr : Row w g t x.cells) (hB : g < B) : HoldsIn w B (some ⟨g, 0, none⟩) 1 [x] :=
  ⟨rfl, fun y hy => by obtain rfl := List.mem_singleton.1 hy; exact hx, by
    have := (csIn_row (sz := 66) (w := w) (g := g) (t := t) (l := [x.cells]) (ys := []) (n := 1) (B := B) (by simpa using hr) rfl (fun k hk => by obtain rfl := List.mem_singleton.1 hk; exact holds_each (L := [x]) (fun y hy => by obtain rfl := List.mem_singleton.1 hy; exact hx) _ (by simp)) hB).sees
    simpa [holdsC] using this⟩
def k13 (z : Int) : List Int := z :: List.replicate 31 0
def a13 (c : Int) : LAcc := ⟨c, List.replicate 32 0, 0⟩
theorem built_k13 (z : Int) : Try.prog.built 24 [(0, .int .u8 z)] = some (bv (k13 z)).toArray := by kernel_rfl
theorem built_a13 (c : Int) : Try.prog.built 35 [(0, .int .u64 c)] = some (a13 c).cells.toArray := by kernel_rfl
theorem k13_ok (z : Int) (h : IsByte z) : (k13 z).length = 32 ∧ AllBytes (k13 z) := ⟨rfl, fun y hy => by
  rcases List.mem_cons.1 hy with rfl | hy
  · exact h
  · rw [List.eq_of_mem_replicate hy]; constructor <;> decide⟩
theorem a13_ok (c : Int) (h : 0 ≤ c ∧ c < 18446744073709551616) : AccOk (a13 c) := ⟨h, blank_ok.o, blank_ok.s⟩
theorem built_h13 : Try.prog.built 60 [(0, .agg (bv (k13 2)).toArray), (1, .agg (a13 7).cells.toArray)] = some (LHold.mk (k13 2) (a13 7)).cells.toArray := by kernel_rfl
def L13 : List LHold := [⟨k13 2, a13 7⟩]
theorem l13_1 : putH [] (k13 1) (a13 5) = [⟨k13 1, a13 5⟩] := by decide +kernel
theorem l13_2 : putH [⟨k13 1, a13 5⟩] (k13 2) (a13 7) = [⟨k13 1, a13 5⟩, ⟨k13 2, a13 7⟩] := by decide +kernel
theorem l13_3 : putH [⟨k13 1, a13 5⟩, ⟨k13 2, a13 7⟩] (k13 1) blank13 = L13 := by decide +kernel
theorem l13_ok : ∀ x ∈ L13, HoldOk x := fun x hx => by
  obtain rfl := List.mem_singleton.1 hx
  exact ⟨k13_ok 2 (by unfold IsByte; omega), a13_ok 7 (by omega)⟩
set_option maxHeartbeats 8000000 in
theorem lives13 (w : World) : Calls Try.prog 8 #[] w fun e w' => e = .returned (.bool true) ∧ Below w.heap.size w w' := by
  have HK1 : Hid ((Try.prog.info? 24).map (·.size) = some (bv (k13 1)).length) := Lib.hid size_key
  have HK2 : Hid ((Try.prog.info? 24).map (·.size) = some (bv (k13 2)).length) := Lib.hid size_key
  go_enter Try.func8, Try.ntmps8
  go_wp2_with fail
  refine (new13 _).mono ?_
  rintro e w1 ⟨sb, mb, rfl, hs, h1, h2, hb⟩
  have Q1 := Lib.hid (show LS13 w w1 sb mb [] from ⟨hb, hs, h1, h2⟩)
  clear hs h1 h2 hb
  go_upto_region 3 with (first
    | ((with_reducible show wpList _ _ _ ({ dst := some 7, op := Op.build _ _, type := _, pos := _, after := _, guard := _ } :: _) _ _); go_must (refine wpList_plain rfl fun K hK => wp_built _ _ _ rfl (by simp only [List.map_toArray, List.map_cons, List.map_nil]; exact built_k13 _) (hK _ _ ?_)))
    | ((with_reducible show wpList _ _ _ ({ dst := some 2, op := Op.alloc _, type := _, pos := _, after := _, guard := _ } :: _) _ _); go_must (refine wpList_alloc_zero rfl 24 rfl (bv (List.replicate 32 0)) zero_key ?_))
    | ((with_reducible show wpList _ _ _ ({ dst := none, op := Op.store 24 _ _, type := _, pos := _, after := _, guard := _ } :: _) _ _); go_must (refine wpList_store_new rfl 24 (.tmp 2) (.tmp 7) rfl (bv (k13 1)) HK1.out (bv_one _) rfl ?_ ?_ ?_; go_simp; go_simp; intro wk1 hr hb hz; have RK1 := Lib.hid hr; have BK1 := Lib.hid hb; clear hr hb hz)))
  have Q2 := Lib.hid (Q1.out.below BK1.out)
  obtain ⟨g1, hg1⟩ : ∃ g, g = w1.heap.size := ⟨_, rfl⟩
  rw [← hg1] at RK1 ⊢
  clear hg1 Q1 BK1
  go_upto_region 4 with (first
    | ((with_reducible show wpList _ _ _ ({ dst := some 8, op := Op.build _ _, type := _, pos := _, after := _, guard := _ } :: _) _ _); go_must (refine wpList_plain rfl fun K hK => wp_built _ _ _ rfl (by simp only [List.map_toArray, List.map_cons, List.map_nil]; exact built_k13 _) (hK _ _ ?_)))
    | ((with_reducible show wpList _ _ _ ({ dst := some 3, op := Op.alloc _, type := _, pos := _, after := _, guard := _ } :: _) _ _); go_must (refine wpList_alloc_zero rfl 24 rfl (bv (List.replicate 32 0)) zero_key ?_))
    | ((with_reducible show wpList _ _ _ ({ dst := none, op := Op.store 24 _ _, type := _, pos := _, after := _, guard := _ } :: _) _ _); go_must (refine wpList_store_new rfl 24 (.tmp 3) (.tmp 8) rfl (bv (k13 2)) HK2.out (bv_one _) rfl ?_ ?_ ?_; go_simp; go_simp; intro wk2 hr hb hz; have RK2 := Lib.hid hr; have BK2 := Lib.hid hb; clear hr hb hz)))
  have Q3 := Lib.hid (Q2.out.below BK2.out)
  have RA := Lib.hid (RK1.out.below BK2.out RK1.out.lt)
  obtain ⟨g2, hg2⟩ : ∃ g, g = wk1.heap.size := ⟨_, rfl⟩
  rw [← hg2] at RK2 ⊢
  clear hg2 Q2 BK2 RK1
  go_wp2_with (first
    | ((with_reducible show wpList _ _ _ ({ dst := some 10, op := Op.load 24 _, type := _, pos := _, after := _, guard := _ } :: _) _ _); go_must (refine wpList_load_whole rfl 24 (.tmp 2) rfl g1 24 (bv (k13 1)) _ Try.underlying24 rfl HK1.out RA.out ?_ ?_; go_simp))
    | ((with_reducible show wpList _ _ _ ({ dst := some 11, op := Op.build _ _, type := _, pos := _, after := _, guard := _ } :: _) _ _); go_must (refine wpList_plain rfl fun K hK => wp_built _ _ _ rfl (by simp only [List.map_toArray, List.map_cons, List.map_nil]; exact built_a13 _) (hK _ _ ?_))))
  refine (put13 sb mb [] (k13 1) (a13 5) _ Q3.out.s (k13_ok _ (by unfold IsByte; omega)) (a13_ok _ (by omega)) (by simp)).mono ?_
  rintro e w4 ⟨rfl, hs, hg⟩
  rw [l13_1] at hs
  have RA4 := Lib.hid (RA.out.grown hg (fun e => Q3.out.s.row_ne RA.out (Option.some.inj e)))
  have RB4 := Lib.hid (RK2.out.grown hg (fun e => Q3.out.s.row_ne RK2.out (Option.some.inj e)))
  have Q4 := Lib.hid (Q3.out.put hs hg)
  clear hs hg Q3 RA RK2
  go_wp2_with (first
    | ((with_reducible show wpList _ _ _ ({ dst := some 14, op := Op.load 24 _, type := _, pos := _, after := _, guard := _ } :: _) _ _); go_must (refine wpList_load_whole rfl 24 (.tmp 3) rfl g2 24 (bv (k13 2)) _ Try.underlying24 rfl HK2.out RB4.out ?_ ?_; go_simp))
    | ((with_reducible show wpList _ _ _ ({ dst := some 15, op := Op.build _ _, type := _, pos := _, after := _, guard := _ } :: _) _ _); go_must (refine wpList_plain rfl fun K hK => wp_built _ _ _ rfl (by simp only [List.map_toArray, List.map_cons, List.map_nil]; exact built_a13 _) (hK _ _ ?_))))
  refine (put13 sb mb [⟨k13 1, a13 5⟩] (k13 2) (a13 7) _ Q4.out.s (k13_ok _ (by unfold IsByte; omega)) (a13_ok _ (by omega)) (by simp)).mono ?_
  rintro e w5 ⟨rfl, hs, hg⟩
  rw [l13_2] at hs
  have RA5 := Lib.hid (RA4.out.grown hg (fun e => Q4.out.s.row_ne RA4.out (Option.some.inj e)))
  have RB5 := Lib.hid (RB4.out.grown hg (fun e => Q4.out.s.row_ne RB4.out (Option.some.inj e)))
  have Q5 := Lib.hid (Q4.out.put hs hg)
  clear hs hg Q4 RA4 RB4
  go_wp2_with (first
    | ((with_reducible show wpList _ _ _ ({ dst := some 18, op := Op.load 24 _, type := _, pos := _, after := _, guard := _ } :: _) _ _); go_must (refine wpList_load_whole rfl 24 (.tmp 2) rfl g1 24 (bv (k13 1)) _ Try.underlying24 rfl HK1.out RA5.out ?_ ?_; go_simp))
    | ((with_reducible show wpList _ _ _ ({ dst := some 19, op := Op.build _ _, type := _, pos := _, after := _, guard := _ } :: _) _ _); go_must (refine wpList_plain rfl fun K hK => wp_built _ _ _ rfl (by simp only [List.map_toArray, List.map_nil]; exact built_blank) (hK _ _ ?_))))
  refine (put13 sb mb [⟨k13 1, a13 5⟩, ⟨k13 2, a13 7⟩] (k13 1) blank13 _ Q5.out.s (k13_ok _ (by unfold IsByte; omega)) blank_ok (by simp)).mono ?_
  rintro e w6 ⟨rfl, hs, hg⟩
  rw [l13_3] at hs
  have RB6 := Lib.hid (RB5.out.grown hg (fun e => Q5.out.s.row_ne RB5.out (Option.some.inj e)))
  have Q6 := Lib.hid (Q5.out.put hs hg)
  clear hs hg Q5 RA5 RB5
  go_wp2_with fail
  refine (coins13 sb mb L13 _ Q6.out.s (by simp [L13])).mono ?_
  rintro e w7 ⟨rfl, hb⟩
  have Q7 := Lib.hid (Q6.out.below hb)
  have RB7 := Lib.hid (RB6.out.below hb RB6.out.lt)
  clear hb Q6 RB6
  rw [show hi13 L13 = 0 by decide +kernel, show lo13 L13 = 7 by decide +kernel]
  go_upto_region 8 with fail
  go_cut [0] (fun s0 wx => s0 = .bool true ∧ Below w.heap.size w wx)
  case first =>
    refine wp_region_held_drew (S := (fun V => Below w7.heap.size w7 V)) (by kernel_rfl) (Below.refl w7.heap.size w7).drew (fun _ => ?_)
    refine takeL (i := 0) (v := ?_) rfl (by kernel_rfl) (by kernel_rfl) (by kernel_rfl) (fun _ _ _ h => h) (Or.inl ⟨by rfl, ?_⟩) (Below.refl w7.heap.size w7).drew ?_
    rotate_left
    · intro w hw
      try dsimp only at hw
      go_simp
      try with_reducible rfl
    try simp only [Act.put, List.setIfInBounds_toArray, List.set_cons_zero, List.set_cons_succ]
    refine takeL (i := 2) (v := .agg (bv (k13 2)).toArray) rfl (by kernel_rfl) (by kernel_rfl) (by kernel_rfl) (fun _ _ _ h => h) (Or.inl ⟨by rfl, fun wz hwz => exec_load_at wz 24 (.tmp 3) rfl ⟨g2, 0, none⟩ (bv (k13 2)) _ Try.underlying24 rfl HK2.out (fun j u hu => (hwz.cell (by rw [addr_row]; exact RB7.out.lt)).trans (by rw [addr_row, Nat.zero_add]; exact (RB7.out.cell j).trans hu)) (by go_simp)⟩) (Below.refl w7.heap.size w7).drew ?_
    try simp only [Act.put, List.setIfInBounds_toArray, List.set_cons_zero, List.set_cons_succ]
    refine takeL (i := 3) (v := .agg (a13 7).cells.toArray) rfl (by kernel_rfl) (by kernel_rfl) (by kernel_rfl) (fun _ _ _ h => h) (Or.inl ⟨by rfl, fun wz hwz => exec_built wz _ _ _ rfl (by simp only [List.map_toArray, List.map_cons, List.map_nil]; exact built_a13 7)⟩) (Below.refl w7.heap.size w7).drew ?_
    try simp only [Act.put, List.setIfInBounds_toArray, List.set_cons_zero, List.set_cons_succ]
    refine takeL (i := 4) (v := .agg (LHold.mk (k13 2) (a13 7)).cells.toArray) rfl (by kernel_rfl) (by kernel_rfl) (by kernel_rfl) (fun _ _ _ h => h) (Or.inl ⟨by rfl, fun wz hwz => exec_built wz _ _ _ rfl (by simp only [List.map_toArray, List.map_cons, List.map_nil]; exact built_h13)⟩) (Below.refl w7.heap.size w7).drew ?_
    try simp only [Act.put, List.setIfInBounds_toArray, List.set_cons_zero, List.set_cons_succ]
    refine readyL2 (i := 1) (j := 5) rfl rfl (by kernel_rfl) (by kernel_rfl) (by kernel_rfl) (fun K hK => ?_) (fun K hK => ?_)
    · go_simp
      refine (list13 sb mb L13 _ (Q7.out.below (Below.refl w7.heap.size w7).drew).s (by simp [L13])).mono ?_
      rintro e w8 ⟨Al, cl, rfl, ho, hb⟩
      have HH := Lib.hid (ho.holds l13_ok)
      have B8 := Lib.hid (((Below.refl w7.heap.size w7).drew).trans (hb.mono ((Below.refl w7.heap.size w7).drew).size))
      have D8 := Lib.hid hb
      clear ho hb
      refine hK.out _ _ B8.out ?_
      clear hK K
      try simp only [Act.put, List.setIfInBounds_toArray, List.set_cons_zero, List.set_cons_succ]
      refine readyL (i := 5) rfl (by kernel_rfl) (by kernel_rfl) fun K hK => ?_
      refine wp_buildOne 29 60 (.tmp 30) rfl (LHold.mk (k13 2) (a13 7)).cells _ 66 80 Try.underlying29 infoHo zszHo (by omega) (by omega) (by kernel_rfl) (by go_simp) ?_
      obtain ⟨v9, hv9⟩ : ∃ v, v = w8.alloc (.cells (LHold.mk (k13 2) (a13 7)).cells.toArray 60) := ⟨_, rfl⟩
      rw [← hv9]
      have D9 := Lib.hid (show Below w8.heap.size w8 v9 from hv9 ▸ (Below.refl _ _).alloc (Nat.le_refl _) _)
      have B9 := Lib.hid ((B8.out).trans (D9.out.mono (B8.out).size))
      have RW := Lib.hid (show Row v9 w8.heap.size 60 _ from hv9 ▸ Row.new _ 60 _)
      clear hv9
      refine hK.out _ _ B9.out ?_
      clear hK K
      try simp only [Act.put, List.setIfInBounds_toArray, List.set_cons_zero, List.set_cons_succ]
      refine readyL (i := 6) rfl (by kernel_rfl) (by kernel_rfl) fun K hK => ?_
      go_simp
      refine (sameHolds _ _ 1 _ _ L13 _ _ _ (HH.out.below D9.out) (holds_lit (l13_ok _ (List.mem_singleton.2 rfl)) RW.out RW.out.lt) (by unfold maxLen; omega)).mono ?_
      rintro e wy ⟨rfl, kd, rfl⟩
      have BY := Lib.hid (show Below w7.heap.size w7 (v9.drewN kd) from (B9.out).trans ⟨rfl, rfl, rfl, Nat.le_refl _, fun _ _ => rfl⟩)
      refine hK.out _ _ BY.out ?_
      clear hK K
      try simp only [Act.put, List.setIfInBounds_toArray, List.set_cons_zero, List.set_cons_succ]
      refine takeL (i := 7) (v := ?_) rfl (by kernel_rfl) (by kernel_rfl) (by kernel_rfl) (fun _ _ _ h => h) (Or.inl ⟨by rfl, ?_⟩) BY.out ?_
      rotate_left
      · intro w hw
        try dsimp only at hw
        go_simp
        try with_reducible rfl
      try simp only [Act.put, List.setIfInBounds_toArray, List.set_cons_zero, List.set_cons_succ]
      refine takeL (i := 8) (v := ?_) rfl (by kernel_rfl) (by kernel_rfl) (by kernel_rfl) (fun _ _ _ h => h) (Or.inl ⟨by rfl, ?_⟩) BY.out ?_
      rotate_left
      · intro w hw
        try dsimp only at hw
        go_simp
        try with_reducible rfl
      try simp only [Act.put, List.setIfInBounds_toArray, List.set_cons_zero, List.set_cons_succ]
      refine takeL (i := 9) (v := ?_) rfl (by kernel_rfl) (by kernel_rfl) (by kernel_rfl) (fun _ _ _ h => h) (Or.inl ⟨by rfl, ?_⟩) BY.out ?_
      rotate_left
      · intro w hw
        try dsimp only at hw
        go_simp
        try with_reducible rfl
      try simp only [Act.put, List.setIfInBounds_toArray, List.set_cons_zero, List.set_cons_succ]
      refine takeL (i := 10) (v := ?_) rfl (by kernel_rfl) (by kernel_rfl) (by kernel_rfl) (fun _ _ _ h => h) (Or.inl ⟨by rfl, ?_⟩) BY.out ?_
      rotate_left
      · intro w hw
        try dsimp only at hw
        go_simp
        try with_reducible rfl
      try simp only [Act.put, List.setIfInBounds_toArray, List.set_cons_zero, List.set_cons_succ]
      refine takeL (i := 11) (v := ?_) rfl (by kernel_rfl) (by kernel_rfl) (by kernel_rfl) (fun _ _ _ h => h) (Or.inl ⟨by rfl, ?_⟩) BY.out ?_
      rotate_left
      · intro w hw
        try dsimp only at hw
        go_simp
        try with_reducible rfl
      try simp only [Act.put, List.setIfInBounds_toArray, List.set_cons_zero, List.set_cons_succ]
      refine takeL (i := 12) (v := ?_) rfl (by kernel_rfl) (by kernel_rfl) (by kernel_rfl) (fun _ _ _ h => h) (Or.inl ⟨by rfl, ?_⟩) BY.out ?_
      rotate_left
      · intro w hw
        try dsimp only at hw
        go_simp
        try with_reducible rfl
      try simp only [Act.put, List.setIfInBounds_toArray, List.set_cons_zero, List.set_cons_succ]
      refine takeL (i := 13) (v := ?_) rfl (by kernel_rfl) (by kernel_rfl) (by kernel_rfl) (fun _ _ _ h => h) (Or.inl ⟨by rfl, ?_⟩) BY.out ?_
      rotate_left
      · intro w hw
        try dsimp only at hw
        go_simp
        try with_reducible rfl
      try simp only [Act.put, List.setIfInBounds_toArray, List.set_cons_zero, List.set_cons_succ]
      refine takeL (i := 14) (v := ?_) rfl (by kernel_rfl) (by kernel_rfl) (by kernel_rfl) (fun _ _ _ h => h) (Or.inl ⟨by rfl, ?_⟩) BY.out ?_
      rotate_left
      · intro w hw
        try dsimp only at hw
        go_simp
        try with_reducible rfl
      try simp only [Act.put, List.setIfInBounds_toArray, List.set_cons_zero, List.set_cons_succ]
      refine takeL (i := 15) (v := ?_) rfl (by kernel_rfl) (by kernel_rfl) (by kernel_rfl) (fun _ _ _ h => h) (Or.inl ⟨by rfl, ?_⟩) BY.out ?_
      rotate_left
      · intro w hw
        try dsimp only at hw
        go_simp
        try with_reducible rfl
      try simp only [Act.put, List.setIfInBounds_toArray, List.set_cons_zero]
      refine wpAnyH_done (by kernel_rfl) ?_ _
      go_wp2_with fail
      go_meet
      exact ⟨rfl, Q7.out.b.trans (BY.out.mono Q7.out.b.size)⟩
    · refine wp_buildOne 29 60 (.tmp 30) rfl (LHold.mk (k13 2) (a13 7)).cells _ 66 80 Try.underlying29 infoHo zszHo (by omega) (by omega) (by kernel_rfl) (by go_simp) ?_
      obtain ⟨v8, hv8⟩ : ∃ v, v = w7.drew.alloc (.cells (LHold.mk (k13 2) (a13 7)).cells.toArray 60) := ⟨_, rfl⟩
      rw [← hv8]
      have D8 := Lib.hid (show Below w7.drew.heap.size w7.drew v8 from hv8 ▸ (Below.refl _ _).alloc (Nat.le_refl _) _)
      have B8 := Lib.hid (((Below.refl w7.heap.size w7).drew).trans (D8.out.mono ((Below.refl w7.heap.size w7).drew).size))
      have RW := Lib.hid (show Row v8 w7.drew.heap.size 60 _ from hv8 ▸ Row.new _ 60 _)
      clear hv8
      refine hK.out _ _ B8.out ?_
      clear hK K
      try simp only [Act.put, List.setIfInBounds_toArray, List.set_cons_zero, List.set_cons_succ]
      refine readyL (i := 1) rfl (by kernel_rfl) (by kernel_rfl) fun K hK => ?_
      go_simp
      refine (list13 sb mb L13 _ (Q7.out.below B8.out).s (by simp [L13])).mono ?_
      rintro e w9 ⟨Al, cl, rfl, ho, hb⟩
      have HH := Lib.hid (ho.holds l13_ok)
      have B9 := Lib.hid ((B8.out).trans (hb.mono (B8.out).size))
      have D9 := Lib.hid hb
      clear ho hb
      refine hK.out _ _ B9.out ?_
      clear hK K
      try simp only [Act.put, List.setIfInBounds_toArray, List.set_cons_zero, List.set_cons_succ]
      refine readyL (i := 6) rfl (by kernel_rfl) (by kernel_rfl) fun K hK => ?_
      go_simp
      refine (sameHolds _ _ 1 _ _ L13 _ _ _ HH.out (holds_lit (l13_ok _ (List.mem_singleton.2 rfl)) (RW.out.below D9.out RW.out.lt) (Nat.lt_of_lt_of_le RW.out.lt (Nat.le_refl _))) (by unfold maxLen; omega)).mono ?_
      rintro e wy ⟨rfl, kd, rfl⟩
      have BY := Lib.hid (show Below w7.heap.size w7 (w9.drewN kd) from (B9.out).trans ⟨rfl, rfl, rfl, Nat.le_refl _, fun _ _ => rfl⟩)
      refine hK.out _ _ BY.out ?_
      clear hK K
      try simp only [Act.put, List.setIfInBounds_toArray, List.set_cons_zero, List.set_cons_succ]
      refine takeL (i := 7) (v := ?_) rfl (by kernel_rfl) (by kernel_rfl) (by kernel_rfl) (fun _ _ _ h => h) (Or.inl ⟨by rfl, ?_⟩) BY.out ?_
      rotate_left
      · intro w hw
        try dsimp only at hw
        go_simp
        try with_reducible rfl
      try simp only [Act.put, List.setIfInBounds_toArray, List.set_cons_zero, List.set_cons_succ]
      refine takeL (i := 8) (v := ?_) rfl (by kernel_rfl) (by kernel_rfl) (by kernel_rfl) (fun _ _ _ h => h) (Or.inl ⟨by rfl, ?_⟩) BY.out ?_
      rotate_left
      · intro w hw
        try dsimp only at hw
        go_simp
        try with_reducible rfl
      try simp only [Act.put, List.setIfInBounds_toArray, List.set_cons_zero, List.set_cons_succ]
      refine takeL (i := 9) (v := ?_) rfl (by kernel_rfl) (by kernel_rfl) (by kernel_rfl) (fun _ _ _ h => h) (Or.inl ⟨by rfl, ?_⟩) BY.out ?_
      rotate_left
      · intro w hw
        try dsimp only at hw
        go_simp
        try with_reducible rfl
      try simp only [Act.put, List.setIfInBounds_toArray, List.set_cons_zero, List.set_cons_succ]
      refine takeL (i := 10) (v := ?_) rfl (by kernel_rfl) (by kernel_rfl) (by kernel_rfl) (fun _ _ _ h => h) (Or.inl ⟨by rfl, ?_⟩) BY.out ?_
      rotate_left
      · intro w hw
        try dsimp only at hw
        go_simp
        try with_reducible rfl
      try simp only [Act.put, List.setIfInBounds_toArray, List.set_cons_zero, List.set_cons_succ]
      refine takeL (i := 11) (v := ?_) rfl (by kernel_rfl) (by kernel_rfl) (by kernel_rfl) (fun _ _ _ h => h) (Or.inl ⟨by rfl, ?_⟩) BY.out ?_
      rotate_left
      · intro w hw
        try dsimp only at hw
        go_simp
        try with_reducible rfl
      try simp only [Act.put, List.setIfInBounds_toArray, List.set_cons_zero, List.set_cons_succ]
      refine takeL (i := 12) (v := ?_) rfl (by kernel_rfl) (by kernel_rfl) (by kernel_rfl) (fun _ _ _ h => h) (Or.inl ⟨by rfl, ?_⟩) BY.out ?_
      rotate_left
      · intro w hw
        try dsimp only at hw
        go_simp
        try with_reducible rfl
      try simp only [Act.put, List.setIfInBounds_toArray, List.set_cons_zero, List.set_cons_succ]
      refine takeL (i := 13) (v := ?_) rfl (by kernel_rfl) (by kernel_rfl) (by kernel_rfl) (fun _ _ _ h => h) (Or.inl ⟨by rfl, ?_⟩) BY.out ?_
      rotate_left
      · intro w hw
        try dsimp only at hw
        go_simp
        try with_reducible rfl
      try simp only [Act.put, List.setIfInBounds_toArray, List.set_cons_zero, List.set_cons_succ]
      refine takeL (i := 14) (v := ?_) rfl (by kernel_rfl) (by kernel_rfl) (by kernel_rfl) (fun _ _ _ h => h) (Or.inl ⟨by rfl, ?_⟩) BY.out ?_
      rotate_left
      · intro w hw
        try dsimp only at hw
        go_simp
        try with_reducible rfl
      try simp only [Act.put, List.setIfInBounds_toArray, List.set_cons_zero, List.set_cons_succ]
      refine takeL (i := 15) (v := ?_) rfl (by kernel_rfl) (by kernel_rfl) (by kernel_rfl) (fun _ _ _ h => h) (Or.inl ⟨by rfl, ?_⟩) BY.out ?_
      rotate_left
      · intro w hw
        try dsimp only at hw
        go_simp
        try with_reducible rfl
      try simp only [Act.put, List.setIfInBounds_toArray, List.set_cons_zero]
      refine wpAnyH_done (by kernel_rfl) ?_ _
      go_wp2_with fail
      go_meet
      exact ⟨rfl, Q7.out.b.trans (BY.out.mono Q7.out.b.size)⟩
  case rest =>
    obtain ⟨rfl, hb⟩ := hcut
    have HB := Lib.hid hb
    clear hb
    go_wp2_with fail
    go_ret
    exact ⟨rfl, HB.out⟩
end Go.Proofs.Ytpkkgmmcindfgaa

/-
  Of part Acts13: what is needed here.
-/
namespace Go.Proofs.Ytpkkgmmcindfgaa
open Go.ChangeShapes Go.WideShapes Go.RowKit
set_option linter.unusedVariables false
set_option maxRecDepth 100000
structure LAct13 where
  z : Int
  k : List Int
  a : LAcc
def LAct13.cells (x : LAct13) : List Value := .int .u8 x.z :: (bv x.k ++ x.a.cells)
structure ActOk13 (x : LAct13) : Prop where
  z : IsByte x.z
  k : x.k.length = 32 ∧ AllBytes x.k
  a : AccOk x.a
theorem act13_len {x : LAct13} (h : ActOk13 x) : x.cells.length = 67 := by
  unfold LAct13.cells
  rw [List.length_cons, List.length_append, bv_length, h.k.1, acc_len h.a.o.1]
theorem act13_one (x : LAct13) : ∀ u ∈ x.cells, u.oneCell' = true := by
  intro u hu
  rcases List.mem_cons.1 hu with rfl | hu
  · rfl
  rcases List.mem_append.1 hu with hu | hu
  · exact bv_one _ _ hu
  · exact acc_one _ _ hu
theorem act13_z (x : LAct13) : x.cells[0]? = some (.int .u8 x.z) := rfl
theorem act13_k {x : LAct13} {j : Nat} {u : Value} (h : (bv x.k)[j]? = some u) : x.cells[1 + j]? = some u := by
  unfold LAct13.cells
  rw [Nat.add_comm, List.getElem?_cons_succ, List.getElem?_append_left (List.getElem?_eq_some_iff.1 h).1]
  exact h
theorem act13_a {x : LAct13} (hk : x.k.length = 32) {j : Nat} {u : Value} (h : x.a.cells[j]? = some u) : x.cells[33 + j]? = some u := by
  unfold LAct13.cells
  rw [show 33 + j = (32 + j) + 1 by omega, List.getElem?_cons_succ, List.getElem?_append_right (by rw [bv_length, hk]; omega), bv_length, hk, Nat.add_sub_cancel_left]
  exact h
/-- acts that lie below block B -/
structure ActsIn13 (w : World) (B : Nat) (A : Option Addr) (n : Nat) (l : List LAct13) : Prop where
  len : l.length = n
  ok : ∀ x ∈ l, ActOk13 x
  cs : CsIn 67 w B A n (l.map LAct13.cells)
theorem ActsIn13.below {w w' : World} {B n : Nat} {A : Option Addr} {l : List LAct13} (h : ActsIn13 w B A n l) (hb : Below B w w') : ActsIn13 w' B A n l := ⟨h.len, h.ok, h.cs.below hb⟩
theorem ActsIn13.more {w : World} {B B' n : Nat} {A : Option Addr} {l : List LAct13} (h : ActsIn13 w B A n l) (hB : B ≤ B') : ActsIn13 w B' A n l := ⟨h.len, h.ok, h.cs.more hB⟩
theorem ActsIn13.get {w : World} {B n : Nat} {A : Option Addr} {l : List LAct13} (h : ActsIn13 w B A n l) {k : Nat} (hk : k < n) : ∃ a x, A = some a ∧ a.block < B ∧ l[k]? = some x ∧ ActOk13 x ∧ ∀ j u, x.cells[j]? = some u → w.cell? ((a.add (k * 67)).add j) = some u := by
  obtain ⟨a, x, e, hb, hx, _, hcell⟩ := h.cs.get hk (by omega)
  rw [List.getElem?_map] at hx
  obtain ⟨r, hr, rfl⟩ := Option.map_eq_some_iff.1 hx
  exact ⟨a, r, e, hb, hr, h.ok r (List.mem_of_getElem? hr), hcell⟩
theorem u64_wf13 {z : Int} (h : (Lit.int .u64 z).wf = true) : 0 ≤ z ∧ z < 18446744073709551616 := by
  have h' : (decide ((0 : Int) ≤ z) && decide (z ≤ 18446744073709551615)) = true := h
  rw [Bool.and_eq_true, decide_eq_true_iff, decide_eq_true_iff] at h'
  omega
theorem cellsAct13 : Try.prog.cellsOf 37 = 67 := by kernel_rfl
theorem bytesAct13 : Try.prog.bytesOf 37 = 88 := by kernel_rfl
theorem cellsAcc13 : Try.prog.cellsOf 35 = 34 := by kernel_rfl
theorem cellsU64_13 : Try.prog.cellsOf 33 = 1 := by kernel_rfl
theorem cellsU8_13 : Try.prog.cellsOf 5 = 1 := by kernel_rfl
theorem three13 {α : Type} {xs : List α} (h : xs.length = 3) : ∃ a b c, xs = [a, b, c] := by
  match xs, h with
  | [a, b, c], _ => exact ⟨a, b, c, rfl⟩
section
variable {H : Type} {enc : TypeId × Value → H} {w : World} {base b0 : Nat} {held : Bool}
theorem open_acc {fuel : Nat} {cs : List Value} {x : DataW H × List MemPlace} (hf : DataW.trod enc Try.prog w base (fun _ => true) held fuel 35 cs = some x) : ∃ a : LAcc, cs = a.cells ∧ AccOk a := by
  obtain ⟨xs, n, _, hx, hl, hlen, ht⟩ := DataW.trod_struct Try.underlying35 hf
  rw [cellsAcc13] at hl
  obtain ⟨y0, y1, y2, rfl⟩ := three13 hlen
  have t0 : DataW.trod enc Try.prog w base (fun _ => true) held n 33 ((cs.drop 0).take 1) = some y0 := by rw [← cellsU64_13]; exact ht 0 _ rfl
  have t1 : DataW.trod enc Try.prog w base (fun _ => true) held n 24 ((cs.drop 1).take 32) = some y1 := by rw [← cellsKey]; exact ht 1 _ rfl
  have t2 : DataW.trod enc Try.prog w base (fun _ => true) held n 33 ((cs.drop 33).take 1) = some y2 := by rw [← cellsU64_13]; exact ht 2 _ rfl
  have hsplit : cs = (cs.drop 0).take 1 ++ ((cs.drop 1).take 32 ++ (cs.drop 33).take 1) := by
    have e5 : cs.drop 33 = (cs.drop 33).take 1 := (List.take_of_length_le (by rw [List.length_drop]; omega)).symm
    rw [← e5, ← cut cs 1 32 33 rfl, ← cut cs 0 1 1 rfl]
    rfl
  obtain ⟨c0, hc0⟩ := one_of (cs := (cs.drop 0).take 1) (by simp; omega)
  obtain ⟨c2, hc2⟩ := one_of (cs := (cs.drop 33).take 1) (by simp; omega)
  rw [hc0] at t0
  rw [hc2] at t2
  obtain ⟨i0, hi0, _, wi0⟩ := DataW.trod_int Try.underlying33 t0
  obtain rfl : c0 = .int .u64 i0 := by simpa using hi0
  obtain ⟨i2, hi2, _, wi2⟩ := DataW.trod_int Try.underlying33 t2
  obtain rfl : c2 = .int .u64 i2 := by simpa using hi2
  obtain ⟨z, hz, hz1, hz2⟩ := open_32 Try.underlying24 cellsKey t1
  refine ⟨⟨i0, z, i2⟩, ?_, ⟨u64_wf13 wi0, ⟨hz1, hz2⟩, u64_wf13 wi2⟩⟩
  rw [hsplit, hc0, hz, hc2]
  rfl
theorem open_act13_cells {fuel : Nat} {cs : List Value} {x : DataW H × List MemPlace} (hf : DataW.trod enc Try.prog w base (fun _ => true) held fuel 37 cs = some x) : ∃ a : LAct13, cs = a.cells ∧ ActOk13 a := by
  obtain ⟨xs, n, _, hx, hl, hlen, ht⟩ := DataW.trod_struct Try.underlying37 hf
  rw [cellsAct13] at hl
  obtain ⟨y0, y1, y2, rfl⟩ := three13 hlen
  have t0 : DataW.trod enc Try.prog w base (fun _ => true) held n 5 ((cs.drop 0).take 1) = some y0 := by rw [← cellsU8_13]; exact ht 0 _ rfl
  have t1 : DataW.trod enc Try.prog w base (fun _ => true) held n 24 ((cs.drop 1).take 32) = some y1 := by rw [← cellsKey]; exact ht 1 _ rfl
  have t2 : DataW.trod enc Try.prog w base (fun _ => true) held n 35 ((cs.drop 33).take 34) = some y2 := by rw [← cellsAcc13]; exact ht 2 _ rfl
  have hsplit : cs = (cs.drop 0).take 1 ++ ((cs.drop 1).take 32 ++ (cs.drop 33).take 34) := by
    have e5 : cs.drop 33 = (cs.drop 33).take 34 := (List.take_of_length_le (by rw [List.length_drop]; omega)).symm
    rw [← e5, ← cut cs 1 32 33 rfl, ← cut cs 0 1 1 rfl]
    rfl
  obtain ⟨c0, hc0⟩ := one_of (cs := (cs.drop 0).take 1) (by simp; omega)
  rw [hc0] at t0
  obtain ⟨i0, hi0, _, wi0⟩ := DataW.trod_int Try.underlying5 t0
  obtain rfl : c0 = .int .u8 i0 := by simpa using hi0
  obtain ⟨z, hz, hz1, hz2⟩ := open_32 Try.underlying24 cellsKey t1
  obtain ⟨a, ha, ha1⟩ := open_acc t2
  refine ⟨⟨i0, z, a⟩, ?_, ⟨byte_wf wi0, ⟨hz1, hz2⟩, ha1⟩⟩
  rw [hsplit, hc0, hz, ha]
  rfl
theorem open_act13 {r : Reach} {v : Value} {d : DataW H} {p : List MemPlace} (hv : Value.okWide Try.prog w r b0 37 v) (h : DataW.Trod enc Try.prog w base (fun _ => true) held 37 v d p) :
    ∃ x : LAct13, v = .agg x.cells.toArray ∧ ActOk13 x := by
  simp only [Value.okWide, Try.underlying37] at hv
  obtain ⟨arr, rfl, h2, _⟩ := hv
  obtain ⟨fuel, hf⟩ := h
  obtain ⟨x, h3, h4⟩ := open_act13_cells hf
  refine ⟨x, ?_, h4⟩
  have : arr.toList = x.cells := h3
  rw [← this]
theorem csIn_of13 {sz : Nat} {w : World} {B : Nat} {A : Option Addr} {n : Nat} {l : List (List Value)} (h0 : 0 < sz) (hn : l.length = n) (h : ∀ (i : Nat) x, l[i]? = some x → x.length = sz ∧ ∃ a, A = some a ∧ a.block < B ∧ ∀ j u, x[j]? = some u → w.cell? (a.add (i * sz + j)) = some u) : CsIn sz w B A n l := by
  have he : ∀ k ∈ l, k.length = sz := fun k hk => by
    obtain ⟨i, hi, rfl⟩ := List.getElem_of_mem hk
    exact (h i _ (List.getElem?_eq_getElem hi)).1
  refine ⟨hn, he, by rw [cs_flat he, hn], fun i u hu => ?_⟩
  have hi := (List.getElem?_eq_some_iff.1 hu).1
  rw [cs_flat he] at hi
  have hk : i / sz < l.length := (Nat.div_lt_iff_lt_mul h0).2 hi
  obtain ⟨h1, a, rfl, h2, h3⟩ := h (i / sz) _ (List.getElem?_eq_getElem hk)
  refine ⟨_, rfl, h2, ?_⟩
  have hj : i % sz < sz := Nat.mod_lt _ h0
  obtain ⟨v, hv⟩ : ∃ v, (l[i / sz])[i % sz]? = some v := ⟨_, List.getElem?_eq_getElem (by rw [h1]; exact hj)⟩
  have hf := flatten_at sz l (i / sz) _ (fun i y hy => he y (List.mem_of_getElem? hy)) (List.getElem?_eq_getElem hk) _ _ hv
  have hmm : i / sz * sz + i % sz = i := by rw [Nat.mul_comm]; exact Nat.div_add_mod i sz
  rw [hmm, hu] at hf
  obtain rfl := Option.some.inj hf
  have := h3 _ _ hv
  rwa [hmm] at this
theorem open_acts13_v {A : Option Addr} {n c : Nat} {d : DataW H} {p : List MemPlace} (h : DataW.Trod enc Try.prog w base (fun _ => true) held 22 (.slice A n c) d p) (hw : Wt 22 d) :
    ∃ l, n ≤ c ∧ c ≤ maxLen ∧ ActsIn13 w w.heap.size A n l ∧ l.length ≤ 140737488355328 := by
  obtain ⟨fuel, hf⟩ := h
  obtain ⟨A', n', c', hcs, h1, h2, h3, h4⟩ := open_sl (cs := [.slice A n c]) Try.underlying22 (by rw [cellsAct13]; omega) hf hw
  obtain ⟨rfl, rfl, rfl⟩ : A = A' ∧ n = n' ∧ c = c' := by simpa using hcs
  rw [bytesAct13] at h3
  have := reach47
  obtain ⟨l, hl, hp⟩ := list_of (α := LAct13) (p := fun i z => ActOk13 z ∧ ∃ a, A = some a ∧ a.block < w.heap.size ∧ ∀ j u, z.cells[j]? = some u → w.cell? (a.add (i * 67 + j)) = some u) n fun i hi => by
    obtain ⟨a, cs', y, m, e1, e2, e3, e4, e5, _⟩ := h4 i hi
    rw [cellsAct13] at e3 e4
    obtain ⟨z, rfl, hz⟩ := open_act13_cells e5
    exact ⟨z, hz, a, e1, e2, e4⟩
  subst hl
  refine ⟨l, h1, h2, ⟨rfl, fun r hr => ?_, csIn_of13 (by omega) (by simp) fun i x hx => ?_⟩, by omega⟩
  · obtain ⟨i, hi, rfl⟩ := List.getElem_of_mem hr
    exact (hp i _ (List.getElem?_eq_getElem hi)).1
  · rw [List.getElem?_map] at hx
    obtain ⟨r, hr, rfl⟩ := Option.map_eq_some_iff.1 hx
    exact ⟨act13_len (hp i r hr).1, (hp i r hr).2⟩
theorem cellsK2 : Try.prog.cellsOf 64 = 64 := by kernel_rfl
theorem open_two13 {r : Reach} {v : Value} {d : DataW H} {p : List MemPlace} (hv : Value.okWide Try.prog w r b0 64 v) (h : DataW.Trod enc Try.prog w base (fun _ => true) held 64 v d p) :
    ∃ k k' : List Int, v = .agg (bv k ++ bv k').toArray ∧ (k.length = 32 ∧ AllBytes k) ∧ k'.length = 32 ∧ AllBytes k' := by
  simp only [Value.okWide, Try.underlying64] at hv
  obtain ⟨arr, rfl, h2, _⟩ := hv
  obtain ⟨fuel, hf⟩ := h
  obtain ⟨xs, m, _, hx, hl, hxs, hat⟩ := DataW.trod_array Try.underlying64 hf
  rw [cellsK2] at hl
  obtain ⟨y0, y1, rfl⟩ : ∃ y0 y1, xs = [y0, y1] := by
    match xs, hxs with
    | [a, b], _ => exact ⟨a, b, rfl⟩
  have hl' : arr.toList.length = 64 := hl
  have t0 := hat 0 (by omega)
  have t1 := hat 1 (by omega)
  rw [cellsKey] at t0 t1
  have hc' : (Value.agg arr).cells.toList = arr.toList := rfl
  rw [hc'] at t0 t1
  obtain ⟨z, hz, hz1, hz2⟩ := open_32 Try.underlying24 cellsKey t0
  obtain ⟨z', hz', hz1', hz2'⟩ := open_32 Try.underlying24 cellsKey t1
  refine ⟨z, z', ?_, ⟨hz1, hz2⟩, hz1', hz2'⟩
  have : arr = (arr.toList).toArray := by simp
  rw [this, ← hz, ← hz']
  congr 1
  have e5 : arr.toList.drop (1 * 32) = (arr.toList.drop (1 * 32)).take 32 := (List.take_of_length_le (by rw [List.length_drop]; omega)).symm
  rw [← e5, Nat.zero_mul, List.drop_zero, Nat.one_mul, List.take_append_drop]
end
end Go.Proofs.Ytpkkgmmcindfgaa

/-
  Of part Lives7: what is needed here.
-/
namespace Go.Proofs.Ytpkkgmmcindfgaa
open Go.RowKit
set_option linter.unusedVariables false
set_option maxRecDepth 100000
def xq (a : Int) : List Int := a :: List.replicate 31 0
end Go.Proofs.Ytpkkgmmcindfgaa

/-
  Of part With8: what is needed here.
-/
namespace Go.Proofs.Ytpkkgmmcindfgaa
open Go.RowKit
set_option linter.unusedVariables false
set_option maxRecDepth 100000
/-- the keys of such a message; its instructions -/
def keys8 : List (List Int) := [xq 7, k3, xq 8]
def m8 (ins : List LIn) : LMsg := ⟨false, 0, 0, 0, keys8, List.replicate 32 0, ins, []⟩
def q8 (g : Nat) (A : Option Addr) (n c : Nat) : Raw := ⟨some ⟨g, 0, none⟩, 3, 3, A, n, c, none, 0, 0⟩
def z39 : List Value := (q8 0 none 0 0).cells (m8 []) |>.set 4 (.slice none 0 0)
end Go.Proofs.Ytpkkgmmcindfgaa

/-
  Of part PlayMem12: what is needed here.
-/
namespace Go.Proofs.Ytpkkgmmcindfgaa
open Go.RowKit
set_option linter.unusedVariables false
set_option maxRecDepth 100000
theorem row_ne12 {V : World} {g g' t t' : Nat} {xs ys : List Value} (h : Row V g t xs) (h' : Row V g' t' ys) (hne : t ≠ t') : g ≠ g' := by
  rintro rfl
  have := h.is.symm.trans h'.is
  injection this with this
  injection this with _ this
  exact hne this
end Go.Proofs.Ytpkkgmmcindfgaa

/-
  Of part PlayMem13: what is needed here.
-/
namespace Go.Proofs.Ytpkkgmmcindfgaa
open Go.RowKit
set_option linter.unusedVariables false
set_option maxRecDepth 100000
/-- a book's pages have been laid: what else there was lies there still -/
theorem Bk.below13 {w0 w w' : World} {p base : Nat} {ks : List (Sl × Kd)} (h : Bk w0 p base ks w) (hb : Below w.heap.size w w') : Bk w0 p base ks w' := by
  obtain ⟨P, A, c, h1, h2, h3⟩ := h
  exact ⟨P, A, c, h1, h2, h3.below hb⟩
theorem Bk.store {w0 w : World} {p base sb mb : Nat} {ks : List (Sl × Kd)} {L : List LHold} (h : Bk w0 p base ks w) (hs : StIn w0 sb mb L) (hp : sb ≠ p ∧ mb ≠ p) : StIn w sb mb L := by
  obtain ⟨P, A, c, h1, h2, h3⟩ := h
  have hr := hs.row
  obtain ⟨es, cl, hm⟩ := hs.heap
  refine hs.keep (h3.keep sb hs.lt.1 hp.1 fun ys fr e => ?_) (h3.keep mb hs.lt.2 hp.2 fun ys fr e => ?_)
  · rw [hr.is] at e
    injection e with e
    injection e with _ e
    exact absurd e (by decide)
  · rw [hm] at e
    cases e
theorem Bk.ref {w0 w : World} {p base pb base' : Nat} {v : Value} {ks : List (Sl × Kd)} {L : List LHold} (h : Bk w0 p base ks w) (hs : RS13 w0 pb base' v L) (hp : pb ≠ p) (hv : ∀ g, v.ownBlock = some g → g ≠ p) : RS13 w pb base' v L := by
  have h' := h
  obtain ⟨P, A, c, h1, h2, h3⟩ := h
  refine ⟨h'.row hs.row hp (by decide), own_keep hs.own fun g hg => h3.keep g (hs.own.lt g hg).2 (hv g hg) fun ys fr e => ?_, hs.sto⟩
  obtain ⟨cur, hc⟩ := own_is hs.own hg
  rw [hc] at e
  injection e with e
  injection e with _ e
  exact absurd e (by decide)
theorem Bk.at13 {V : World} {p : Nat} (hr : Row V p 50 [.slice none 0 0]) : Bk V p p [] V :=
  ⟨[], none, 0, rfl, by simp, ⟨hr, World.ownsRow_nil _ _ _ _, ButOne.refl _ _ _, Nat.le_of_lt hr.lt, fun _ _ _ _ => rfl⟩⟩
theorem Bk.own13 {w0 w : World} {p base base' size n : Nat} {e : TypeId} {v : Value} {xs : List Value} {ks : List (Sl × Kd)} (h : Bk w0 p base ks w) (hs : w0.ownsRow base' e size v n xs) (he : e ≠ 79) (hv : ∀ g, v.ownBlock = some g → g ≠ p) : w.ownsRow base' e size v n xs := by
  obtain ⟨P, A, c, h1, h2, h3⟩ := h
  refine own_keep hs fun g hg => h3.keep g (hs.lt g hg).2 (hv g hg) fun ys fr e' => ?_
  obtain ⟨cur, hc⟩ := own_is hs hg
  rw [hc] at e'
  injection e' with e'
  injection e' with _ e'
  exact he e'
theorem Bk.bel13 {w0 w : World} {p base B : Nat} {ks : List (Sl × Kd)} (h : Bk w0 p base ks w) (hB : B ≤ base ∧ B ≤ p ∧ B ≤ w0.heap.size) : Below B w0 w := by
  have ho := h.one
  exact ⟨ho.os, ho.tape, ho.output, ho.size, fun k hk => ho.block k (by omega) (by omega)⟩
theorem OL13.row_ne {w : World} {base g t : Nat} {v : Value} {L : List LHold} {ys : List Value} (h : OL13 w base v L) (hr : Row w g t ys) (hne : 60 ≠ t) (e : v.ownBlock = some g) : False := by
  obtain ⟨cur, hc⟩ := h.cells g e
  rw [hr.is] at hc
  injection hc with hc
  injection hc with _ hc
  exact hne hc.symm
theorem Bk.ol13 {w0 w : World} {p base base' : Nat} {v : Value} {L : List LHold} {ks : List (Sl × Kd)} (h : Bk w0 p base ks w) (hs : OL13 w0 base' v L) (hv : ∀ g, v.ownBlock = some g → g ≠ p) : OL13 w base' v L := by
  obtain ⟨A, c, c', rfl, h1, h2, h3⟩ := hs.is
  exact ⟨A, c, c', rfl, h1, h2, h.own13 h3 (by decide) fun g hg => hv g ((own_blk A _ c c').trans hg)⟩
theorem ol_sl {w : World} {base : Nat} {v : Value} {L : List LHold} (h : OL13 w base v L) : ∃ x : Sl, v = x.val := by
  obtain ⟨A, c, c', rfl, h1, h2, h3⟩ := h.is
  rcases h3.2 with ⟨e, h0⟩ | ⟨g, cap, cur, e, _⟩
  · injection e with e _ _
    subst e
    exact ⟨⟨none, L.length, c⟩, rfl⟩
  · injection e with e _ _
    subst e
    exact ⟨⟨some g, L.length, c⟩, rfl⟩
/-- a list of the call's own as a page -/
theorem ol_fit13 {w : World} {base : Nat} {x : Sl} {L : List LHold} (h : OL13 w base x.val L) : SlFit w (x, Kd.ho) := by
  obtain ⟨A, c, c', e, h1, h2, h3⟩ := h.is
  obtain ⟨xA, n, xc⟩ := x
  unfold Sl.val at e
  injection e with e1 e2 e3
  have e2 : n = L.length := e2
  have e3 : xc = c := e3
  subst e2 e3
  rw [← e1] at h3
  rcases h3.2 with ⟨e, h0⟩ | ⟨g, cap, cur, e, hg, hh, r1, r2, r3, r4⟩
  · injection e with ea _ ec
    have ec : c' = 0 := ec
    cases xA with
    | none => exact ⟨h0, by show xc = 0; omega⟩
    | some g => cases ea
  · injection e with ea _ ec
    have ec : c' = cap := ec
    cases xA with
    | none => cases ea
    | some g' =>
      injection ea with ea
      injection ea with ea
      have ea : g' = g := ea
      subst ea ec
      unfold maxLen at r2
      refine ⟨h1, Nat.le_trans h2 (by omega), cur.toList, ⟨hh⟩, ?_, fun h => ?_⟩
      · show xc * 66 ≤ cur.toList.length
        rw [Array.length_toList, r3]
        exact Nat.mul_le_mul_right _ h2
      · have h : (66 : Nat) = 64 := h
        omega
/-- a book whose pages lie apart, fitting where it is asked -/
theorem apartAt (p base : Nat) (ks : List (Sl × Kd)) (w0 w : World) (h : Bk w0 p base ks w) (hf : ∀ y ∈ ks, SlFit w y) (hd : (blocks ks).Pairwise (· ≠ ·)) :
    Calls Try.prog 23 #[.pointer (some ⟨p, 0, none⟩)] w fun e w' => e = .returned (.bool true) ∧ OnlyIn (blocks ks) w w' := by
  obtain ⟨P, A, c, h1, h2, h3⟩ := h
  by_cases hn : P.length ≤ 120
  · have hmem : ∀ q ∈ P, q.key ∈ ks := fun q hq => by rw [← h1]; exact List.mem_map.2 ⟨q, hq, rfl⟩
    have hbl : ∀ q ∈ P, ∀ g, q.A = some g → g ∈ blocks ks := fun q hq g hg => List.mem_filterMap.2 ⟨q.key, hmem q hq, hg⟩
    have hfit : ∀ q ∈ P, q.Fit w False False := by
      intro q hq
      have hy := hf _ (hmem q hq)
      have hl := hbl q hq
      obtain ⟨A', n', c', s'⟩ := q
      cases A' with
      | none => exact hy
      | some g =>
        obtain ⟨e1, e2, xs, hr, he, hek⟩ := hy
        have hr' : Row w g (ety s'.isK) xs := hr
        have hes : esz s'.isK = s'.sz := by cases s' <;> rfl
        have het : ety s'.isK = s'.et := by cases s' <;> rfl
        rw [het] at hr'
        rw [show (Pg2.key ⟨some g, n', c', s'⟩).2 = s'.isK from rfl, hes] at he hek
        have he' : c' * s'.sz ≤ xs.length := he
        have hek' : s'.sz = 64 → xs.length = c' * s'.sz := hek
        have e1' : n' ≤ c' := e1
        have hle : n' * s'.sz ≤ c' * s'.sz := Nat.mul_le_mul_right _ e1'
        have hsum : c' * s'.sz = n' * s'.sz + (c' - n') * s'.sz := by rw [← Nat.add_mul]; congr 1; omega
        refine ⟨e1, e2, xs.take (n' * s'.sz), (xs.drop (n' * s'.sz)).take ((c' - n') * s'.sz), (xs.drop (n' * s'.sz)).drop ((c' - n') * s'.sz), by rwa [List.take_append_drop, List.take_append_drop], ?_, ?_, ?_, fun x => x.elim, fun x => x.elim⟩
        · show (xs.take (n' * s'.sz)).length = n' * s'.sz
          rw [List.length_take]
          exact Nat.min_eq_left (by omega)
        · show ((xs.drop (n' * s'.sz)).take ((c' - n') * s'.sz)).length = (c' - n') * s'.sz
          rw [List.length_take, List.length_drop]
          exact Nat.min_eq_left (by omega)
        · intro hz
          have := hek' hz
          exact List.drop_of_length_le (by rw [List.length_drop]; omega)
    refine (apart p base A c P w ⟨h3.row, h3.own, fun i hi => ?_⟩ ?_ h2 hn).mono ?_
    · have := hfit P[i] (List.getElem_mem hi)
      simpa using this
    · have hd' : (P.filterMap fun q => q.A).Pairwise (· ≠ ·) := by
        have : blocks ks = P.filterMap fun q => q.A := by
          rw [← h1]
          unfold blocks
          rw [List.filterMap_map]
          rfl
        rw [← this]
        exact hd
      intro i j hi hj g e e'
      rcases Nat.lt_trichotomy i j with hij | hij | hij
      · exact absurd rfl (pair_rel hd' hij hi hj e e')
      · exact hij
      · exact absurd rfl (pair_rel hd' hij hj hi e' e)
    · rintro e w' ⟨rfl, ht⟩
      exact ⟨rfl, ht.os, ht.tape, ht.output, ht.size, fun k hk hn => ht.block k hk fun q hq e => hn (hbl q hq k e)⟩
  · refine (apart_many p A P.length c w h3.row (by omega)).mono ?_
    rintro e w' ⟨rfl, rfl⟩
    exact ⟨rfl, rfl, rfl, rfl, Nat.le_refl _, fun _ _ _ => rfl⟩
/-- a store with L, its reference with L1; another one with M, its reference with M1 -/
structure PS13 (w V : World) (sb mb pb : Nat) (v : Value) (cb db qb : Nat) (u : Value) (ga : Nat) (ask : List Int) (L L1 M M1 : List LHold) : Prop where
  b : Below w.heap.size w V
  s : StIn V sb mb L
  m : RS13 V pb w.heap.size v L1
  c : StIn V cb db M
  d : RS13 V qb w.heap.size u M1
  a : Row V ga 24 (bv ask)
  lo : w.heap.size ≤ mb ∧ w.heap.size ≤ pb ∧ w.heap.size ≤ db ∧ w.heap.size ≤ qb
  ne : sb ≠ db ∧ cb ≠ mb ∧ mb ≠ db ∧ pb ≠ qb ∧ sb ≠ pb ∧ sb ≠ qb ∧ cb ≠ pb ∧ cb ≠ qb
section
variable {w V V' V1 : World} {sb mb pb cb db qb ga : Nat} {v v' u u' : Value} {ask : List Int} {L L' L1 L1' M M' M1 M1' : List LHold}
theorem PS13.below (h : PS13 w V sb mb pb v cb db qb u ga ask L L1 M M1) (hb : Below V.heap.size V V') : PS13 w V' sb mb pb v cb db qb u ga ask L L1 M M1 :=
  ⟨h.b.trans (hb.mono h.b.size), h.s.below hb, h.m.below hb, h.c.below hb, h.d.below hb, h.a.below hb h.a.lt, h.lo, h.ne⟩
theorem RS13.far {w w' : World} {pb base g : Nat} {v : Value} {L : List LHold} (h : RS13 w pb base v L) (hg : w.grownBy w' (some g)) (h1 : pb ≠ g) (h2 : ∀ k, v.ownBlock = some k → k ≠ g) : RS13 w' pb base v L :=
  ⟨⟨(hg.block pb h.row.lt fun e => h1 (Option.some.inj e)).trans h.row.is⟩, own_keep h.own fun k hk => hg.block k (h.own.lt k hk).2 fun e => h2 k hk (Option.some.inj e), h.sto⟩
theorem StIn.far13b {V V' : World} {sb mb nb : Nat} {L : List LHold} (h : StIn V sb mb L) (hg : V.grownBy V' (some nb)) (h1 : sb ≠ nb) (h2 : mb ≠ nb) : StIn V' sb mb L :=
  h.keep (hg.block sb h.lt.1 fun e => h1 (Option.some.inj e)) (hg.block mb h.lt.2 fun e => h2 (Option.some.inj e))
theorem ref_row {V : World} {pb g base t : Nat} {v : Value} {L : List LHold} {xs : List Value} (h : RS13 V pb base v L) (hr : Row V g t xs) (ht : t ≠ 31) : g ≠ pb := row_ne12 hr h.row ht
theorem ref_own {V : World} {pb qb base base' : Nat} {v u : Value} {L M : List LHold} (h : RS13 V pb base v L) (h' : RS13 V qb base' u M) : ∀ k, u.ownBlock = some k → k ≠ pb := fun k hk e => by
  subst e
  exact own_row_neN h'.own h.row (by decide) hk.symm
/-- into the store -/
theorem PS13.putS (h : PS13 w V sb mb pb v cb db qb u ga ask L L1 M M1) (hs : StIn V' sb mb L') (hg : V.grownBy V' (some mb)) : PS13 w V' sb mb pb v cb db qb u ga ask L' L1 M M1 :=
  ⟨h.b.grown hg h.b.size (fun k hk => by cases hk; exact h.lo.1), hs, h.m.far hg (h.s.row_ne h.m.row) (h.s.own_ne h.m.own), h.c.far13b hg h.ne.2.1 (Ne.symm h.ne.2.2.1), h.d.far hg (h.s.row_ne h.d.row) (h.s.own_ne h.d.own), h.a.grown hg (fun e => h.s.row_ne h.a (Option.some.inj e)), h.lo, h.ne⟩
/-- into its reference -/
theorem PS13.putM (h : PS13 w V sb mb pb v cb db qb u ga ask L L1 M M1) (hm : RS13 V' pb w.heap.size v' L1') (hg : V.grownBy V' (some pb)) : PS13 w V' sb mb pb v' cb db qb u ga ask L L1' M M1 :=
  ⟨h.b.grown hg h.b.size (fun k hk => by cases hk; exact h.lo.2.1), h.s.far13b hg h.ne.2.2.2.2.1 (Ne.symm (h.s.row_ne h.m.row)), hm, h.c.far13b hg h.ne.2.2.2.2.2.2.1 (Ne.symm (h.c.row_ne h.m.row)), h.d.far hg (Ne.symm h.ne.2.2.2.1) (ref_own h.m h.d), h.a.grown hg (fun e => ref_row h.m h.a (by decide) (Option.some.inj e)), h.lo, h.ne⟩
/-- into the other store -/
theorem PS13.putC (h : PS13 w V sb mb pb v cb db qb u ga ask L L1 M M1) (hs : StIn V' cb db M') (hg : V.grownBy V' (some db)) : PS13 w V' sb mb pb v cb db qb u ga ask L L1 M' M1 :=
  ⟨h.b.grown hg h.b.size (fun k hk => by cases hk; exact h.lo.2.2.1), h.s.far13b hg h.ne.1 h.ne.2.2.1, h.m.far hg (h.c.row_ne h.m.row) (h.c.own_ne h.m.own), hs, h.d.far hg (h.c.row_ne h.d.row) (h.c.own_ne h.d.own), h.a.grown hg (fun e => h.c.row_ne h.a (Option.some.inj e)), h.lo, h.ne⟩
/-- into its reference -/
theorem PS13.putD (h : PS13 w V sb mb pb v cb db qb u ga ask L L1 M M1) (hm : RS13 V' qb w.heap.size u' M1') (hg : V.grownBy V' (some qb)) : PS13 w V' sb mb pb v cb db qb u' ga ask L L1 M M1' :=
  ⟨h.b.grown hg h.b.size (fun k hk => by cases hk; exact h.lo.2.2.2), h.s.far13b hg h.ne.2.2.2.2.2.1 (Ne.symm (h.s.row_ne h.d.row)), h.m.far hg h.ne.2.2.2.1 (ref_own h.d h.m), h.c.far13b hg h.ne.2.2.2.2.2.2.2 (Ne.symm (h.c.row_ne h.d.row)), hm, h.a.grown hg (fun e => ref_row h.d h.a (by decide) (Option.some.inj e)), h.lo, h.ne⟩
/-- the store is copied -/
theorem PS13.copyS {cb' db' : Nat} (h : PS13 w V sb mb pb v cb db qb u ga ask L L1 M M1) (hs : StIn V' cb' db' L) (hc : V.heap.size ≤ cb') (hd : V.heap.size ≤ db') (hb : Below V.heap.size V V') : PS13 w V' sb mb pb v cb' db' qb u ga ask L L1 L M1 := by
  have h1 := h.below hb
  have l1 := h.s.lt
  have l2 := h.m.row.lt
  have l3 := h.d.row.lt
  have l4 := h.b.size
  exact ⟨h1.b, h1.s, h1.m, hs, h1.d, h1.a, ⟨h.lo.1, h.lo.2.1, by omega, h.lo.2.2.2⟩, ⟨by omega, by omega, by omega, h.ne.2.2.2.1, h.ne.2.2.2.2.1, h.ne.2.2.2.2.2.1, by omega, by omega⟩⟩
/-- its reference is copied -/
theorem PS13.copyM {qb' : Nat} (h : PS13 w V sb mb pb v cb db qb u ga ask L L1 M M1) (hm : RS13 V' qb' w.heap.size u' L1) (hq : V.heap.size ≤ qb') (hb : Below V.heap.size V V') : PS13 w V' sb mb pb v cb db qb' u' ga ask L L1 M L1 := by
  have h1 := h.below hb
  have l1 := h.s.lt
  have l2 := h.m.row.lt
  have l3 := h.c.lt
  have l4 := h.b.size
  exact ⟨h1.b, h1.s, h1.m, h1.c, hm, h1.a, ⟨h.lo.1, h.lo.2.1, h.lo.2.2.1, by omega⟩, ⟨h.ne.1, h.ne.2.1, h.ne.2.2.1, by omega, h.ne.2.2.2.2.1, by omega, h.ne.2.2.2.2.2.2.1, by omega⟩⟩
end
end Go.Proofs.Ytpkkgmmcindfgaa
