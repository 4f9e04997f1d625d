/-
  Parts joined: NoneWalk12.
-/
import Derived.Lib.Hide
import Derived.Below
import Derived.Laws.OwnMore
import Derived.Deep.AppendLies
import Derived.Deep.Draws
import Derived.Laws.MakeOwn
import Derived.Laws.CopyOwn
import Derived.Laws.Rows
import Derived.Laws.BitsAllLaws
import Derived.WalkKit
import Derived.Test.YtigmaehlplldgaaRows
import Derived.WalkSpells
import Derived.WalkLawsBesides
import Derived.IntWalk
import Derived.Deep.MidRow
import Derived.Deep.WholeRow
import Derived.Maps.AppendAt
import Derived.OwnWalk
import Derived.Great.BuildSlice
import Derived.Recover
import Derived.Deep.RegionHeld
import Derived.Deep.QuietTactic
import Derived.BigQuiet
import Derived.ChangeKeysEq
import Derived.ProofKit
import Derived.OpenShut
import Derived.ShutString
import Derived.ChangeOld
import Derived.Lib.SmallJoins
import Derived.Deep.Slices
import Derived.Deep.Strs
import Derived.SizedLaws
import Derived.Deep.RegionHeld2
import Derived.Deep.CutBlock
import Derived.Laws.Tables
import Derived.Laws.Slices
import Derived.WalkMore
import Derived.Laws.StructEq
import Derived.Deep.DeepCutAuto
import Derived.Laws.EntriesVeiled
import Derived.Deep.RegionHeld3
import Derived.Maps.OwnSet
import Derived.DeepKeys4
import Derived.WideKeyArr
import Derived.WideKeyEntry
import Derived.Shelf.SlMaps.Clone
import Derived.LaidMore
import Derived.Laws.Append
import Derived.Laws.AppendOwn
import Derived.Test.YtigmaehlplldgaaA1
import Derived.Test.YtigmaehlplldgaaA2
/-
  Of part NoneWalk12: what is needed here.
-/
namespace Go.Proofs.Ytigmaehlplldgaa
open Go.RowKit
set_option linter.unusedVariables false
set_option maxRecDepth 100000
/-- no queue: none at all, or one that no call made -/
def NoQ (V : World) (v : Value) : Prop := v = .pointer none ∨ ∃ rb, v = .pointer (some ⟨rb, 0, none⟩) ∧ V.cell? ⟨rb, 4802, none⟩ = some (.bool false)
theorem NoQ.below {V V' : World} {v : Value} (h : NoQ V v) (hb : Below V.heap.size V V') : NoQ V' v := by
  rcases h with h | ⟨rb, h1, h2⟩
  · exact .inl h
  · exact .inr ⟨rb, h1, (hb.cell (World.block_lt_of_cell? V _ h2)).trans h2⟩
theorem push_nq (v : Value) (h : List Int) (V : World) (hv : NoQ V v) : Calls Try.prog 9 #[v, .agg (bv h).toArray] V fun e w' => e = .returned (.tuple #[.agg (bv zero12).toArray, .bool false, .int .i64 2]) ∧ Below V.heap.size V w' := by
  rcases hv with rfl | ⟨rb, rfl, hc⟩
  · exact push_no h V
  · exact push_not rb h V hc
theorem age_nq (v : Value) (h : List Int) (V : World) (hv : NoQ V v) : Calls Try.prog 13 #[v, .agg (bv h).toArray] V fun e w' => e = .returned (.tuple #[.int .i64 0, .bool false]) ∧ Below V.heap.size V w' := by
  rcases hv with rfl | ⟨rb, rfl, hc⟩
  · exact age_no (bv h) V
  · exact age_not rb (bv h) V hc
theorem len_nq (v : Value) (V : World) (hv : NoQ V v) : Calls Try.prog 12 #[v] V fun e w' => e = .returned (.int .i64 0) ∧ V = w' := by
  rcases hv with rfl | ⟨rb, rfl, hc⟩
  · go_enter Try.func12, Try.ntmps12
    go_wp2_with fail
    refine (thereQ_no _).mono ?_
    rintro e w' ⟨rfl, rfl⟩
    go_wp2_with fail
    go_ret
    exact ⟨rfl, rfl⟩
  · have HT := Lib.hid (thereQ_ rb false V hc)
    clear hc
    go_enter Try.func12, Try.ntmps12
    go_wp2_with fail
    refine HT.out.mono ?_
    rintro e w' ⟨rfl, rfl⟩
    go_wp2_with fail
    go_ret
    exact ⟨rfl, rfl⟩
theorem copy_nq (v : Value) (V : World) (hv : NoQ V v) : Calls Try.prog 8 #[v] V fun e w' => e = .returned (.pointer none) ∧ V = w' := by
  rcases hv with rfl | ⟨rb, rfl, hc⟩
  · go_enter Try.func8, Try.ntmps8
    go_wp2_with fail
    refine (thereQ_no _).mono ?_
    rintro e w' ⟨rfl, rfl⟩
    go_wp2_with fail
    go_ret
    exact ⟨rfl, rfl⟩
  · have HT := Lib.hid (thereQ_ rb false V hc)
    clear hc
    go_enter Try.func8, Try.ntmps8
    go_wp2_with fail
    refine HT.out.mono ?_
    rintro e w' ⟨rfl, rfl⟩
    go_wp2_with fail
    go_ret
    exact ⟨rfl, rfl⟩
/-- what stays while the call works -/
structure NS (w V : World) (gs g : Nat) (h : List Int) (v1 : Value) : Prop where
  b : Below w.heap.size w V
  row : Row V gs 27 [.pointer none, v1]
  hr : Row V g 25 (bv h)
  nq : NoQ V v1
theorem NS.below {w V V' : World} {gs g : Nat} {h : List Int} {v1 : Value} (n : NS w V gs g h v1) (hb : Below V.heap.size V V') : NS w V' gs g h v1 :=
  ⟨n.b.trans (hb.mono n.b.size), n.row.below hb n.row.lt, n.hr.below hb n.hr.lt, n.nq.below hb⟩
theorem NS.at_ {w : World} {gs g k : Nat} {h : List Int} {v1 : Value} (hk : k < 2) : ∃ v, ∀ V, NS w V gs g h v1 → V.cell? ⟨gs, k, none⟩ = some v ∧ NoQ V v := by
  match k, hk with
  | 0, _ => exact ⟨_, fun V n => ⟨n.row.cell 0, .inl rfl⟩⟩
  | 1, _ => exact ⟨_, fun V n => ⟨n.row.cell 1, n.nq⟩⟩
/-- what is written lies above -/
theorem NS.tk {w V V' : World} {gs g B : Nat} {h : List Int} {v1 : Value} (n : NS w V gs g h v1) (hb : Below B V V') (hs : w.heap.size ≤ B ∧ gs < B ∧ g < B ∧ ∀ rb, v1 = .pointer (some ⟨rb, 0, none⟩) → rb < B) : NS w V' gs g h v1 :=
  ⟨n.b.trans (hb.mono hs.1), n.row.below hb hs.2.1, n.hr.below hb hs.2.2.1, by
    rcases n.nq with e | ⟨rb, h1, h2⟩
    · exact .inl e
    · exact .inr ⟨rb, h1, (hb.cell (hs.2.2.2 rb h1)).trans h2⟩⟩
theorem NS.sz {w V : World} {gs g : Nat} {h : List Int} {v1 : Value} (n : NS w V gs g h v1) : w.heap.size ≤ V.heap.size ∧ gs < V.heap.size ∧ g < V.heap.size ∧ ∀ rb, v1 = .pointer (some ⟨rb, 0, none⟩) → rb < V.heap.size :=
  ⟨n.b.size, n.row.lt, n.hr.lt, fun rb e => by
    rcases n.nq with e' | ⟨rb', h1, h2⟩
    · rw [e'] at e; cases e
    · rw [h1] at e
      cases e
      exact World.block_lt_of_cell? V _ h2⟩
set_option maxHeartbeats 8000000 in
theorem none_walk12 (h : List Int) (w : World) (hl : h.length = 32) : Calls Try.prog 4 #[.agg (bv h).toArray] w fun e w' => e = .returned (.bool true) ∧ Below w.heap.size w w' := by
  have HZS := Lib.hid (size_hash' zero12_len)
  have HSZ := Lib.hid (size_hash' hl)
  have NZ : ∀ w, (binOp .neq 25 (.agg (bv zero12).toArray) (.agg (bv zero12).toArray)).run Try.prog w = .ok (.bool false) w := fun w => by rw [hash_neq zero12_len zero12_len, decide_eq_true rfl]; rfl
  have HNZ := Lib.hid NZ
  clear NZ
  have hr0 := Row.new w 25 (bv h)
  have r1 := (hr0.alloc (.cells (qcells noughts12 0 0 false).toArray 43)).alloc (.cells ([.pointer none, .pointer (some ⟨w.heap.size + 1, 0, none⟩)] : List Value).toArray 27)
  have r2 := (Row.new' (w.alloc (.cells (bv h).toArray 25)) 43 (qcells noughts12 0 0 false) (g := w.heap.size + 1) (by simp)).alloc (.cells ([.pointer none, .pointer (some ⟨w.heap.size + 1, 0, none⟩)] : List Value).toArray 27)
  have r3 := Row.new' ((w.alloc (.cells (bv h).toArray 25)).alloc (.cells (qcells noughts12 0 0 false).toArray 43)) 27 [.pointer none, .pointer (some ⟨w.heap.size + 1, 0, none⟩)] (g := w.heap.size + 1 + 1) (by simp)
  have hbw := (((Below.refl w.heap.size w).alloc (Nat.le_refl _) (.cells (bv h).toArray 25)).alloc (by simp) (.cells (qcells noughts12 0 0 false).toArray 43)).alloc (by simp; omega) (.cells ([.pointer none, .pointer (some ⟨w.heap.size + 1, 0, none⟩)] : List Value).toArray 27)
  have hns : NS w _ (w.heap.size + 1 + 1) w.heap.size h (.pointer (some ⟨w.heap.size + 1, 0, none⟩)) := ⟨hbw, r3, r1, .inr ⟨_, rfl, (r2.cell 4802).trans (qcells_md ring_new.len ring_new.h32)⟩⟩
  have N0 := Lib.hid hns
  clear hr0 r1 r2 r3 hbw hns
  go_enter Try.func4, Try.ntmps4
  go_upto_region 3 with (first
    | ((with_reducible show wpList _ _ _ ({ dst := some 10, op := Op.build _ _, type := _, pos := _, after := _, guard := _ } :: _) _ _); go_must (refine wpList_plain rfl fun K hK => wp_built _ _ _ rfl (by simp only [List.map_toArray, List.map_nil]; exact built_q0) (hK _ _ ?_)))
    | ((with_reducible show wpList _ _ _ ({ dst := some 11, op := Op.box _ _, type := _, pos := _, after := _, guard := _ } :: _) _ _); go_must (refine wpList_box_new rfl 43 (.tmp 10) rfl (qcells noughts12 0 0 false) ?_ ?_; go_simp)))
  generalize hW : ((w.alloc (.cells (bv h).toArray 25)).alloc (.cells (qcells noughts12 0 0 false).toArray 43)).alloc (.cells ([.pointer none, .pointer (some ⟨w.heap.size + 1, 0, none⟩)] : List Value).toArray 27) = W at *
  generalize hv1 : Value.pointer (some ⟨w.heap.size + 1, 0, none⟩) = v1 at *
  generalize hgs : w.heap.size + 1 + 1 = gs at *
  clear hW hv1 hgs
  obtain ⟨g, hg⟩ : ∃ g, g = w.heap.size := ⟨_, rfl⟩
  have N1 : Hid (NS w W gs g h v1) := Lib.hid (by rw [hg]; exact N0.out)
  rw [← hg]
  clear hg N0
  go_loopw [4] (fun i wr => ∃ k : Nat, k ≤ 2 ∧ i = .int .i64 k ∧ NS w wr gs g h v1) (fun i _ => 2 - (intOf i).toNat)
  case atStart => exact ⟨0, by omega, rfl, N1.out⟩
  case round =>
    obtain ⟨k, hk, rfl, hn⟩ := hrel
    have N2 := Lib.hid hn
    clear hn N1
    by_cases hlt : k < 2
    · have hlt' : (k : Int) < 2 := by omega
      obtain ⟨v, hv⟩ := NS.at_ (w := w) (gs := gs) (g := g) (h := h) (v1 := v1) hlt
      have HV := Lib.hid hv
      clear hv
      go_upto_region 5 with fail
      go_cut [5, 6, 7] (fun s5 s6 s7 wx => ∃ f, s5 = .pointer (some ⟨f, 0, none⟩) ∧ s6 = .bool false ∧ s7 = .int .i64 2 ∧ NS w wx gs g h v1 ∧ Row wx f 25 (bv zero12))
      case first =>
        have ND0 := Lib.hid (N2.out.below (Below.refl _ _).drew)
        refine wp_region_held_drew (S := (fun V => NS w V gs g h v1)) (by kernel_rfl) ND0.out (fun _ => ?_)
        obtain ⟨U0, hU0⟩ : ∃ U, U = wr.drew := ⟨_, rfl⟩
        rw [← hU0] at ND0 ⊢
        clear hU0
        refine takeL (i := 0) (v := ?_) rfl (by kernel_rfl) (by kernel_rfl) (by kernel_rfl) (fun _ _ _ h => h) (Or.inl ⟨by rfl, ?_⟩) ND0.out ?_
        rotate_left
        · intro w hw
          try dsimp only at hw
          have hc := (HV.out _ hw).1
          go_simp
          try with_reducible rfl
        try simp only [Act.put, List.setIfInBounds_toArray, List.set_cons_zero, List.set_cons_succ]
        refine takeL (i := 1) (v := ?_) rfl (by kernel_rfl) (by kernel_rfl) (by kernel_rfl) (fun _ _ _ h => h) (Or.inl ⟨by rfl, ?_⟩) ND0.out ?_
        rotate_left
        · intro w hw
          try dsimp only at hw
          have hc := (HV.out _ hw).1
          go_simp
          try with_reducible rfl
        try simp only [Act.put, List.setIfInBounds_toArray, List.set_cons_zero, List.set_cons_succ]
        refine takeL (i := 2) (v := ?_) rfl (by kernel_rfl) (by kernel_rfl) (by kernel_rfl) (fun _ _ _ h => h) (Or.inl ⟨by rfl, ?_⟩) ND0.out ?_
        rotate_left
        · intro w hw
          try dsimp only at hw
          have hc := (HV.out _ hw).1
          go_simp
          try with_reducible rfl
        try simp only [Act.put, List.setIfInBounds_toArray, List.set_cons_zero, List.set_cons_succ]
        refine takeL (i := 3) (v := ?_) rfl (by kernel_rfl) (by kernel_rfl) (by kernel_rfl) (fun _ _ _ h => h) (Or.inl ⟨by rfl, ?_⟩) ND0.out ?_
        rotate_left
        · intro w hw
          try dsimp only at hw
          have hc := (HV.out _ hw).1
          go_simp
          try with_reducible rfl
        try simp only [Act.put, List.setIfInBounds_toArray, List.set_cons_zero, List.set_cons_succ]
        refine takeL (i := 4) (v := .agg (bv h).toArray) rfl (by kernel_rfl) (by kernel_rfl) (by kernel_rfl) (fun _ _ _ h => h) (Or.inl ⟨by rfl, fun wz hwz => exec_load_at wz 25 (.tmp 1) rfl ⟨g, 0, none⟩ (bv h) _ Try.underlying25 rfl HSZ.out (fun j u hu => by rw [addr_row, Nat.zero_add]; exact (hwz.hr.cell j).trans hu) (by go_simp)⟩) ND0.out ?_
        try simp only [Act.put, List.setIfInBounds_toArray, List.set_cons_zero, List.set_cons_succ]
        refine readyL2 (i := 5) (j := 10) rfl rfl (by kernel_rfl) (by kernel_rfl) (by kernel_rfl) (fun K hK => ?_) (fun K hK => ?_)
        · go_simp
          refine (push_nq v h _ (HV.out _ ND0.out).2).mono ?_
          rintro e U1 ⟨rfl, hb⟩
          have NM1 := Lib.hid (ND0.out.below hb)
          clear hb
          refine hK.out _ _ NM1.out ?_
          clear hK K
          try simp only [Act.put, List.setIfInBounds_toArray, List.set_cons_zero, List.set_cons_succ]
          refine takeL (i := 6) (v := ?_) rfl (by kernel_rfl) (by kernel_rfl) (by kernel_rfl) (fun _ _ _ h => h) (Or.inl ⟨by rfl, ?_⟩) NM1.out ?_
          rotate_left
          · intro w hw
            try dsimp only at hw
            have hc := (HV.out _ hw).1
            go_simp
            try with_reducible rfl
          try simp only [Act.put, List.setIfInBounds_toArray, List.set_cons_zero, List.set_cons_succ]
          refine takeL (i := 7) (v := ?_) rfl (by kernel_rfl) (by kernel_rfl) (by kernel_rfl) (fun _ _ _ h => h) (Or.inl ⟨by rfl, ?_⟩) NM1.out ?_
          rotate_left
          · intro w hw
            try dsimp only at hw
            have hc := (HV.out _ hw).1
            go_simp
            try with_reducible rfl
          try simp only [Act.put, List.setIfInBounds_toArray, List.set_cons_zero, List.set_cons_succ]
          refine takeL (i := 8) (v := ?_) rfl (by kernel_rfl) (by kernel_rfl) (by kernel_rfl) (fun _ _ _ h => h) (Or.inl ⟨by rfl, ?_⟩) NM1.out ?_
          rotate_left
          · intro w hw
            try dsimp only at hw
            have hc := (HV.out _ hw).1
            go_simp
            try with_reducible rfl
          try simp only [Act.put, List.setIfInBounds_toArray, List.set_cons_zero, List.set_cons_succ]
          refine takeL (i := 9) (v := ?_) rfl (by kernel_rfl) (by kernel_rfl) (by kernel_rfl) (fun _ _ _ h => h) (Or.inl ⟨by rfl, ?_⟩) NM1.out ?_
          rotate_left
          · intro w hw
            try dsimp only at hw
            have hc := (HV.out _ hw).1
            go_simp
            try with_reducible rfl
          try simp only [Act.put, List.setIfInBounds_toArray, List.set_cons_zero, List.set_cons_succ]
          refine readyL (i := 10) rfl (by kernel_rfl) (by kernel_rfl) fun K hK => ?_
          have NM2 := Lib.hid (NM1.out.below ((Below.refl _ _).alloc (Nat.le_refl _) (.cells (bv zero12).toArray 25)))
          have F2 := Lib.hid (Row.new U1 25 (bv zero12))
          have HS := Lib.hid (NS.sz NM1.out)
          refine wp_alloc_zero 25 rfl (bv zero12) zero_h ?_
          refine hK.out _ _ NM2.out ?_
          clear hK K
          try simp only [Act.put, List.setIfInBounds_toArray, List.set_cons_zero, List.set_cons_succ]
          refine readyL (i := 11) rfl (by kernel_rfl) (by kernel_rfl) fun K hK => ?_
          refine wp_store_part 25 (.tmp 5) (.tmp 26) rfl U1.heap.size 25 0 (bv zero12) (bv zero12) F2.out HZS.out (by show 0 + 32 ≤ 32; omega) (bv_one _) (by go_simp) (by go_simp) fun U4 hr1 ht1 => ?_
          have e0 : (bv zero12).take 0 ++ bv zero12 ++ (bv zero12).drop (0 + (bv zero12).length) = bv zero12 := by simp [zero12, bv, cv]
          rw [e0] at hr1
          clear e0
          have F4 := Lib.hid hr1
          have NM4 := Lib.hid (NM2.out.tk (ht1.below (Nat.le_refl _)) HS.out)
          clear ht1 hr1
          refine hK.out _ _ NM4.out ?_
          clear hK K
          try simp only [Act.put]
          refine takeL (i := 12) (v := ?_) rfl (by kernel_rfl) (by kernel_rfl) (by kernel_rfl) (fun _ _ _ h => h) (Or.inl ⟨by rfl, ?_⟩) NM4.out ?_
          rotate_left
          · intro w hw
            try dsimp only at hw
            have hc := (HV.out _ hw).1
            go_simp
            try with_reducible rfl
          try simp only [Act.put, List.setIfInBounds_toArray, List.set_cons_zero, List.set_cons_succ]
          refine takeL (i := 13) (v := ?_) rfl (by kernel_rfl) (by kernel_rfl) (by kernel_rfl) (fun _ _ _ h => h) (Or.inl ⟨by rfl, ?_⟩) NM4.out ?_
          rotate_left
          · intro w hw
            try dsimp only at hw
            have hc := (HV.out _ hw).1
            go_simp
            try with_reducible rfl
          try simp only [Act.put, List.setIfInBounds_toArray, List.set_cons_zero, List.set_cons_succ]
          refine wpAnyH_done (by kernel_rfl) ?_ _
          go_wp2_with fail
          go_meet
          exact ⟨_, rfl, rfl, rfl, NM4.out, F4.out⟩
        · have NM1 := Lib.hid (ND0.out.below ((Below.refl _ _).alloc (Nat.le_refl _) (.cells (bv zero12).toArray 25)))
          have F1 := Lib.hid (Row.new U0 25 (bv zero12))
          have HS := Lib.hid (NS.sz ND0.out)
          refine wp_alloc_zero 25 rfl (bv zero12) zero_h ?_
          refine hK.out _ _ NM1.out ?_
          clear hK K
          try simp only [Act.put, List.setIfInBounds_toArray, List.set_cons_zero, List.set_cons_succ]
          refine readyL (i := 5) rfl (by kernel_rfl) (by kernel_rfl) fun K hK => ?_
          go_simp
          refine (push_nq v h _ (HV.out _ NM1.out).2).mono ?_
          rintro e U2 ⟨rfl, hb⟩
          have NM2 := Lib.hid (NM1.out.below hb)
          have F2 := Lib.hid (F1.out.below hb F1.out.lt)
          clear hb
          refine hK.out _ _ NM2.out ?_
          clear hK K
          try simp only [Act.put, List.setIfInBounds_toArray, List.set_cons_zero, List.set_cons_succ]
          refine takeL (i := 6) (v := ?_) rfl (by kernel_rfl) (by kernel_rfl) (by kernel_rfl) (fun _ _ _ h => h) (Or.inl ⟨by rfl, ?_⟩) NM2.out ?_
          rotate_left
          · intro w hw
            try dsimp only at hw
            have hc := (HV.out _ hw).1
            go_simp
            try with_reducible rfl
          try simp only [Act.put, List.setIfInBounds_toArray, List.set_cons_zero, List.set_cons_succ]
          refine takeL (i := 7) (v := ?_) rfl (by kernel_rfl) (by kernel_rfl) (by kernel_rfl) (fun _ _ _ h => h) (Or.inl ⟨by rfl, ?_⟩) NM2.out ?_
          rotate_left
          · intro w hw
            try dsimp only at hw
            have hc := (HV.out _ hw).1
            go_simp
            try with_reducible rfl
          try simp only [Act.put, List.setIfInBounds_toArray, List.set_cons_zero, List.set_cons_succ]
          refine takeL (i := 8) (v := ?_) rfl (by kernel_rfl) (by kernel_rfl) (by kernel_rfl) (fun _ _ _ h => h) (Or.inl ⟨by rfl, ?_⟩) NM2.out ?_
          rotate_left
          · intro w hw
            try dsimp only at hw
            have hc := (HV.out _ hw).1
            go_simp
            try with_reducible rfl
          try simp only [Act.put, List.setIfInBounds_toArray, List.set_cons_zero, List.set_cons_succ]
          refine takeL (i := 9) (v := ?_) rfl (by kernel_rfl) (by kernel_rfl) (by kernel_rfl) (fun _ _ _ h => h) (Or.inl ⟨by rfl, ?_⟩) NM2.out ?_
          rotate_left
          · intro w hw
            try dsimp only at hw
            have hc := (HV.out _ hw).1
            go_simp
            try with_reducible rfl
          try simp only [Act.put, List.setIfInBounds_toArray, List.set_cons_zero, List.set_cons_succ]
          refine readyL (i := 11) rfl (by kernel_rfl) (by kernel_rfl) fun K hK => ?_
          refine wp_store_part 25 (.tmp 5) (.tmp 26) rfl U0.heap.size 25 0 (bv zero12) (bv zero12) F2.out HZS.out (by show 0 + 32 ≤ 32; omega) (bv_one _) (by go_simp) (by go_simp) fun U4 hr1 ht1 => ?_
          have e0 : (bv zero12).take 0 ++ bv zero12 ++ (bv zero12).drop (0 + (bv zero12).length) = bv zero12 := by simp [zero12, bv, cv]
          rw [e0] at hr1
          clear e0
          have F4 := Lib.hid hr1
          have NM4 := Lib.hid (NM2.out.tk (ht1.below (Nat.le_refl _)) HS.out)
          clear ht1 hr1
          refine hK.out _ _ NM4.out ?_
          clear hK K
          try simp only [Act.put]
          refine takeL (i := 12) (v := ?_) rfl (by kernel_rfl) (by kernel_rfl) (by kernel_rfl) (fun _ _ _ h => h) (Or.inl ⟨by rfl, ?_⟩) NM4.out ?_
          rotate_left
          · intro w hw
            try dsimp only at hw
            have hc := (HV.out _ hw).1
            go_simp
            try with_reducible rfl
          try simp only [Act.put, List.setIfInBounds_toArray, List.set_cons_zero, List.set_cons_succ]
          refine takeL (i := 13) (v := ?_) rfl (by kernel_rfl) (by kernel_rfl) (by kernel_rfl) (fun _ _ _ h => h) (Or.inl ⟨by rfl, ?_⟩) NM4.out ?_
          rotate_left
          · intro w hw
            try dsimp only at hw
            have hc := (HV.out _ hw).1
            go_simp
            try with_reducible rfl
          try simp only [Act.put, List.setIfInBounds_toArray, List.set_cons_zero, List.set_cons_succ]
          refine wpAnyH_done (by kernel_rfl) ?_ _
          go_wp2_with fail
          go_meet
          exact ⟨_, rfl, rfl, rfl, NM4.out, F4.out⟩

      case rest =>
        obtain ⟨f, rfl, rfl, rfl, hn5, hf5⟩ := hcut
        have N5 := Lib.hid hn5
        have F5 := Lib.hid hf5
        clear hn5 hf5 N2
        go_wp2_with fail
        have ND0 := Lib.hid (N5.out.below (Below.refl _ _).drew)
        have FD0 := Lib.hid (F5.out.drew)
        refine wp_region_held_drew (S := (fun V => NS w V gs g h v1)) (by kernel_rfl) ND0.out (fun _ => ?_)
        refine takeL (i := 0) (v := ?_) rfl (by kernel_rfl) (by kernel_rfl) (by kernel_rfl) (fun _ _ _ h => h) (Or.inl ⟨by rfl, ?_⟩) ND0.out ?_
        rotate_left
        · intro w hw
          try dsimp only at hw
          have hc := (HV.out _ hw).1
          go_simp
          try with_reducible rfl
        try simp only [Act.put, List.setIfInBounds_toArray, List.set_cons_zero, List.set_cons_succ]
        refine takeL (i := 1) (v := ?_) rfl (by kernel_rfl) (by kernel_rfl) (by kernel_rfl) (fun _ _ _ h => h) (Or.inl ⟨by rfl, ?_⟩) ND0.out ?_
        rotate_left
        · intro w hw
          try dsimp only at hw
          have hc := (HV.out _ hw).1
          go_simp
          try with_reducible rfl
        try simp only [Act.put, List.setIfInBounds_toArray, List.set_cons_zero, List.set_cons_succ]
        refine takeL (i := 2) (v := ?_) rfl (by kernel_rfl) (by kernel_rfl) (by kernel_rfl) (fun _ _ _ h => h) (Or.inl ⟨by rfl, ?_⟩) ND0.out ?_
        rotate_left
        · intro w hw
          try dsimp only at hw
          have hc := (HV.out _ hw).1
          go_simp
          try with_reducible rfl
        try simp only [Act.put, List.setIfInBounds_toArray, List.set_cons_zero, List.set_cons_succ]
        refine takeL (i := 3) (v := ?_) rfl (by kernel_rfl) (by kernel_rfl) (by kernel_rfl) (fun _ _ _ h => h) (Or.inl ⟨by rfl, ?_⟩) ND0.out ?_
        rotate_left
        · intro w hw
          try dsimp only at hw
          have hc := (HV.out _ hw).1
          go_simp
          try with_reducible rfl
        try simp only [Act.put, List.setIfInBounds_toArray, List.set_cons_zero, List.set_cons_succ]
        refine takeL (i := 4) (v := .agg (bv h).toArray) rfl (by kernel_rfl) (by kernel_rfl) (by kernel_rfl) (fun _ _ _ h => h) (Or.inl ⟨by rfl, fun wz hwz => exec_load_at wz 25 (.tmp 1) rfl ⟨g, 0, none⟩ (bv h) _ Try.underlying25 rfl HSZ.out (fun j u hu => by rw [addr_row, Nat.zero_add]; exact (hwz.hr.cell j).trans hu) (by go_simp)⟩) ND0.out ?_
        try simp only [Act.put, List.setIfInBounds_toArray, List.set_cons_zero, List.set_cons_succ]
        refine readyL (i := 5) rfl (by kernel_rfl) (by kernel_rfl) fun K hK => ?_
        go_simp
        refine (age_nq v h _ (HV.out _ ND0.out).2).mono ?_
        rintro e U1 ⟨rfl, hb⟩
        have N6 := Lib.hid (ND0.out.below hb)
        have F6 := Lib.hid (FD0.out.below hb FD0.out.lt)
        clear hb
        refine hK.out _ _ N6.out ?_
        clear hK K
        try simp only [Act.put, List.setIfInBounds_toArray, List.set_cons_zero, List.set_cons_succ]
        refine takeL (i := 6) (v := ?_) rfl (by kernel_rfl) (by kernel_rfl) (by kernel_rfl) (fun _ _ _ h => h) (Or.inl ⟨by rfl, ?_⟩) N6.out ?_
        rotate_left
        · intro w hw
          try dsimp only at hw
          have hc := (HV.out _ hw).1
          go_simp
          try with_reducible rfl
        try simp only [Act.put, List.setIfInBounds_toArray, List.set_cons_zero, List.set_cons_succ]
        refine takeL (i := 7) (v := ?_) rfl (by kernel_rfl) (by kernel_rfl) (by kernel_rfl) (fun _ _ _ h => h) (Or.inl ⟨by rfl, ?_⟩) N6.out ?_
        rotate_left
        · intro w hw
          try dsimp only at hw
          have hc := (HV.out _ hw).1
          go_simp
          try with_reducible rfl
        try simp only [Act.put, List.setIfInBounds_toArray, List.set_cons_zero, List.set_cons_succ]
        refine takeL (i := 8) (v := ?_) rfl (by kernel_rfl) (by kernel_rfl) (by kernel_rfl) (fun _ _ _ h => h) (Or.inl ⟨by rfl, ?_⟩) N6.out ?_
        rotate_left
        · intro w hw
          try dsimp only at hw
          have hc := (HV.out _ hw).1
          go_simp
          try with_reducible rfl
        try simp only [Act.put, List.setIfInBounds_toArray, List.set_cons_zero, List.set_cons_succ]
        refine takeL (i := 9) (v := ?_) rfl (by kernel_rfl) (by kernel_rfl) (by kernel_rfl) (fun _ _ _ h => h) (Or.inl ⟨by rfl, ?_⟩) N6.out ?_
        rotate_left
        · intro w hw
          try dsimp only at hw
          have hc := (HV.out _ hw).1
          go_simp
          try with_reducible rfl
        try simp only [Act.put, List.setIfInBounds_toArray, List.set_cons_zero, List.set_cons_succ]
        refine takeL (i := 10) (v := ?_) rfl (by kernel_rfl) (by kernel_rfl) (by kernel_rfl) (fun _ _ _ h => h) (Or.inl ⟨by rfl, ?_⟩) N6.out ?_
        rotate_left
        · intro w hw
          try dsimp only at hw
          have hc := (HV.out _ hw).1
          go_simp
          try with_reducible rfl
        try simp only [Act.put, List.setIfInBounds_toArray, List.set_cons_zero, List.set_cons_succ]
        refine wpAnyH_done (by kernel_rfl) ?_ _
        clear ND0 FD0 N5 F5
        have hc6 := (HV.out _ N6.out).1
        have NNZ := HNZ.out
        go_wp2_with (first
          | ((with_reducible show wpList _ _ _ ({ dst := some 38, op := Op.load _ _, type := _, pos := _, after := _, guard := _ } :: _) _ _); go_must (refine wpList_load_whole rfl 25 (.tmp 5) rfl f 25 (bv zero12) _ Try.underlying25 rfl HZS.out F6.out ?_ ?_; go_simp))
          | ((with_reducible show wpList _ _ _ ({ dst := some 39, op := Op.build _ _, type := _, pos := _, after := _, guard := _ } :: _) _ _); go_must (refine wpList_plain rfl fun K hK => wp_built _ _ _ rfl (by simp only [List.map_toArray, List.map_nil]; exact built_hash0) (hK _ _ ?_))))
        refine (len_nq v _ (HV.out _ N6.out).2).mono ?_
        rintro e w' ⟨rfl, rfl⟩
        go_wp2_with fail
        refine (copy_nq v _ (HV.out _ N6.out).2).mono ?_
        rintro e w' ⟨rfl, rfl⟩
        clear NNZ
        go_wp2_with fail
        go_roundw
        case rel => exact ⟨k + 1, by omega, by go_num, N6.out⟩
        case measure => simp [intOf]; omega
    · have hlt' : ¬ (k : Int) < 2 := by omega
      go_wp2_with fail
      refine (lives12 _).mono ?_
      rintro e w9 ⟨rfl, hb9⟩
      have B9 := Lib.hid (N2.out.b.trans (hb9.mono N2.out.b.size))
      clear hb9
      go_wp2_with fail
      go_ret
      exact ⟨rfl, B9.out⟩
end Go.Proofs.Ytigmaehlplldgaa
