/-
  Parts joined: Known Own7 Twice7 Of7 Roles7.
-/
import Derived.Below
import Derived.Laws.OwnMore
import Derived.Deep.AppendLies
import Derived.Deep.Draws
import Derived.Lib.Hide
import Derived.Laws.MakeOwn
import Derived.Laws.CopyOwn
import Derived.Laws.Rows
import Derived.Laws.BitsAllLaws
import Derived.WalkKit
import Derived.Test.YtkpdjjhkocmfoaaRows
import Derived.WalkSpells
import Derived.WalkLawsBesides
import Derived.IntWalk
import Derived.Maps.AppendAt
import Derived.OwnWalk
import Derived.Deep.MidRow
import Derived.Deep.WholeRow
import Derived.Great.BuildSlice
import Derived.ProofKit
import Derived.OpenShut
import Derived.ShutString
import Derived.ChangeOld
import Derived.Lib.SmallJoins
import Derived.Recover
import Derived.Deep.RegionHeld
import Derived.Deep.QuietTactic
import Derived.BigQuiet
import Derived.Deep.Slices
import Derived.Deep.Strs
import Derived.SizedLaws
import Derived.Maps.OwnSet
import Derived.DeepKeys4
import Derived.WideKeyArr
import Derived.ChangeKeysEq
import Derived.Deep.RegionHeld2
import Derived.Deep.CutBlock
import Derived.Laws.Tables
import Derived.Laws.StructEq
import Derived.Deep.DeepCutAuto
import Derived.Laws.Slices
import Derived.Laws.EntriesVeiled
import Derived.Deep.RegionHeld3
import Derived.WideKeyEntry
import Derived.Shelf.SlMaps.Clone
import Derived.Test.YtkpdjjhkocmfoaaB1
/-
  Of part Known: what is needed here.
-/
namespace Go.Proofs.Ytkpdjjhkocmfoaa
open Go.RowKit
set_option linter.unusedVariables false
/-- the known programs' keys -/
def k0 : List Int := List.replicate 32 0
def k3 : List Int := 3 :: List.replicate 31 0
def kn (x : List Int) : Bool := decide (x = k0) || decide (x = k3)
theorem k0_len : k0.length = 32 := rfl
theorem k3_len : k3.length = 32 := rfl
theorem k0_ok : AllBytes k0 := fun z hz => by rw [List.eq_of_mem_replicate hz]; unfold IsByte; omega
theorem built_k0 : Try.prog.built 46 [] = some (bv k0).toArray := by kernel_rfl
theorem built_k3 : Try.prog.built 46 [(0, .int .u8 3)] = some (bv k3).toArray := by kernel_rfl
set_option maxRecDepth 100000 in
set_option maxHeartbeats 400000 in
theorem system_ (w : World) : Calls Try.prog 20 #[] w fun e w' => e = .returned (.agg (bv k0).toArray) ∧ Below w.heap.size w w' := by
  go_enter Try.func20, Try.ntmps20
  go_wp2_with (first
    | ((with_reducible show wpList _ _ _ ({ dst := some 1, op := Op.build _ _, type := _, pos := _, after := _, guard := _ } :: _) _ _); go_must (refine wpList_plain rfl fun K hK => wp_built _ _ _ rfl (by simp only [List.map_toArray, List.map_nil]; exact built_k0) (hK _ _ ?_)))
    | ((with_reducible show wpList _ _ _ ({ dst := none, op := Op.store 46 _ _, type := _, pos := _, after := _, guard := _ } :: _) _ _); go_must (refine wpList_store_new rfl 46 (.tmp 0) (.tmp 1) rfl (bv k0) size_key (bv_one _) rfl ?_ ?_ ?_; go_simp; go_simp; intro w1 hr1 hb1 hz1; have HR1 := Lib.hid hr1; have HB1 := Lib.hid hb1; clear hr1 hb1)))
  refine bodyPost_ret (results_cell_row (h := rfl) _ w1 w.heap.size 46 _ (0, 0) _ (by rfl) HR1.out.is Try.underlying46 rfl size_key) rfl ?_
  exact ⟨rfl, HB1.out⟩
set_option maxRecDepth 100000 in
set_option maxHeartbeats 400000 in
theorem budget_ (w : World) : Calls Try.prog 21 #[] w fun e w' => e = .returned (.agg (bv k3).toArray) ∧ Below w.heap.size w w' := by
  go_enter Try.func21, Try.ntmps21
  go_wp2_with (first
    | ((with_reducible show wpList _ _ _ ({ dst := some 1, op := Op.build _ _, type := _, pos := _, after := _, guard := _ } :: _) _ _); go_must (refine wpList_plain rfl fun K hK => wp_built _ _ _ rfl (by simp only [List.map_toArray, List.map_cons, List.map_nil]; exact built_k3) (hK _ _ ?_)))
    | ((with_reducible show wpList _ _ _ ({ dst := none, op := Op.store 46 _ _, type := _, pos := _, after := _, guard := _ } :: _) _ _); go_must (refine wpList_store_new rfl 46 (.tmp 0) (.tmp 1) rfl (bv k3) size_key (bv_one _) rfl ?_ ?_ ?_; go_simp; go_simp; intro w1 hr1 hb1 hz1; have HR1 := Lib.hid hr1; have HB1 := Lib.hid hb1; clear hr1 hb1)))
  refine bodyPost_ret (results_cell_row (h := rfl) _ w1 w.heap.size 46 _ (0, 0) _ (by rfl) HR1.out.is Try.underlying46 rfl size_key) rfl ?_
  exact ⟨rfl, HB1.out⟩
set_option maxRecDepth 100000 in
set_option maxHeartbeats 2000000 in
theorem known_ (x : List Int) (w : World) (hx : x.length = 32) : Calls Try.prog 35 #[.agg (bv x).toArray] w fun e w' => e = .returned (.bool (kn x)) ∧ Below w.heap.size w w' := by
  have hb0 : Below w.heap.size w (w.alloc (.cells (bv x).toArray 46)) := (Below.refl _ _).alloc (Nat.le_refl _) _
  have RX := Lib.hid (Row.new w 46 (bv x))
  have HB0 := Lib.hid hb0
  have HSZ := Lib.hid (show (Try.prog.info? 46).map (·.size) = some (bv x).length by rw [bv_length, hx]; exact size_key)
  have HLT : Hid (w.heap.size < (w.alloc (.cells (bv x).toArray 46)).heap.size) := Lib.hid (by simp)
  have HK : Hid (kn x = (decide (x = k0) || decide (x = k3))) := Lib.hid rfl
  have N0 := fun w => key_eql hx k0_len w
  have N3 := fun w => key_eql hx k3_len w
  clear hb0
  generalize kn x = bb at *
  generalize bv x = X at *
  generalize hWW : w.alloc (.cells X.toArray 46) = W at *
  have HWW := Lib.hid hWW
  clear hWW
  by_cases h0 : x = k0
  · have HQ : Hid (bb = true) := Lib.hid (by rw [HK.out, decide_eq_true h0]; rfl)
    rw [decide_eq_true h0] at N0
    clear h0 HK N3
    go_enter Try.func35, Try.ntmps35
    go_upto_region 1 with fail
    rw [HWW.out]
    clear HWW
    go_wp2_with fail
    refine wp_region_held_drew (S := (fun V => Below W.heap.size W V)) (by kernel_rfl) (Below.refl W.heap.size W).drew (fun _ => ?_)
    refine takeL (i := 0) (v := .agg X.toArray) rfl (by kernel_rfl) (by kernel_rfl) (by kernel_rfl) (fun _ _ _ h => h) (Or.inl ⟨by rfl, fun wz hwz => exec_load_at wz 46 (.tmp 1) rfl ⟨w.heap.size, 0, none⟩ X _ Try.underlying46 rfl HSZ.out (fun j u hu => (hwz.cell (by rw [addr_row]; show w.heap.size < W.heap.size; have := HLT.out; omega)).trans (by rw [addr_row, Nat.zero_add]; exact (RX.out.cell j).trans hu)) (by go_simp)⟩) (Below.refl W.heap.size W).drew ?_
    try simp only [Act.put, List.setIfInBounds_toArray, List.set_cons_zero, List.set_cons_succ]
    refine readyL (i := 1) rfl (by kernel_rfl) (by kernel_rfl) fun K hK => ?_
    go_simp
    refine (system_ _).mono ?_
    rintro e w1 ⟨rfl, hb1⟩
    have B1 := Lib.hid (show Below W.heap.size W w1 from ((Below.refl W.heap.size W).drew).trans hb1)
    clear hb1
    refine hK.out _ _ B1.out ?_
    clear hK K
    try simp only [Act.put, List.setIfInBounds_toArray, List.set_cons_zero, List.set_cons_succ]
    refine takeL (i := 2) (v := ?_) rfl (by kernel_rfl) (by kernel_rfl) (by kernel_rfl) (fun _ _ _ h => h) (Or.inl ⟨by rfl, ?_⟩) B1.out ?_
    rotate_left
    · intro w hw
      try dsimp only at hw
      go_simp
      try with_reducible rfl
    try simp only [Act.put, List.setIfInBounds_toArray, List.set_cons_zero, List.set_cons_succ]
    refine takeL (i := 3) (v := ?_) rfl (by kernel_rfl) (by kernel_rfl) (by kernel_rfl) (fun _ _ _ h => h) (Or.inl ⟨by rfl, ?_⟩) B1.out ?_
    rotate_left
    · intro w hw
      try dsimp only at hw
      go_simp
      try with_reducible rfl
    try simp only [Act.put, List.setIfInBounds_toArray, List.set_cons_zero, List.set_cons_succ]
    refine takeL (i := 4) (v := undef) rfl (by kernel_rfl) (by kernel_rfl) (by kernel_rfl) (fun _ _ _ h => h) (Or.inr ⟨by rfl, rfl⟩) B1.out ?_
    try simp only [Act.put, List.setIfInBounds_toArray, List.set_cons_zero, List.set_cons_succ]
    refine takeL (i := 5) (v := undef) rfl (by kernel_rfl) (by kernel_rfl) (by kernel_rfl) (fun _ _ _ h => h) (Or.inr ⟨by rfl, rfl⟩) B1.out ?_
    try simp only [Act.put, List.setIfInBounds_toArray, List.set_cons_zero, List.set_cons_succ]
    refine takeL (i := 6) (v := undef) rfl (by kernel_rfl) (by kernel_rfl) (by kernel_rfl) (fun _ _ _ h => h) (Or.inr ⟨by rfl, rfl⟩) B1.out ?_
    try simp only [Act.put, List.setIfInBounds_toArray, List.set_cons_zero, List.set_cons_succ]
    refine takeL (i := 7) (v := ?_) rfl (by kernel_rfl) (by kernel_rfl) (by kernel_rfl) (fun _ _ _ h => h) (Or.inl ⟨by rfl, ?_⟩) B1.out ?_
    rotate_left
    · intro w hw
      try dsimp only at hw
      go_simp
      try with_reducible rfl
    try simp only [Act.put, List.setIfInBounds_toArray, List.set_cons_zero, List.set_cons_succ]
    refine takeL (i := 8) (v := ?_) rfl (by kernel_rfl) (by kernel_rfl) (by kernel_rfl) (fun _ _ _ h => h) (Or.inl ⟨by rfl, ?_⟩) B1.out ?_
    rotate_left
    · intro w hw
      try dsimp only at hw
      go_simp
      try with_reducible rfl
    try simp only [Act.put, List.setIfInBounds_toArray, List.set_cons_zero, List.set_cons_succ]
    refine wpAnyH_done (by kernel_rfl) ?_ _
    go_wp2_with fail
    go_ret
    exact ⟨told_bool HQ.out.symm, HB0.out.trans (B1.out.mono HB0.out.size)⟩
  by_cases h3 : x = k3
  · have HQ : Hid (bb = true) := Lib.hid (by rw [HK.out, decide_eq_true h3, Bool.or_true])
    rw [decide_eq_false h0] at N0
    rw [decide_eq_true h3] at N3
    clear h0 h3 HK
    go_enter Try.func35, Try.ntmps35
    go_upto_region 1 with fail
    rw [HWW.out]
    clear HWW
    go_wp2_with fail
    refine wp_region_held_drew (S := (fun V => Below W.heap.size W V)) (by kernel_rfl) (Below.refl W.heap.size W).drew (fun _ => ?_)
    refine takeL (i := 0) (v := .agg X.toArray) rfl (by kernel_rfl) (by kernel_rfl) (by kernel_rfl) (fun _ _ _ h => h) (Or.inl ⟨by rfl, fun wz hwz => exec_load_at wz 46 (.tmp 1) rfl ⟨w.heap.size, 0, none⟩ X _ Try.underlying46 rfl HSZ.out (fun j u hu => (hwz.cell (by rw [addr_row]; show w.heap.size < W.heap.size; have := HLT.out; omega)).trans (by rw [addr_row, Nat.zero_add]; exact (RX.out.cell j).trans hu)) (by go_simp)⟩) (Below.refl W.heap.size W).drew ?_
    try simp only [Act.put, List.setIfInBounds_toArray, List.set_cons_zero, List.set_cons_succ]
    refine readyL (i := 1) rfl (by kernel_rfl) (by kernel_rfl) fun K hK => ?_
    go_simp
    refine (system_ _).mono ?_
    rintro e w1 ⟨rfl, hb1⟩
    have B1 := Lib.hid (show Below W.heap.size W w1 from ((Below.refl W.heap.size W).drew).trans hb1)
    clear hb1
    refine hK.out _ _ B1.out ?_
    clear hK K
    try simp only [Act.put, List.setIfInBounds_toArray, List.set_cons_zero, List.set_cons_succ]
    refine takeL (i := 2) (v := ?_) rfl (by kernel_rfl) (by kernel_rfl) (by kernel_rfl) (fun _ _ _ h => h) (Or.inl ⟨by rfl, ?_⟩) B1.out ?_
    rotate_left
    · intro w hw
      try dsimp only at hw
      go_simp
      try with_reducible rfl
    try simp only [Act.put, List.setIfInBounds_toArray, List.set_cons_zero, List.set_cons_succ]
    refine takeL (i := 3) (v := ?_) rfl (by kernel_rfl) (by kernel_rfl) (by kernel_rfl) (fun _ _ _ h => h) (Or.inl ⟨by rfl, ?_⟩) B1.out ?_
    rotate_left
    · intro w hw
      try dsimp only at hw
      go_simp
      try with_reducible rfl
    try simp only [Act.put, List.setIfInBounds_toArray, List.set_cons_zero, List.set_cons_succ]
    refine takeL (i := 4) (v := .agg X.toArray) rfl (by kernel_rfl) (by kernel_rfl) (by kernel_rfl) (fun _ _ _ h => h) (Or.inl ⟨by rfl, fun wz hwz => exec_load_at wz 46 (.tmp 1) rfl ⟨w.heap.size, 0, none⟩ X _ Try.underlying46 rfl HSZ.out (fun j u hu => (hwz.cell (by rw [addr_row]; show w.heap.size < W.heap.size; have := HLT.out; omega)).trans (by rw [addr_row, Nat.zero_add]; exact (RX.out.cell j).trans hu)) (by go_simp)⟩) B1.out ?_
    try simp only [Act.put, List.setIfInBounds_toArray, List.set_cons_zero, List.set_cons_succ]
    refine readyL (i := 5) rfl (by kernel_rfl) (by kernel_rfl) fun K hK => ?_
    go_simp
    refine (budget_ _).mono ?_
    rintro e w2 ⟨rfl, hb2⟩
    have B2 := Lib.hid (B1.out.trans (hb2.mono B1.out.size))
    clear hb2
    refine hK.out _ _ B2.out ?_
    clear hK K
    try simp only [Act.put, List.setIfInBounds_toArray, List.set_cons_zero, List.set_cons_succ]
    refine takeL (i := 6) (v := ?_) rfl (by kernel_rfl) (by kernel_rfl) (by kernel_rfl) (fun _ _ _ h => h) (Or.inl ⟨by rfl, ?_⟩) B2.out ?_
    rotate_left
    · intro w hw
      try dsimp only at hw
      go_simp
      try with_reducible rfl
    try simp only [Act.put, List.setIfInBounds_toArray, List.set_cons_zero, List.set_cons_succ]
    refine takeL (i := 7) (v := ?_) rfl (by kernel_rfl) (by kernel_rfl) (by kernel_rfl) (fun _ _ _ h => h) (Or.inl ⟨by rfl, ?_⟩) B2.out ?_
    rotate_left
    · intro w hw
      try dsimp only at hw
      go_simp
      try with_reducible rfl
    try simp only [Act.put, List.setIfInBounds_toArray, List.set_cons_zero, List.set_cons_succ]
    refine takeL (i := 8) (v := ?_) rfl (by kernel_rfl) (by kernel_rfl) (by kernel_rfl) (fun _ _ _ h => h) (Or.inl ⟨by rfl, ?_⟩) B2.out ?_
    rotate_left
    · intro w hw
      try dsimp only at hw
      go_simp
      try with_reducible rfl
    try simp only [Act.put, List.setIfInBounds_toArray, List.set_cons_zero, List.set_cons_succ]
    refine wpAnyH_done (by kernel_rfl) ?_ _
    go_wp2_with fail
    go_ret
    exact ⟨told_bool HQ.out.symm, HB0.out.trans (B2.out.mono HB0.out.size)⟩
  · have HQ : Hid (bb = false) := Lib.hid (by rw [HK.out, decide_eq_false h0, decide_eq_false h3]; rfl)
    rw [decide_eq_false h0] at N0
    rw [decide_eq_false h3] at N3
    clear h0 h3 HK
    go_enter Try.func35, Try.ntmps35
    go_upto_region 1 with fail
    rw [HWW.out]
    clear HWW
    go_wp2_with fail
    refine wp_region_held_drew (S := (fun V => Below W.heap.size W V)) (by kernel_rfl) (Below.refl W.heap.size W).drew (fun _ => ?_)
    refine takeL (i := 0) (v := .agg X.toArray) rfl (by kernel_rfl) (by kernel_rfl) (by kernel_rfl) (fun _ _ _ h => h) (Or.inl ⟨by rfl, fun wz hwz => exec_load_at wz 46 (.tmp 1) rfl ⟨w.heap.size, 0, none⟩ X _ Try.underlying46 rfl HSZ.out (fun j u hu => (hwz.cell (by rw [addr_row]; show w.heap.size < W.heap.size; have := HLT.out; omega)).trans (by rw [addr_row, Nat.zero_add]; exact (RX.out.cell j).trans hu)) (by go_simp)⟩) (Below.refl W.heap.size W).drew ?_
    try simp only [Act.put, List.setIfInBounds_toArray, List.set_cons_zero, List.set_cons_succ]
    refine readyL (i := 1) rfl (by kernel_rfl) (by kernel_rfl) fun K hK => ?_
    go_simp
    refine (system_ _).mono ?_
    rintro e w1 ⟨rfl, hb1⟩
    have B1 := Lib.hid (show Below W.heap.size W w1 from ((Below.refl W.heap.size W).drew).trans hb1)
    clear hb1
    refine hK.out _ _ B1.out ?_
    clear hK K
    try simp only [Act.put, List.setIfInBounds_toArray, List.set_cons_zero, List.set_cons_succ]
    refine takeL (i := 2) (v := ?_) rfl (by kernel_rfl) (by kernel_rfl) (by kernel_rfl) (fun _ _ _ h => h) (Or.inl ⟨by rfl, ?_⟩) B1.out ?_
    rotate_left
    · intro w hw
      try dsimp only at hw
      go_simp
      try with_reducible rfl
    try simp only [Act.put, List.setIfInBounds_toArray, List.set_cons_zero, List.set_cons_succ]
    refine takeL (i := 3) (v := ?_) rfl (by kernel_rfl) (by kernel_rfl) (by kernel_rfl) (fun _ _ _ h => h) (Or.inl ⟨by rfl, ?_⟩) B1.out ?_
    rotate_left
    · intro w hw
      try dsimp only at hw
      go_simp
      try with_reducible rfl
    try simp only [Act.put, List.setIfInBounds_toArray, List.set_cons_zero, List.set_cons_succ]
    refine takeL (i := 4) (v := .agg X.toArray) rfl (by kernel_rfl) (by kernel_rfl) (by kernel_rfl) (fun _ _ _ h => h) (Or.inl ⟨by rfl, fun wz hwz => exec_load_at wz 46 (.tmp 1) rfl ⟨w.heap.size, 0, none⟩ X _ Try.underlying46 rfl HSZ.out (fun j u hu => (hwz.cell (by rw [addr_row]; show w.heap.size < W.heap.size; have := HLT.out; omega)).trans (by rw [addr_row, Nat.zero_add]; exact (RX.out.cell j).trans hu)) (by go_simp)⟩) B1.out ?_
    try simp only [Act.put, List.setIfInBounds_toArray, List.set_cons_zero, List.set_cons_succ]
    refine readyL (i := 5) rfl (by kernel_rfl) (by kernel_rfl) fun K hK => ?_
    go_simp
    refine (budget_ _).mono ?_
    rintro e w2 ⟨rfl, hb2⟩
    have B2 := Lib.hid (B1.out.trans (hb2.mono B1.out.size))
    clear hb2
    refine hK.out _ _ B2.out ?_
    clear hK K
    try simp only [Act.put, List.setIfInBounds_toArray, List.set_cons_zero, List.set_cons_succ]
    refine takeL (i := 6) (v := ?_) rfl (by kernel_rfl) (by kernel_rfl) (by kernel_rfl) (fun _ _ _ h => h) (Or.inl ⟨by rfl, ?_⟩) B2.out ?_
    rotate_left
    · intro w hw
      try dsimp only at hw
      go_simp
      try with_reducible rfl
    try simp only [Act.put, List.setIfInBounds_toArray, List.set_cons_zero, List.set_cons_succ]
    refine takeL (i := 7) (v := ?_) rfl (by kernel_rfl) (by kernel_rfl) (by kernel_rfl) (fun _ _ _ h => h) (Or.inl ⟨by rfl, ?_⟩) B2.out ?_
    rotate_left
    · intro w hw
      try dsimp only at hw
      go_simp
      try with_reducible rfl
    try simp only [Act.put, List.setIfInBounds_toArray, List.set_cons_zero, List.set_cons_succ]
    refine takeL (i := 8) (v := ?_) rfl (by kernel_rfl) (by kernel_rfl) (by kernel_rfl) (fun _ _ _ h => h) (Or.inl ⟨by rfl, ?_⟩) B2.out ?_
    rotate_left
    · intro w hw
      try dsimp only at hw
      go_simp
      try with_reducible rfl
    try simp only [Act.put, List.setIfInBounds_toArray, List.set_cons_zero, List.set_cons_succ]
    refine wpAnyH_done (by kernel_rfl) ?_ _
    go_wp2_with fail
    go_ret
    exact ⟨told_bool HQ.out.symm, HB0.out.trans (B2.out.mono HB0.out.size)⟩
end Go.Proofs.Ytkpdjjhkocmfoaa

/-
  Of part Own7: what is needed here.
-/
namespace Go.Proofs.Ytkpdjjhkocmfoaa
open Go.RowKit
set_option linter.unusedVariables false
/-- 'wpList_store_new' as one step -/
theorem wp_store_new {P : Program} {op : Oper} {a : Act} {w0 : World} {c : Array Value} {K : Act → World → Prop} {Q : Exit → Act → World → Prop} (ty : TypeId) (x y : Operand) (ho : op.op = .store ty x y)
    (cs : List Value) (hi : (P.info? ty).map (·.size) = some cs.length) (h1 : ∀ u ∈ cs, u.oneCell' = true) (hl : c.size = cs.length)
    (hx : a.eval x = .pointer (some ⟨w0.heap.size, 0, none⟩)) (hy : a.eval y = .agg cs.toArray)
    (h : ∀ w', Row w' w0.heap.size ty cs → Below w0.heap.size w0 w' → w'.heap.size = w0.heap.size + 1 → K (a.put op.dst undef) w') : op.wp P a ((w0.alloc (.cells c ty)).drew) K Q := by
  have hr : Row (w0.alloc (.cells c ty)).drew w0.heap.size ty c.toList := by
    have := Row.new w0 ty c.toList
    exact Row.drew (by simpa using this)
  refine wp_store_whole ty x y ho w0.heap.size c.toList cs hr hi (by simpa using hl) h1 hx hy fun w' hr' ht => ?_
  exact h w' hr' ((((Below.refl _ w0).alloc (Nat.le_refl _) _).drew).trans (ht.below (Nat.le_refl _))) (by rw [ht.size]; simp)
/-- the role of a message's key of the place i -/
def below7 (m : LMsg) (i : Nat) : Int := if (i : Int) < m.s then m.s - m.r else (m.keys.length : Int) - m.o
def ownRole (m : LMsg) (k : List Int) (i : Nat) : LRole := ⟨k, decide ((i : Int) < m.s), decide ((i : Int) < below7 m i) && !kn k⟩
set_option maxRecDepth 100000 in
set_option maxHeartbeats 4000000 in
theorem own7 (q : Raw) (m : LMsg) (k : List Int) (i B : Nat) (w : World) (hk : KeysIn w B q.KA q.kn m.keys) (hre : m.recent.length = 32) (hB : B ≤ w.heap.size) (hi : m.keys[i]? = some k) (hs : IsByte m.s) (hr : IsByte m.r) (ho : IsByte m.o) (hn : q.kn ≤ 1000000) :
    Calls Try.prog 34 #[.agg (q.cells m).toArray, .int .i64 i] w fun e w' => e = .returned (.agg (ownRole m k i).cells.toArray) ∧ Below w.heap.size w w' := by
  have hlen := hk.len
  have hin : i < q.kn := by rw [← hlen]; exact (List.getElem?_eq_some_iff.1 hi).1
  obtain ⟨a, k', hKA, hab, hx', hat⟩ := hk.get hin
  obtain rfl : k' = k := by rw [hi] at hx'; exact (Option.some.inj hx').symm
  have hkl := hat.len
  have rm := Row.new w 41 (q.cells m)
  have hb0 : Below w.heap.size w ((w.alloc (.cells (q.cells m).toArray 41)).alloc (.cells r0.cells.toArray 48)) := ((Below.refl w.heap.size w).alloc (Nat.le_refl _) _).alloc (by simp) _
  have rm2 := rm.alloc (.cells r0.cells.toArray 48)
  have rz : Row ((w.alloc (.cells (q.cells m).toArray 41)).alloc (.cells r0.cells.toArray 48)) (w.heap.size + 1) 48 r0.cells := Row.new' _ _ _ (by simp)
  have hcs : ∀ j u, (bv k')[j]? = some u → ((w.alloc (.cells (q.cells m).toArray 41)).alloc (.cells r0.cells.toArray 48)).cell? ((a.add (i * 32)).add j) = some u := fun j u hu => (hb0.cell (by rw [addr_block, addr_block]; omega)).trans (hat.cells j u hu)
  have HX0 : ∀ c, c = r0.cells.toArray → (w.alloc (.cells (q.cells m).toArray 41)).alloc (.cells c 48) = (w.alloc (.cells (q.cells m).toArray 41)).alloc (.cells r0.cells.toArray 48) := by rintro _ rfl; rfl
  have hlt : w.heap.size < ((w.alloc (.cells (q.cells m).toArray 41)).alloc (.cells r0.cells.toArray 48)).heap.size ∧ w.heap.size + 1 < ((w.alloc (.cells (q.cells m).toArray 41)).alloc (.cells r0.cells.toArray 48)).heap.size := ⟨rm2.lt, rz.lt⟩
  have hc1 := rm2.cell 1
  have hc2 := rm2.cell 2
  have hc3 := rm2.cell 3
  have hc4 := rm2.cell 4
  rw [cells_1] at hc1
  rw [cells_2] at hc2
  rw [cells_3] at hc3
  rw [cells_4, hKA] at hc4
  have HAB : Hid (a.block < ((w.alloc (.cells (q.cells m).toArray 41)).alloc (.cells r0.cells.toArray 48)).heap.size) := Lib.hid (by have := hlt.1; omega)
  have HKN := Lib.hid (fun w => known_ k' w hkl)
  have HQ0 : Hid ((ownRole m k' i).cells = bv k' ++ [.bool (decide ((i : Int) < m.s)), .bool (decide ((i : Int) < below7 m i) && !kn k')]) := Lib.hid rfl
  have HBL : Hid (below7 m i = if (i : Int) < m.s then m.s - m.r else (q.kn : Int) - m.o) := Lib.hid (by unfold below7; rw [hlen])
  have HXL : Hid ((bv k').length = 32) := Lib.hid (by rw [bv_length, hkl])
  have HSZ := Lib.hid (show (Try.prog.info? 46).map (·.size) = some (bv k').length by rw [HXL.out]; exact size_key)
  have H1 := Lib.hid (bv_one k')
  have HSR : Hid (∀ x y, (Try.prog.info? 48).map (·.size) = some (bv k' ++ [Value.bool x, .bool y]).length) := Lib.hid fun x y => size_role (r := ⟨k', x, y⟩) hkl
  have HSL : Hid (∀ x y, r0.cells.length = (bv k' ++ [Value.bool x, .bool y]).length) := Lib.hid fun x y => (role_len (r := ⟨k', x, y⟩) hkl).symm
  have HSO : Hid (∀ x y, ∀ u ∈ bv k' ++ [Value.bool x, .bool y], u.oneCell' = true) := Lib.hid fun x y => role_one ⟨k', x, y⟩
  have CK := Lib.hid hcs
  have HB0 := Lib.hid hb0
  have HLT := Lib.hid hlt
  have RZ := Lib.hid rz
  have C1 := Lib.hid hc1
  have C2 := Lib.hid hc2
  have C3 := Lib.hid hc3
  have C4 := Lib.hid hc4
  obtain ⟨s0, s1⟩ : 0 ≤ m.s ∧ m.s < 256 := hs
  obtain ⟨t0, t1⟩ : 0 ≤ m.r ∧ m.r < 256 := hr
  obtain ⟨o0, o1⟩ : 0 ≤ m.o ∧ m.o < 256 := ho
  have ws : IntKind.i64.wrap m.s = m.s := IntWalk.i64_in _ (by omega)
  have wr : IntKind.i64.wrap m.r = m.r := IntWalk.i64_in _ (by omega)
  have wo : IntKind.i64.wrap m.o = m.o := IntWalk.i64_in _ (by omega)
  have n0 : (0 : Int) ≤ (i : Int) := Int.natCast_nonneg _
  have n1 : (i : Int) < (q.kn : Int) := by omega
  clear hk hre hi hx' hat hkl rm hb0 rm2 rz hcs hlt hc1 hc2 hc3 hc4 hKA hlen hab
  generalize (q.cells m).toArray = MC at *
  generalize (ownRole m k' i).cells = RC at *
  generalize below7 m i = BL at *
  generalize kn k' = bb at *
  generalize bv k' = X at *
  obtain ⟨KA, n, kc, IA, ni, ic, LA, ln, lc⟩ := q
  dsimp only at *
  generalize m.s = s at *
  generalize m.r = r at *
  generalize m.o = o at *
  obtain ⟨W, hW⟩ : ∃ W, W = (w.alloc (.cells MC 41)).alloc (.cells r0.cells.toArray 48) := ⟨_, rfl⟩
  have HX : Hid (∀ c, c = r0.cells.toArray → (w.alloc (.cells MC 41)).alloc (.cells c 48) = W) := Lib.hid (by rw [hW]; exact HX0)
  rw [← hW] at HAB CK HB0 HLT RZ C1 C2 C3 C4
  clear HX0 hW
  by_cases hsg : (i : Int) < s
  · by_cases hwr : (i : Int) < s - r
    · have HQ : Hid (RC = X ++ [.bool true, .bool (!bb)]) := Lib.hid (by rw [HQ0.out, HBL.out]; simp [hsg, hwr])
      clear HQ0 HBL
      go_enter Try.func34, Try.ntmps34
      go_upto_region 1 with fail
      rw [HX.out]
      rotate_left
      · kernel_rfl
      clear HX
      refine wp_region_held_drew (S := (fun V => Below W.heap.size W V)) (by kernel_rfl) (Below.refl W.heap.size W).drew (fun _ => ?_)
      have SB := Lib.hid (Below.refl W.heap.size W).drew
      refine takeL (i := 0) (v := ?_) rfl (by kernel_rfl) (by kernel_rfl) (by kernel_rfl) (fun _ _ _ h => h) (Or.inl ⟨by rfl, ?_⟩) SB.out ?_
      rotate_left
      · intro w hw
        try dsimp only at hw
        go_simp
        try with_reducible rfl
      try simp only [Act.put, List.setIfInBounds_toArray, List.set_cons_zero, List.set_cons_succ]
      refine takeL (i := 1) (v := ?_) rfl (by kernel_rfl) (by kernel_rfl) (by kernel_rfl) (fun _ _ _ h => h) (Or.inl ⟨by rfl, ?_⟩) SB.out ?_
      rotate_left
      · intro wz hwz
        try dsimp only at hwz
        have q := (hwz.cell (p := ⟨w.heap.size, 4, none⟩) HLT.out.1).trans C4.out
        go_simp
        try with_reducible rfl
      try simp only [Act.put, List.setIfInBounds_toArray, List.set_cons_zero, List.set_cons_succ]
      refine takeL (i := 2) (v := ?_) rfl (by kernel_rfl) (by kernel_rfl) (by kernel_rfl) (fun _ _ _ h => h) (Or.inl ⟨by rfl, ?_⟩) SB.out ?_
      rotate_left
      · intro w hw
        try dsimp only at hw
        go_simp
        try with_reducible rfl
      try simp only [Act.put, List.setIfInBounds_toArray, List.set_cons_zero, List.set_cons_succ]
      refine takeL (i := 3) (v := ?_) rfl (by kernel_rfl) (by kernel_rfl) (by kernel_rfl) (fun _ _ _ h => h) (Or.inl ⟨by rfl, ?_⟩) SB.out ?_
      rotate_left
      · intro w hw
        try dsimp only at hw
        go_simp
        try with_reducible rfl
      try simp only [Act.put, List.setIfInBounds_toArray, List.set_cons_zero, List.set_cons_succ]
      refine takeL (i := 4) (v := .agg X.toArray) rfl (by kernel_rfl) (by kernel_rfl) (by kernel_rfl) (fun _ _ _ h => h) (Or.inl ⟨by rfl, fun wz hwz => exec_load_at wz 46 (.tmp 12) rfl (a.add (i * 32)) X _ Try.underlying46 rfl HSZ.out (fun j u hu => (hwz.cell (by rw [addr_block, addr_block]; exact HAB.out)).trans (CK.out j u hu)) (by go_simp)⟩) SB.out ?_
      try simp only [Act.put, List.setIfInBounds_toArray, List.set_cons_zero, List.set_cons_succ]
      refine takeL (i := 5) (v := ?_) rfl (by kernel_rfl) (by kernel_rfl) (by kernel_rfl) (fun _ _ _ h => h) (Or.inl ⟨by rfl, ?_⟩) SB.out ?_
      rotate_left
      · intro w hw
        try dsimp only at hw
        go_simp
        try with_reducible rfl
      try simp only [Act.put, List.setIfInBounds_toArray, List.set_cons_zero, List.set_cons_succ]
      refine takeL (i := 6) (v := ?_) rfl (by kernel_rfl) (by kernel_rfl) (by kernel_rfl) (fun _ _ _ h => h) (Or.inl ⟨by rfl, ?_⟩) SB.out ?_
      rotate_left
      · intro w hw
        try dsimp only at hw
        go_simp
        try with_reducible rfl
      try simp only [Act.put, List.setIfInBounds_toArray, List.set_cons_zero, List.set_cons_succ]
      refine takeL (i := 7) (v := ?_) rfl (by kernel_rfl) (by kernel_rfl) (by kernel_rfl) (fun _ _ _ h => h) (Or.inl ⟨by rfl, ?_⟩) SB.out ?_
      rotate_left
      · intro wz hwz
        try dsimp only at hwz
        have q := (hwz.cell (p := ⟨w.heap.size, 1, none⟩) HLT.out.1).trans C1.out
        go_simp
        try with_reducible rfl
      try simp only [Act.put, List.setIfInBounds_toArray, List.set_cons_zero, List.set_cons_succ]
      refine takeL (i := 8) (v := ?_) rfl (by kernel_rfl) (by kernel_rfl) (by kernel_rfl) (fun _ _ _ h => h) (Or.inl ⟨by rfl, ?_⟩) SB.out ?_
      rotate_left
      · intro w hw
        try dsimp only at hw
        go_simp
        try with_reducible rfl
      try simp only [Act.put, List.setIfInBounds_toArray, List.set_cons_zero, List.set_cons_succ]
      refine readyL (i := 9) rfl (by kernel_rfl) (by kernel_rfl) fun K hK => ?_
      go_simp
      refine hK.out _ _ (SB.out.alloc (Nat.le_refl _) _) ?_
      clear hK K
      try simp only [Act.put, List.setIfInBounds_toArray, List.set_cons_zero, List.set_cons_succ]
      refine readyL (i := 10) rfl (by kernel_rfl) (by kernel_rfl) fun K hK => ?_
      refine wp_store_new 46 (.tmp 5) (.tmp 13) rfl X HSZ.out H1.out ?_ ?_ ?_ ?_
      · rw [HXL.out]; rfl
      · go_simp
      · go_simp
      intro w1 hr1 hb1 hz1
      have R1 := Lib.hid hr1
      have B1 := Lib.hid hb1
      have Z1 := Lib.hid hz1
      clear hr1 hb1 hz1
      refine hK.out _ _ B1.out ?_
      clear hK K
      try simp only [Act.put]
      refine takeL (i := 11) (v := ?_) rfl (by kernel_rfl) (by kernel_rfl) (by kernel_rfl) (fun _ _ _ h => h) (Or.inl ⟨by rfl, ?_⟩) B1.out ?_
      rotate_left
      · intro w hw
        try dsimp only at hw
        go_simp
        try with_reducible rfl
      try simp only [Act.put, List.setIfInBounds_toArray, List.set_cons_zero, List.set_cons_succ]
      refine wpAnyH_done (by kernel_rfl) ?_ _
      have D1 := Lib.hid ((B1.out.cell (p := ⟨w.heap.size, 1, none⟩) HLT.out.1).trans C1.out)
      have D2 := Lib.hid ((B1.out.cell (p := ⟨w.heap.size, 2, none⟩) HLT.out.1).trans C2.out)
      have D3 := Lib.hid ((B1.out.cell (p := ⟨w.heap.size, 3, none⟩) HLT.out.1).trans C3.out)
      have D4 := Lib.hid ((B1.out.cell (p := ⟨w.heap.size, 4, none⟩) HLT.out.1).trans C4.out)
      have d1 := D1.out
      have d2 := D2.out
      have d3 := D3.out
      have d4 := D4.out
      go_wp2_with fail
      go_quiet (fail)
      have RZ2 := Lib.hid ((RZ.out.below B1.out HLT.out.2).drewN nq)
      have R2 := Lib.hid (R1.out.drewN nq)
      have B2 := Lib.hid (below_drewN (B1.out) nq)
      go_wp2_with fail
      clear d1 d2 d3 d4 D1 D2 D3 D4
      have RZ3 := Lib.hid RZ2.out.drew
      have R3 := Lib.hid R2.out.drew
      have B3 := Lib.hid B2.out.drew
      refine wp_region_held_drew (S := (fun V => Row V W.heap.size 46 X)) (by kernel_rfl) R3.out (fun _ => ?_)
      generalize (w1.drewN nq).drew = w2 at *
      refine takeL (i := 0) (v := .agg X.toArray) rfl (by kernel_rfl) (by kernel_rfl) (by kernel_rfl) (fun _ _ _ h => h) (Or.inl ⟨by rfl, fun wz hwz => exec_load_at wz 46 (.tmp 5) rfl ⟨W.heap.size, 0, none⟩ X _ Try.underlying46 rfl HSZ.out (fun j u hu => by rw [addr_row, Nat.zero_add]; exact (hwz.cell j).trans hu) (by go_simp)⟩) R3.out ?_
      try simp only [Act.put, List.setIfInBounds_toArray, List.set_cons_zero, List.set_cons_succ]
      refine takeL (i := 1) (v := ?_) rfl (by kernel_rfl) (by kernel_rfl) (by kernel_rfl) (fun _ _ _ h => h) (Or.inl ⟨by rfl, ?_⟩) R3.out ?_
      rotate_left
      · intro w hw
        try dsimp only at hw
        go_simp
        try with_reducible rfl
      try simp only [Act.put, List.setIfInBounds_toArray, List.set_cons_zero, List.set_cons_succ]
      refine takeL (i := 2) (v := ?_) rfl (by kernel_rfl) (by kernel_rfl) (by kernel_rfl) (fun _ _ _ h => h) (Or.inl ⟨by rfl, ?_⟩) R3.out ?_
      rotate_left
      · intro w hw
        try dsimp only at hw
        go_simp
        try with_reducible rfl
      try simp only [Act.put, List.setIfInBounds_toArray, List.set_cons_zero, List.set_cons_succ]
      refine takeL (i := 3) (v := ?_) rfl (by kernel_rfl) (by kernel_rfl) (by kernel_rfl) (fun _ _ _ h => h) (Or.inl ⟨by rfl, ?_⟩) R3.out ?_
      rotate_left
      · intro w hw
        try dsimp only at hw
        go_simp
        try with_reducible rfl
      try simp only [Act.put, List.setIfInBounds_toArray, List.set_cons_zero, List.set_cons_succ]
      refine takeL (i := 4) (v := ?_) rfl (by kernel_rfl) (by kernel_rfl) (by kernel_rfl) (fun _ _ _ h => h) (Or.inl ⟨by rfl, ?_⟩) R3.out ?_
      rotate_left
      · intro w hw
        try dsimp only at hw
        go_simp
        try with_reducible rfl
      try simp only [Act.put, List.setIfInBounds_toArray, List.set_cons_zero, List.set_cons_succ]
      refine takeL (i := 5) (v := ?_) rfl (by kernel_rfl) (by kernel_rfl) (by kernel_rfl) (fun _ _ _ h => h) (Or.inl ⟨by rfl, ?_⟩) R3.out ?_
      rotate_left
      · intro w hw
        try dsimp only at hw
        go_simp
        try with_reducible rfl
      try simp only [Act.put, List.setIfInBounds_toArray, List.set_cons_zero, List.set_cons_succ]
      refine takeL (i := 6) (v := .agg X.toArray) rfl (by kernel_rfl) (by kernel_rfl) (by kernel_rfl) (fun _ _ _ h => h) (Or.inl ⟨by rfl, fun wz hwz => exec_load_at wz 46 (.tmp 5) rfl ⟨W.heap.size, 0, none⟩ X _ Try.underlying46 rfl HSZ.out (fun j u hu => by rw [addr_row, Nat.zero_add]; exact (hwz.cell j).trans hu) (by go_simp)⟩) R3.out ?_
      try simp only [Act.put, List.setIfInBounds_toArray, List.set_cons_zero, List.set_cons_succ]
      refine readyL (i := 7) rfl (by kernel_rfl) (by kernel_rfl) fun K hK => ?_
      go_simp
      refine (HKN.out _).mono ?_
      rintro e w3 ⟨rfl, hb3⟩
      have R4 := Lib.hid (R3.out.below hb3 R3.out.lt)
      have RZ4 := Lib.hid (RZ3.out.below hb3 RZ3.out.lt)
      have B4 := Lib.hid (B3.out.trans (hb3.mono B3.out.size))
      clear hb3
      refine hK.out _ _ R4.out ?_
      clear hK K
      try simp only [Act.put, List.setIfInBounds_toArray, List.set_cons_zero, List.set_cons_succ]
      refine takeL (i := 8) (v := ?_) rfl (by kernel_rfl) (by kernel_rfl) (by kernel_rfl) (fun _ _ _ h => h) (Or.inl ⟨by rfl, ?_⟩) R4.out ?_
      rotate_left
      · intro w hw
        try dsimp only at hw
        go_simp
        try with_reducible rfl
      try simp only [Act.put, List.setIfInBounds_toArray, List.set_cons_zero, List.set_cons_succ]
      refine takeL (i := 9) (v := ?_) rfl (by kernel_rfl) (by kernel_rfl) (by kernel_rfl) (fun _ _ _ h => h) (Or.inl ⟨by rfl, ?_⟩) R4.out ?_
      rotate_left
      · intro w hw
        try dsimp only at hw
        go_simp
        try with_reducible rfl
      try simp only [Act.put, List.setIfInBounds_toArray, List.set_cons_zero, List.set_cons_succ]
      refine takeL (i := 10) (v := .agg (X ++ [Value.bool true, .bool (!bb)]).toArray) rfl (by kernel_rfl) (by kernel_rfl) (by kernel_rfl) (fun _ _ _ h => h) (Or.inl ⟨by rfl, fun wz hwz => exec_built wz _ _ _ rfl (by simp only [List.map_toArray, List.map_cons, List.map_nil]; exact built_role HXL.out _ _)⟩) R4.out ?_
      try simp only [Act.put, List.setIfInBounds_toArray, List.set_cons_zero, List.set_cons_succ]
      refine readyL (i := 11) rfl (by kernel_rfl) (by kernel_rfl) fun K hK => ?_
      refine wp_store_whole 48 (.tmp 4) (.tmp 46) rfl (w.heap.size + 1) r0.cells (X ++ [.bool true, .bool (!bb)]) RZ4.out (HSR.out _ _) (HSL.out _ _) (HSO.out _ _) ?_ ?_ ?_
      · go_simp
      · go_simp
      intro w5 hr5 ht5
      have RZ5 := Lib.hid hr5
      have B5 := Lib.hid ((HB0.out.trans (B4.out.mono HB0.out.size)).trans (ht5.below (Nat.le_succ _)))
      have R5 := Lib.hid (ht5.row R4.out (by have := HLT.out.2; omega))
      clear hr5 ht5
      refine hK.out _ _ R5.out ?_
      clear hK K
      try simp only [Act.put]
      refine wpAnyH_done (by kernel_rfl) ?_ _
      go_wp2_with fail
      refine bodyPost_ret (results_cell_row (h := rfl) _ w5 (w.heap.size + 1) 48 _ (0, 0) _ (by rfl) RZ5.out.is Try.underlying48 rfl (HSR.out _ _)) rfl ?_
      exact ⟨by rw [HQ.out], B5.out⟩
    · have hwf : decide ((i : Int) < s - r) = false := decide_eq_false hwr
      have HQ : Hid (RC = X ++ [.bool true, .bool false]) := Lib.hid (by rw [HQ0.out, HBL.out]; simp [hsg, hwr])
      clear HQ0 HBL
      go_enter Try.func34, Try.ntmps34
      go_upto_region 1 with fail
      rw [HX.out]
      rotate_left
      · kernel_rfl
      clear HX
      refine wp_region_held_drew (S := (fun V => Below W.heap.size W V)) (by kernel_rfl) (Below.refl W.heap.size W).drew (fun _ => ?_)
      have SB := Lib.hid (Below.refl W.heap.size W).drew
      refine takeL (i := 0) (v := ?_) rfl (by kernel_rfl) (by kernel_rfl) (by kernel_rfl) (fun _ _ _ h => h) (Or.inl ⟨by rfl, ?_⟩) SB.out ?_
      rotate_left
      · intro w hw
        try dsimp only at hw
        go_simp
        try with_reducible rfl
      try simp only [Act.put, List.setIfInBounds_toArray, List.set_cons_zero, List.set_cons_succ]
      refine takeL (i := 1) (v := ?_) rfl (by kernel_rfl) (by kernel_rfl) (by kernel_rfl) (fun _ _ _ h => h) (Or.inl ⟨by rfl, ?_⟩) SB.out ?_
      rotate_left
      · intro wz hwz
        try dsimp only at hwz
        have q := (hwz.cell (p := ⟨w.heap.size, 4, none⟩) HLT.out.1).trans C4.out
        go_simp
        try with_reducible rfl
      try simp only [Act.put, List.setIfInBounds_toArray, List.set_cons_zero, List.set_cons_succ]
      refine takeL (i := 2) (v := ?_) rfl (by kernel_rfl) (by kernel_rfl) (by kernel_rfl) (fun _ _ _ h => h) (Or.inl ⟨by rfl, ?_⟩) SB.out ?_
      rotate_left
      · intro w hw
        try dsimp only at hw
        go_simp
        try with_reducible rfl
      try simp only [Act.put, List.setIfInBounds_toArray, List.set_cons_zero, List.set_cons_succ]
      refine takeL (i := 3) (v := ?_) rfl (by kernel_rfl) (by kernel_rfl) (by kernel_rfl) (fun _ _ _ h => h) (Or.inl ⟨by rfl, ?_⟩) SB.out ?_
      rotate_left
      · intro w hw
        try dsimp only at hw
        go_simp
        try with_reducible rfl
      try simp only [Act.put, List.setIfInBounds_toArray, List.set_cons_zero, List.set_cons_succ]
      refine takeL (i := 4) (v := .agg X.toArray) rfl (by kernel_rfl) (by kernel_rfl) (by kernel_rfl) (fun _ _ _ h => h) (Or.inl ⟨by rfl, fun wz hwz => exec_load_at wz 46 (.tmp 12) rfl (a.add (i * 32)) X _ Try.underlying46 rfl HSZ.out (fun j u hu => (hwz.cell (by rw [addr_block, addr_block]; exact HAB.out)).trans (CK.out j u hu)) (by go_simp)⟩) SB.out ?_
      try simp only [Act.put, List.setIfInBounds_toArray, List.set_cons_zero, List.set_cons_succ]
      refine takeL (i := 5) (v := ?_) rfl (by kernel_rfl) (by kernel_rfl) (by kernel_rfl) (fun _ _ _ h => h) (Or.inl ⟨by rfl, ?_⟩) SB.out ?_
      rotate_left
      · intro w hw
        try dsimp only at hw
        go_simp
        try with_reducible rfl
      try simp only [Act.put, List.setIfInBounds_toArray, List.set_cons_zero, List.set_cons_succ]
      refine takeL (i := 6) (v := ?_) rfl (by kernel_rfl) (by kernel_rfl) (by kernel_rfl) (fun _ _ _ h => h) (Or.inl ⟨by rfl, ?_⟩) SB.out ?_
      rotate_left
      · intro w hw
        try dsimp only at hw
        go_simp
        try with_reducible rfl
      try simp only [Act.put, List.setIfInBounds_toArray, List.set_cons_zero, List.set_cons_succ]
      refine takeL (i := 7) (v := ?_) rfl (by kernel_rfl) (by kernel_rfl) (by kernel_rfl) (fun _ _ _ h => h) (Or.inl ⟨by rfl, ?_⟩) SB.out ?_
      rotate_left
      · intro wz hwz
        try dsimp only at hwz
        have q := (hwz.cell (p := ⟨w.heap.size, 1, none⟩) HLT.out.1).trans C1.out
        go_simp
        try with_reducible rfl
      try simp only [Act.put, List.setIfInBounds_toArray, List.set_cons_zero, List.set_cons_succ]
      refine takeL (i := 8) (v := ?_) rfl (by kernel_rfl) (by kernel_rfl) (by kernel_rfl) (fun _ _ _ h => h) (Or.inl ⟨by rfl, ?_⟩) SB.out ?_
      rotate_left
      · intro w hw
        try dsimp only at hw
        go_simp
        try with_reducible rfl
      try simp only [Act.put, List.setIfInBounds_toArray, List.set_cons_zero, List.set_cons_succ]
      refine readyL (i := 9) rfl (by kernel_rfl) (by kernel_rfl) fun K hK => ?_
      go_simp
      refine hK.out _ _ (SB.out.alloc (Nat.le_refl _) _) ?_
      clear hK K
      try simp only [Act.put, List.setIfInBounds_toArray, List.set_cons_zero, List.set_cons_succ]
      refine readyL (i := 10) rfl (by kernel_rfl) (by kernel_rfl) fun K hK => ?_
      refine wp_store_new 46 (.tmp 5) (.tmp 13) rfl X HSZ.out H1.out ?_ ?_ ?_ ?_
      · rw [HXL.out]; rfl
      · go_simp
      · go_simp
      intro w1 hr1 hb1 hz1
      have R1 := Lib.hid hr1
      have B1 := Lib.hid hb1
      have Z1 := Lib.hid hz1
      clear hr1 hb1 hz1
      refine hK.out _ _ B1.out ?_
      clear hK K
      try simp only [Act.put]
      refine takeL (i := 11) (v := ?_) rfl (by kernel_rfl) (by kernel_rfl) (by kernel_rfl) (fun _ _ _ h => h) (Or.inl ⟨by rfl, ?_⟩) B1.out ?_
      rotate_left
      · intro w hw
        try dsimp only at hw
        go_simp
        try with_reducible rfl
      try simp only [Act.put, List.setIfInBounds_toArray, List.set_cons_zero, List.set_cons_succ]
      refine wpAnyH_done (by kernel_rfl) ?_ _
      have D1 := Lib.hid ((B1.out.cell (p := ⟨w.heap.size, 1, none⟩) HLT.out.1).trans C1.out)
      have D2 := Lib.hid ((B1.out.cell (p := ⟨w.heap.size, 2, none⟩) HLT.out.1).trans C2.out)
      have D3 := Lib.hid ((B1.out.cell (p := ⟨w.heap.size, 3, none⟩) HLT.out.1).trans C3.out)
      have D4 := Lib.hid ((B1.out.cell (p := ⟨w.heap.size, 4, none⟩) HLT.out.1).trans C4.out)
      have d1 := D1.out
      have d2 := D2.out
      have d3 := D3.out
      have d4 := D4.out
      go_wp2_with fail
      go_quiet (fail)
      have RZ2 := Lib.hid ((RZ.out.below B1.out HLT.out.2).drewN nq)
      have R2 := Lib.hid (R1.out.drewN nq)
      have B2 := Lib.hid (below_drewN (B1.out) nq)
      go_wp2_with fail
      clear d1 d2 d3 d4 D1 D2 D3 D4
      have RZ3 := Lib.hid RZ2.out.drew
      have R3 := Lib.hid R2.out.drew
      have B3 := Lib.hid B2.out.drew
      refine wp_region_held_drew (S := (fun V => Row V W.heap.size 46 X)) (by kernel_rfl) R3.out (fun _ => ?_)
      generalize (w1.drewN nq).drew = w2 at *
      refine takeL (i := 0) (v := .agg X.toArray) rfl (by kernel_rfl) (by kernel_rfl) (by kernel_rfl) (fun _ _ _ h => h) (Or.inl ⟨by rfl, fun wz hwz => exec_load_at wz 46 (.tmp 5) rfl ⟨W.heap.size, 0, none⟩ X _ Try.underlying46 rfl HSZ.out (fun j u hu => by rw [addr_row, Nat.zero_add]; exact (hwz.cell j).trans hu) (by go_simp)⟩) R3.out ?_
      try simp only [Act.put, List.setIfInBounds_toArray, List.set_cons_zero, List.set_cons_succ]
      refine takeL (i := 1) (v := ?_) rfl (by kernel_rfl) (by kernel_rfl) (by kernel_rfl) (fun _ _ _ h => h) (Or.inl ⟨by rfl, ?_⟩) R3.out ?_
      rotate_left
      · intro w hw
        try dsimp only at hw
        go_simp
        try with_reducible rfl
      try simp only [Act.put, List.setIfInBounds_toArray, List.set_cons_zero, List.set_cons_succ]
      refine takeL (i := 2) (v := ?_) rfl (by kernel_rfl) (by kernel_rfl) (by kernel_rfl) (fun _ _ _ h => h) (Or.inl ⟨by rfl, ?_⟩) R3.out ?_
      rotate_left
      · intro w hw
        try dsimp only at hw
        go_simp
        try with_reducible rfl
      try simp only [Act.put, List.setIfInBounds_toArray, List.set_cons_zero, List.set_cons_succ]
      refine takeL (i := 3) (v := ?_) rfl (by kernel_rfl) (by kernel_rfl) (by kernel_rfl) (fun _ _ _ h => h) (Or.inl ⟨by rfl, ?_⟩) R3.out ?_
      rotate_left
      · intro w hw
        try dsimp only at hw
        go_simp
        try with_reducible rfl
      try simp only [Act.put, List.setIfInBounds_toArray, List.set_cons_zero, List.set_cons_succ]
      refine takeL (i := 4) (v := ?_) rfl (by kernel_rfl) (by kernel_rfl) (by kernel_rfl) (fun _ _ _ h => h) (Or.inl ⟨by rfl, ?_⟩) R3.out ?_
      rotate_left
      · intro w hw
        try dsimp only at hw
        go_simp
        try with_reducible rfl
      try simp only [Act.put, List.setIfInBounds_toArray, List.set_cons_zero, List.set_cons_succ]
      refine takeL (i := 5) (v := ?_) rfl (by kernel_rfl) (by kernel_rfl) (by kernel_rfl) (fun _ _ _ h => h) (Or.inl ⟨by rfl, ?_⟩) R3.out ?_
      rotate_left
      · intro w hw
        try dsimp only at hw
        go_simp
        try with_reducible rfl
      try simp only [Act.put, List.setIfInBounds_toArray, List.set_cons_zero, List.set_cons_succ]
      have R4 := R3
      have RZ4 := RZ3
      have B4 := B3
      refine takeL (i := 6) (v := undef) rfl (by kernel_rfl) (by kernel_rfl) (by kernel_rfl) (fun _ _ _ h => h) (Or.inr ⟨by rfl, rfl⟩) R4.out ?_
      try simp only [Act.put, List.setIfInBounds_toArray, List.set_cons_zero, List.set_cons_succ]
      refine takeL (i := 7) (v := undef) rfl (by kernel_rfl) (by kernel_rfl) (by kernel_rfl) (fun _ _ _ h => h) (Or.inr ⟨by rfl, rfl⟩) R4.out ?_
      try simp only [Act.put, List.setIfInBounds_toArray, List.set_cons_zero, List.set_cons_succ]
      refine takeL (i := 8) (v := undef) rfl (by kernel_rfl) (by kernel_rfl) (by kernel_rfl) (fun _ _ _ h => h) (Or.inr ⟨by rfl, rfl⟩) R4.out ?_
      try simp only [Act.put, List.setIfInBounds_toArray, List.set_cons_zero, List.set_cons_succ]
      refine takeL (i := 9) (v := ?_) rfl (by kernel_rfl) (by kernel_rfl) (by kernel_rfl) (fun _ _ _ h => h) (Or.inl ⟨by rfl, ?_⟩) R4.out ?_
      rotate_left
      · intro w hw
        try dsimp only at hw
        go_simp
        try with_reducible rfl
      try simp only [Act.put, List.setIfInBounds_toArray, List.set_cons_zero, List.set_cons_succ]
      refine takeL (i := 10) (v := .agg (X ++ [Value.bool true, .bool false]).toArray) rfl (by kernel_rfl) (by kernel_rfl) (by kernel_rfl) (fun _ _ _ h => h) (Or.inl ⟨by rfl, fun wz hwz => exec_built wz _ _ _ rfl (by simp only [List.map_toArray, List.map_cons, List.map_nil]; exact built_role HXL.out _ _)⟩) R4.out ?_
      try simp only [Act.put, List.setIfInBounds_toArray, List.set_cons_zero, List.set_cons_succ]
      refine readyL (i := 11) rfl (by kernel_rfl) (by kernel_rfl) fun K hK => ?_
      refine wp_store_whole 48 (.tmp 4) (.tmp 46) rfl (w.heap.size + 1) r0.cells (X ++ [.bool true, .bool false]) RZ4.out (HSR.out _ _) (HSL.out _ _) (HSO.out _ _) ?_ ?_ ?_
      · go_simp
      · go_simp
      intro w5 hr5 ht5
      have RZ5 := Lib.hid hr5
      have B5 := Lib.hid ((HB0.out.trans (B4.out.mono HB0.out.size)).trans (ht5.below (Nat.le_succ _)))
      have R5 := Lib.hid (ht5.row R4.out (by have := HLT.out.2; omega))
      clear hr5 ht5
      refine hK.out _ _ R5.out ?_
      clear hK K
      try simp only [Act.put]
      refine wpAnyH_done (by kernel_rfl) ?_ _
      go_wp2_with fail
      refine bodyPost_ret (results_cell_row (h := rfl) _ w5 (w.heap.size + 1) 48 _ (0, 0) _ (by rfl) RZ5.out.is Try.underlying48 rfl (HSR.out _ _)) rfl ?_
      exact ⟨by rw [HQ.out], B5.out⟩
  · by_cases hwr : (i : Int) < (n : Int) - o
    · have hsf : decide ((i : Int) < s) = false := decide_eq_false hsg
      have HQ : Hid (RC = X ++ [.bool false, .bool (!bb)]) := Lib.hid (by rw [HQ0.out, HBL.out]; simp [hsg, hwr])
      clear HQ0 HBL
      go_enter Try.func34, Try.ntmps34
      go_upto_region 1 with fail
      rw [HX.out]
      rotate_left
      · kernel_rfl
      clear HX
      refine wp_region_held_drew (S := (fun V => Below W.heap.size W V)) (by kernel_rfl) (Below.refl W.heap.size W).drew (fun _ => ?_)
      have SB := Lib.hid (Below.refl W.heap.size W).drew
      refine takeL (i := 0) (v := ?_) rfl (by kernel_rfl) (by kernel_rfl) (by kernel_rfl) (fun _ _ _ h => h) (Or.inl ⟨by rfl, ?_⟩) SB.out ?_
      rotate_left
      · intro w hw
        try dsimp only at hw
        go_simp
        try with_reducible rfl
      try simp only [Act.put, List.setIfInBounds_toArray, List.set_cons_zero, List.set_cons_succ]
      refine takeL (i := 1) (v := ?_) rfl (by kernel_rfl) (by kernel_rfl) (by kernel_rfl) (fun _ _ _ h => h) (Or.inl ⟨by rfl, ?_⟩) SB.out ?_
      rotate_left
      · intro wz hwz
        try dsimp only at hwz
        have q := (hwz.cell (p := ⟨w.heap.size, 4, none⟩) HLT.out.1).trans C4.out
        go_simp
        try with_reducible rfl
      try simp only [Act.put, List.setIfInBounds_toArray, List.set_cons_zero, List.set_cons_succ]
      refine takeL (i := 2) (v := ?_) rfl (by kernel_rfl) (by kernel_rfl) (by kernel_rfl) (fun _ _ _ h => h) (Or.inl ⟨by rfl, ?_⟩) SB.out ?_
      rotate_left
      · intro w hw
        try dsimp only at hw
        go_simp
        try with_reducible rfl
      try simp only [Act.put, List.setIfInBounds_toArray, List.set_cons_zero, List.set_cons_succ]
      refine takeL (i := 3) (v := ?_) rfl (by kernel_rfl) (by kernel_rfl) (by kernel_rfl) (fun _ _ _ h => h) (Or.inl ⟨by rfl, ?_⟩) SB.out ?_
      rotate_left
      · intro w hw
        try dsimp only at hw
        go_simp
        try with_reducible rfl
      try simp only [Act.put, List.setIfInBounds_toArray, List.set_cons_zero, List.set_cons_succ]
      refine takeL (i := 4) (v := .agg X.toArray) rfl (by kernel_rfl) (by kernel_rfl) (by kernel_rfl) (fun _ _ _ h => h) (Or.inl ⟨by rfl, fun wz hwz => exec_load_at wz 46 (.tmp 12) rfl (a.add (i * 32)) X _ Try.underlying46 rfl HSZ.out (fun j u hu => (hwz.cell (by rw [addr_block, addr_block]; exact HAB.out)).trans (CK.out j u hu)) (by go_simp)⟩) SB.out ?_
      try simp only [Act.put, List.setIfInBounds_toArray, List.set_cons_zero, List.set_cons_succ]
      refine takeL (i := 5) (v := ?_) rfl (by kernel_rfl) (by kernel_rfl) (by kernel_rfl) (fun _ _ _ h => h) (Or.inl ⟨by rfl, ?_⟩) SB.out ?_
      rotate_left
      · intro w hw
        try dsimp only at hw
        go_simp
        try with_reducible rfl
      try simp only [Act.put, List.setIfInBounds_toArray, List.set_cons_zero, List.set_cons_succ]
      refine takeL (i := 6) (v := ?_) rfl (by kernel_rfl) (by kernel_rfl) (by kernel_rfl) (fun _ _ _ h => h) (Or.inl ⟨by rfl, ?_⟩) SB.out ?_
      rotate_left
      · intro w hw
        try dsimp only at hw
        go_simp
        try with_reducible rfl
      try simp only [Act.put, List.setIfInBounds_toArray, List.set_cons_zero, List.set_cons_succ]
      refine takeL (i := 7) (v := ?_) rfl (by kernel_rfl) (by kernel_rfl) (by kernel_rfl) (fun _ _ _ h => h) (Or.inl ⟨by rfl, ?_⟩) SB.out ?_
      rotate_left
      · intro wz hwz
        try dsimp only at hwz
        have q := (hwz.cell (p := ⟨w.heap.size, 1, none⟩) HLT.out.1).trans C1.out
        go_simp
        try with_reducible rfl
      try simp only [Act.put, List.setIfInBounds_toArray, List.set_cons_zero, List.set_cons_succ]
      refine takeL (i := 8) (v := ?_) rfl (by kernel_rfl) (by kernel_rfl) (by kernel_rfl) (fun _ _ _ h => h) (Or.inl ⟨by rfl, ?_⟩) SB.out ?_
      rotate_left
      · intro w hw
        try dsimp only at hw
        go_simp
        try with_reducible rfl
      try simp only [Act.put, List.setIfInBounds_toArray, List.set_cons_zero, List.set_cons_succ]
      refine readyL (i := 9) rfl (by kernel_rfl) (by kernel_rfl) fun K hK => ?_
      go_simp
      refine hK.out _ _ (SB.out.alloc (Nat.le_refl _) _) ?_
      clear hK K
      try simp only [Act.put, List.setIfInBounds_toArray, List.set_cons_zero, List.set_cons_succ]
      refine readyL (i := 10) rfl (by kernel_rfl) (by kernel_rfl) fun K hK => ?_
      refine wp_store_new 46 (.tmp 5) (.tmp 13) rfl X HSZ.out H1.out ?_ ?_ ?_ ?_
      · rw [HXL.out]; rfl
      · go_simp
      · go_simp
      intro w1 hr1 hb1 hz1
      have R1 := Lib.hid hr1
      have B1 := Lib.hid hb1
      have Z1 := Lib.hid hz1
      clear hr1 hb1 hz1
      refine hK.out _ _ B1.out ?_
      clear hK K
      try simp only [Act.put]
      refine takeL (i := 11) (v := ?_) rfl (by kernel_rfl) (by kernel_rfl) (by kernel_rfl) (fun _ _ _ h => h) (Or.inl ⟨by rfl, ?_⟩) B1.out ?_
      rotate_left
      · intro w hw
        try dsimp only at hw
        go_simp
        try with_reducible rfl
      try simp only [Act.put, List.setIfInBounds_toArray, List.set_cons_zero, List.set_cons_succ]
      refine wpAnyH_done (by kernel_rfl) ?_ _
      have D1 := Lib.hid ((B1.out.cell (p := ⟨w.heap.size, 1, none⟩) HLT.out.1).trans C1.out)
      have D2 := Lib.hid ((B1.out.cell (p := ⟨w.heap.size, 2, none⟩) HLT.out.1).trans C2.out)
      have D3 := Lib.hid ((B1.out.cell (p := ⟨w.heap.size, 3, none⟩) HLT.out.1).trans C3.out)
      have D4 := Lib.hid ((B1.out.cell (p := ⟨w.heap.size, 4, none⟩) HLT.out.1).trans C4.out)
      have d1 := D1.out
      have d2 := D2.out
      have d3 := D3.out
      have d4 := D4.out
      go_wp2_with fail
      go_quiet (fail)
      have RZ2 := Lib.hid ((RZ.out.below B1.out HLT.out.2).drewN nq)
      have R2 := Lib.hid (R1.out.drewN nq)
      have B2 := Lib.hid (below_drewN (B1.out) nq)
      go_wp2_with fail
      clear d1 d2 d3 d4 D1 D2 D3 D4
      have RZ3 := Lib.hid RZ2.out.drew
      have R3 := Lib.hid R2.out.drew
      have B3 := Lib.hid B2.out.drew
      refine wp_region_held_drew (S := (fun V => Row V W.heap.size 46 X)) (by kernel_rfl) R3.out (fun _ => ?_)
      generalize (w1.drewN nq).drew = w2 at *
      refine takeL (i := 0) (v := .agg X.toArray) rfl (by kernel_rfl) (by kernel_rfl) (by kernel_rfl) (fun _ _ _ h => h) (Or.inl ⟨by rfl, fun wz hwz => exec_load_at wz 46 (.tmp 5) rfl ⟨W.heap.size, 0, none⟩ X _ Try.underlying46 rfl HSZ.out (fun j u hu => by rw [addr_row, Nat.zero_add]; exact (hwz.cell j).trans hu) (by go_simp)⟩) R3.out ?_
      try simp only [Act.put, List.setIfInBounds_toArray, List.set_cons_zero, List.set_cons_succ]
      refine takeL (i := 1) (v := ?_) rfl (by kernel_rfl) (by kernel_rfl) (by kernel_rfl) (fun _ _ _ h => h) (Or.inl ⟨by rfl, ?_⟩) R3.out ?_
      rotate_left
      · intro w hw
        try dsimp only at hw
        go_simp
        try with_reducible rfl
      try simp only [Act.put, List.setIfInBounds_toArray, List.set_cons_zero, List.set_cons_succ]
      refine takeL (i := 2) (v := ?_) rfl (by kernel_rfl) (by kernel_rfl) (by kernel_rfl) (fun _ _ _ h => h) (Or.inl ⟨by rfl, ?_⟩) R3.out ?_
      rotate_left
      · intro w hw
        try dsimp only at hw
        go_simp
        try with_reducible rfl
      try simp only [Act.put, List.setIfInBounds_toArray, List.set_cons_zero, List.set_cons_succ]
      refine takeL (i := 3) (v := ?_) rfl (by kernel_rfl) (by kernel_rfl) (by kernel_rfl) (fun _ _ _ h => h) (Or.inl ⟨by rfl, ?_⟩) R3.out ?_
      rotate_left
      · intro w hw
        try dsimp only at hw
        go_simp
        try with_reducible rfl
      try simp only [Act.put, List.setIfInBounds_toArray, List.set_cons_zero, List.set_cons_succ]
      refine takeL (i := 4) (v := ?_) rfl (by kernel_rfl) (by kernel_rfl) (by kernel_rfl) (fun _ _ _ h => h) (Or.inl ⟨by rfl, ?_⟩) R3.out ?_
      rotate_left
      · intro w hw
        try dsimp only at hw
        go_simp
        try with_reducible rfl
      try simp only [Act.put, List.setIfInBounds_toArray, List.set_cons_zero, List.set_cons_succ]
      refine takeL (i := 5) (v := ?_) rfl (by kernel_rfl) (by kernel_rfl) (by kernel_rfl) (fun _ _ _ h => h) (Or.inl ⟨by rfl, ?_⟩) R3.out ?_
      rotate_left
      · intro w hw
        try dsimp only at hw
        go_simp
        try with_reducible rfl
      try simp only [Act.put, List.setIfInBounds_toArray, List.set_cons_zero, List.set_cons_succ]
      refine takeL (i := 6) (v := .agg X.toArray) rfl (by kernel_rfl) (by kernel_rfl) (by kernel_rfl) (fun _ _ _ h => h) (Or.inl ⟨by rfl, fun wz hwz => exec_load_at wz 46 (.tmp 5) rfl ⟨W.heap.size, 0, none⟩ X _ Try.underlying46 rfl HSZ.out (fun j u hu => by rw [addr_row, Nat.zero_add]; exact (hwz.cell j).trans hu) (by go_simp)⟩) R3.out ?_
      try simp only [Act.put, List.setIfInBounds_toArray, List.set_cons_zero, List.set_cons_succ]
      refine readyL (i := 7) rfl (by kernel_rfl) (by kernel_rfl) fun K hK => ?_
      go_simp
      refine (HKN.out _).mono ?_
      rintro e w3 ⟨rfl, hb3⟩
      have R4 := Lib.hid (R3.out.below hb3 R3.out.lt)
      have RZ4 := Lib.hid (RZ3.out.below hb3 RZ3.out.lt)
      have B4 := Lib.hid (B3.out.trans (hb3.mono B3.out.size))
      clear hb3
      refine hK.out _ _ R4.out ?_
      clear hK K
      try simp only [Act.put, List.setIfInBounds_toArray, List.set_cons_zero, List.set_cons_succ]
      refine takeL (i := 8) (v := ?_) rfl (by kernel_rfl) (by kernel_rfl) (by kernel_rfl) (fun _ _ _ h => h) (Or.inl ⟨by rfl, ?_⟩) R4.out ?_
      rotate_left
      · intro w hw
        try dsimp only at hw
        go_simp
        try with_reducible rfl
      try simp only [Act.put, List.setIfInBounds_toArray, List.set_cons_zero, List.set_cons_succ]
      refine takeL (i := 9) (v := ?_) rfl (by kernel_rfl) (by kernel_rfl) (by kernel_rfl) (fun _ _ _ h => h) (Or.inl ⟨by rfl, ?_⟩) R4.out ?_
      rotate_left
      · intro w hw
        try dsimp only at hw
        go_simp
        try with_reducible rfl
      try simp only [Act.put, List.setIfInBounds_toArray, List.set_cons_zero, List.set_cons_succ]
      refine takeL (i := 10) (v := .agg (X ++ [Value.bool false, .bool (!bb)]).toArray) rfl (by kernel_rfl) (by kernel_rfl) (by kernel_rfl) (fun _ _ _ h => h) (Or.inl ⟨by rfl, fun wz hwz => exec_built wz _ _ _ rfl (by simp only [List.map_toArray, List.map_cons, List.map_nil]; exact built_role HXL.out _ _)⟩) R4.out ?_
      try simp only [Act.put, List.setIfInBounds_toArray, List.set_cons_zero, List.set_cons_succ]
      refine readyL (i := 11) rfl (by kernel_rfl) (by kernel_rfl) fun K hK => ?_
      refine wp_store_whole 48 (.tmp 4) (.tmp 46) rfl (w.heap.size + 1) r0.cells (X ++ [.bool false, .bool (!bb)]) RZ4.out (HSR.out _ _) (HSL.out _ _) (HSO.out _ _) ?_ ?_ ?_
      · go_simp
      · go_simp
      intro w5 hr5 ht5
      have RZ5 := Lib.hid hr5
      have B5 := Lib.hid ((HB0.out.trans (B4.out.mono HB0.out.size)).trans (ht5.below (Nat.le_succ _)))
      have R5 := Lib.hid (ht5.row R4.out (by have := HLT.out.2; omega))
      clear hr5 ht5
      refine hK.out _ _ R5.out ?_
      clear hK K
      try simp only [Act.put]
      refine wpAnyH_done (by kernel_rfl) ?_ _
      go_wp2_with fail
      refine bodyPost_ret (results_cell_row (h := rfl) _ w5 (w.heap.size + 1) 48 _ (0, 0) _ (by rfl) RZ5.out.is Try.underlying48 rfl (HSR.out _ _)) rfl ?_
      exact ⟨by rw [HQ.out], B5.out⟩
    · have hwf : decide ((i : Int) < (n : Int) - o) = false := decide_eq_false hwr
      have hsf : decide ((i : Int) < s) = false := decide_eq_false hsg
      have HQ : Hid (RC = X ++ [.bool false, .bool false]) := Lib.hid (by rw [HQ0.out, HBL.out]; simp [hsg, hwr])
      clear HQ0 HBL
      go_enter Try.func34, Try.ntmps34
      go_upto_region 1 with fail
      rw [HX.out]
      rotate_left
      · kernel_rfl
      clear HX
      refine wp_region_held_drew (S := (fun V => Below W.heap.size W V)) (by kernel_rfl) (Below.refl W.heap.size W).drew (fun _ => ?_)
      have SB := Lib.hid (Below.refl W.heap.size W).drew
      refine takeL (i := 0) (v := ?_) rfl (by kernel_rfl) (by kernel_rfl) (by kernel_rfl) (fun _ _ _ h => h) (Or.inl ⟨by rfl, ?_⟩) SB.out ?_
      rotate_left
      · intro w hw
        try dsimp only at hw
        go_simp
        try with_reducible rfl
      try simp only [Act.put, List.setIfInBounds_toArray, List.set_cons_zero, List.set_cons_succ]
      refine takeL (i := 1) (v := ?_) rfl (by kernel_rfl) (by kernel_rfl) (by kernel_rfl) (fun _ _ _ h => h) (Or.inl ⟨by rfl, ?_⟩) SB.out ?_
      rotate_left
      · intro wz hwz
        try dsimp only at hwz
        have q := (hwz.cell (p := ⟨w.heap.size, 4, none⟩) HLT.out.1).trans C4.out
        go_simp
        try with_reducible rfl
      try simp only [Act.put, List.setIfInBounds_toArray, List.set_cons_zero, List.set_cons_succ]
      refine takeL (i := 2) (v := ?_) rfl (by kernel_rfl) (by kernel_rfl) (by kernel_rfl) (fun _ _ _ h => h) (Or.inl ⟨by rfl, ?_⟩) SB.out ?_
      rotate_left
      · intro w hw
        try dsimp only at hw
        go_simp
        try with_reducible rfl
      try simp only [Act.put, List.setIfInBounds_toArray, List.set_cons_zero, List.set_cons_succ]
      refine takeL (i := 3) (v := ?_) rfl (by kernel_rfl) (by kernel_rfl) (by kernel_rfl) (fun _ _ _ h => h) (Or.inl ⟨by rfl, ?_⟩) SB.out ?_
      rotate_left
      · intro w hw
        try dsimp only at hw
        go_simp
        try with_reducible rfl
      try simp only [Act.put, List.setIfInBounds_toArray, List.set_cons_zero, List.set_cons_succ]
      refine takeL (i := 4) (v := .agg X.toArray) rfl (by kernel_rfl) (by kernel_rfl) (by kernel_rfl) (fun _ _ _ h => h) (Or.inl ⟨by rfl, fun wz hwz => exec_load_at wz 46 (.tmp 12) rfl (a.add (i * 32)) X _ Try.underlying46 rfl HSZ.out (fun j u hu => (hwz.cell (by rw [addr_block, addr_block]; exact HAB.out)).trans (CK.out j u hu)) (by go_simp)⟩) SB.out ?_
      try simp only [Act.put, List.setIfInBounds_toArray, List.set_cons_zero, List.set_cons_succ]
      refine takeL (i := 5) (v := ?_) rfl (by kernel_rfl) (by kernel_rfl) (by kernel_rfl) (fun _ _ _ h => h) (Or.inl ⟨by rfl, ?_⟩) SB.out ?_
      rotate_left
      · intro w hw
        try dsimp only at hw
        go_simp
        try with_reducible rfl
      try simp only [Act.put, List.setIfInBounds_toArray, List.set_cons_zero, List.set_cons_succ]
      refine takeL (i := 6) (v := ?_) rfl (by kernel_rfl) (by kernel_rfl) (by kernel_rfl) (fun _ _ _ h => h) (Or.inl ⟨by rfl, ?_⟩) SB.out ?_
      rotate_left
      · intro w hw
        try dsimp only at hw
        go_simp
        try with_reducible rfl
      try simp only [Act.put, List.setIfInBounds_toArray, List.set_cons_zero, List.set_cons_succ]
      refine takeL (i := 7) (v := ?_) rfl (by kernel_rfl) (by kernel_rfl) (by kernel_rfl) (fun _ _ _ h => h) (Or.inl ⟨by rfl, ?_⟩) SB.out ?_
      rotate_left
      · intro wz hwz
        try dsimp only at hwz
        have q := (hwz.cell (p := ⟨w.heap.size, 1, none⟩) HLT.out.1).trans C1.out
        go_simp
        try with_reducible rfl
      try simp only [Act.put, List.setIfInBounds_toArray, List.set_cons_zero, List.set_cons_succ]
      refine takeL (i := 8) (v := ?_) rfl (by kernel_rfl) (by kernel_rfl) (by kernel_rfl) (fun _ _ _ h => h) (Or.inl ⟨by rfl, ?_⟩) SB.out ?_
      rotate_left
      · intro w hw
        try dsimp only at hw
        go_simp
        try with_reducible rfl
      try simp only [Act.put, List.setIfInBounds_toArray, List.set_cons_zero, List.set_cons_succ]
      refine readyL (i := 9) rfl (by kernel_rfl) (by kernel_rfl) fun K hK => ?_
      go_simp
      refine hK.out _ _ (SB.out.alloc (Nat.le_refl _) _) ?_
      clear hK K
      try simp only [Act.put, List.setIfInBounds_toArray, List.set_cons_zero, List.set_cons_succ]
      refine readyL (i := 10) rfl (by kernel_rfl) (by kernel_rfl) fun K hK => ?_
      refine wp_store_new 46 (.tmp 5) (.tmp 13) rfl X HSZ.out H1.out ?_ ?_ ?_ ?_
      · rw [HXL.out]; rfl
      · go_simp
      · go_simp
      intro w1 hr1 hb1 hz1
      have R1 := Lib.hid hr1
      have B1 := Lib.hid hb1
      have Z1 := Lib.hid hz1
      clear hr1 hb1 hz1
      refine hK.out _ _ B1.out ?_
      clear hK K
      try simp only [Act.put]
      refine takeL (i := 11) (v := ?_) rfl (by kernel_rfl) (by kernel_rfl) (by kernel_rfl) (fun _ _ _ h => h) (Or.inl ⟨by rfl, ?_⟩) B1.out ?_
      rotate_left
      · intro w hw
        try dsimp only at hw
        go_simp
        try with_reducible rfl
      try simp only [Act.put, List.setIfInBounds_toArray, List.set_cons_zero, List.set_cons_succ]
      refine wpAnyH_done (by kernel_rfl) ?_ _
      have D1 := Lib.hid ((B1.out.cell (p := ⟨w.heap.size, 1, none⟩) HLT.out.1).trans C1.out)
      have D2 := Lib.hid ((B1.out.cell (p := ⟨w.heap.size, 2, none⟩) HLT.out.1).trans C2.out)
      have D3 := Lib.hid ((B1.out.cell (p := ⟨w.heap.size, 3, none⟩) HLT.out.1).trans C3.out)
      have D4 := Lib.hid ((B1.out.cell (p := ⟨w.heap.size, 4, none⟩) HLT.out.1).trans C4.out)
      have d1 := D1.out
      have d2 := D2.out
      have d3 := D3.out
      have d4 := D4.out
      go_wp2_with fail
      go_quiet (fail)
      have RZ2 := Lib.hid ((RZ.out.below B1.out HLT.out.2).drewN nq)
      have R2 := Lib.hid (R1.out.drewN nq)
      have B2 := Lib.hid (below_drewN (B1.out) nq)
      go_wp2_with fail
      clear d1 d2 d3 d4 D1 D2 D3 D4
      have RZ3 := Lib.hid RZ2.out.drew
      have R3 := Lib.hid R2.out.drew
      have B3 := Lib.hid B2.out.drew
      refine wp_region_held_drew (S := (fun V => Row V W.heap.size 46 X)) (by kernel_rfl) R3.out (fun _ => ?_)
      generalize (w1.drewN nq).drew = w2 at *
      refine takeL (i := 0) (v := .agg X.toArray) rfl (by kernel_rfl) (by kernel_rfl) (by kernel_rfl) (fun _ _ _ h => h) (Or.inl ⟨by rfl, fun wz hwz => exec_load_at wz 46 (.tmp 5) rfl ⟨W.heap.size, 0, none⟩ X _ Try.underlying46 rfl HSZ.out (fun j u hu => by rw [addr_row, Nat.zero_add]; exact (hwz.cell j).trans hu) (by go_simp)⟩) R3.out ?_
      try simp only [Act.put, List.setIfInBounds_toArray, List.set_cons_zero, List.set_cons_succ]
      refine takeL (i := 1) (v := ?_) rfl (by kernel_rfl) (by kernel_rfl) (by kernel_rfl) (fun _ _ _ h => h) (Or.inl ⟨by rfl, ?_⟩) R3.out ?_
      rotate_left
      · intro w hw
        try dsimp only at hw
        go_simp
        try with_reducible rfl
      try simp only [Act.put, List.setIfInBounds_toArray, List.set_cons_zero, List.set_cons_succ]
      refine takeL (i := 2) (v := ?_) rfl (by kernel_rfl) (by kernel_rfl) (by kernel_rfl) (fun _ _ _ h => h) (Or.inl ⟨by rfl, ?_⟩) R3.out ?_
      rotate_left
      · intro w hw
        try dsimp only at hw
        go_simp
        try with_reducible rfl
      try simp only [Act.put, List.setIfInBounds_toArray, List.set_cons_zero, List.set_cons_succ]
      refine takeL (i := 3) (v := ?_) rfl (by kernel_rfl) (by kernel_rfl) (by kernel_rfl) (fun _ _ _ h => h) (Or.inl ⟨by rfl, ?_⟩) R3.out ?_
      rotate_left
      · intro w hw
        try dsimp only at hw
        go_simp
        try with_reducible rfl
      try simp only [Act.put, List.setIfInBounds_toArray, List.set_cons_zero, List.set_cons_succ]
      refine takeL (i := 4) (v := ?_) rfl (by kernel_rfl) (by kernel_rfl) (by kernel_rfl) (fun _ _ _ h => h) (Or.inl ⟨by rfl, ?_⟩) R3.out ?_
      rotate_left
      · intro w hw
        try dsimp only at hw
        go_simp
        try with_reducible rfl
      try simp only [Act.put, List.setIfInBounds_toArray, List.set_cons_zero, List.set_cons_succ]
      refine takeL (i := 5) (v := ?_) rfl (by kernel_rfl) (by kernel_rfl) (by kernel_rfl) (fun _ _ _ h => h) (Or.inl ⟨by rfl, ?_⟩) R3.out ?_
      rotate_left
      · intro w hw
        try dsimp only at hw
        go_simp
        try with_reducible rfl
      try simp only [Act.put, List.setIfInBounds_toArray, List.set_cons_zero, List.set_cons_succ]
      have R4 := R3
      have RZ4 := RZ3
      have B4 := B3
      refine takeL (i := 6) (v := undef) rfl (by kernel_rfl) (by kernel_rfl) (by kernel_rfl) (fun _ _ _ h => h) (Or.inr ⟨by rfl, rfl⟩) R4.out ?_
      try simp only [Act.put, List.setIfInBounds_toArray, List.set_cons_zero, List.set_cons_succ]
      refine takeL (i := 7) (v := undef) rfl (by kernel_rfl) (by kernel_rfl) (by kernel_rfl) (fun _ _ _ h => h) (Or.inr ⟨by rfl, rfl⟩) R4.out ?_
      try simp only [Act.put, List.setIfInBounds_toArray, List.set_cons_zero, List.set_cons_succ]
      refine takeL (i := 8) (v := undef) rfl (by kernel_rfl) (by kernel_rfl) (by kernel_rfl) (fun _ _ _ h => h) (Or.inr ⟨by rfl, rfl⟩) R4.out ?_
      try simp only [Act.put, List.setIfInBounds_toArray, List.set_cons_zero, List.set_cons_succ]
      refine takeL (i := 9) (v := ?_) rfl (by kernel_rfl) (by kernel_rfl) (by kernel_rfl) (fun _ _ _ h => h) (Or.inl ⟨by rfl, ?_⟩) R4.out ?_
      rotate_left
      · intro w hw
        try dsimp only at hw
        go_simp
        try with_reducible rfl
      try simp only [Act.put, List.setIfInBounds_toArray, List.set_cons_zero, List.set_cons_succ]
      refine takeL (i := 10) (v := .agg (X ++ [Value.bool false, .bool false]).toArray) rfl (by kernel_rfl) (by kernel_rfl) (by kernel_rfl) (fun _ _ _ h => h) (Or.inl ⟨by rfl, fun wz hwz => exec_built wz _ _ _ rfl (by simp only [List.map_toArray, List.map_cons, List.map_nil]; exact built_role HXL.out _ _)⟩) R4.out ?_
      try simp only [Act.put, List.setIfInBounds_toArray, List.set_cons_zero, List.set_cons_succ]
      refine readyL (i := 11) rfl (by kernel_rfl) (by kernel_rfl) fun K hK => ?_
      refine wp_store_whole 48 (.tmp 4) (.tmp 46) rfl (w.heap.size + 1) r0.cells (X ++ [.bool false, .bool false]) RZ4.out (HSR.out _ _) (HSL.out _ _) (HSO.out _ _) ?_ ?_ ?_
      · go_simp
      · go_simp
      intro w5 hr5 ht5
      have RZ5 := Lib.hid hr5
      have B5 := Lib.hid ((HB0.out.trans (B4.out.mono HB0.out.size)).trans (ht5.below (Nat.le_succ _)))
      have R5 := Lib.hid (ht5.row R4.out (by have := HLT.out.2; omega))
      clear hr5 ht5
      refine hK.out _ _ R5.out ?_
      clear hK K
      try simp only [Act.put]
      refine wpAnyH_done (by kernel_rfl) ?_ _
      go_wp2_with fail
      refine bodyPost_ret (results_cell_row (h := rfl) _ w5 (w.heap.size + 1) 48 _ (0, 0) _ (by rfl) RZ5.out.is Try.underlying48 rfl (HSR.out _ _)) rfl ?_
      exact ⟨by rw [HQ.out], B5.out⟩
end Go.Proofs.Ytkpdjjhkocmfoaa

/-
  Of part Twice7: what is needed here.
-/
namespace Go.Proofs.Ytkpdjjhkocmfoaa
open Go.RowKit Go.Maps
set_option linter.unusedVariables false
/-- a list of keys: where it lies -/
structure KL7 where
  A : Option Addr
  n : Nat
  c : Nat
  l : List (List Int)
def KL7.val (x : KL7) : Value := .slice x.A x.n x.c
/-- all keys of some lists -/
def cat (ls : List KL7) : List (List Int) := ls.flatMap fun x => x.l
def bT7 : DataW Unit := .lit (.bool true)
def KeyOk7 (k : List Int) : Prop := k.length = 32 ∧ AllBytes k
/-- it lies below block B, and is not great -/
structure KL7.In (w : World) (B : Nat) (x : KL7) : Prop where
  keys : KeysIn w B x.A x.n x.l
  ok : ∀ k ∈ x.l, KeyOk7 k
  most : x.n ≤ 4000
theorem KL7.In.below {w w' : World} {B : Nat} {x : KL7} (h : x.In w B) (hb : Below B w w') : x.In w' B := ⟨h.keys.below hb, h.ok, h.most⟩
theorem KL7.In.more {w : World} {B B' : Nat} {x : KL7} (h : x.In w B) (hB : B ≤ B') : x.In w B' := ⟨h.keys.more hB, h.ok, h.most⟩
theorem cat_take_succ {ls : List KL7} {k : Nat} {x : KL7} (h : ls[k]? = some x) : cat (ls.take (k + 1)) = cat (ls.take k) ++ x.l := by
  unfold cat
  rw [List.take_add_one, List.flatMap_append, h]
  simp
theorem cat_len {ls : List KL7} {w : World} {B : Nat} (h : ∀ x ∈ ls, x.In w B) : (cat ls).length ≤ 4000 * ls.length := by
  induction ls with
  | nil => simp [cat]
  | cons y r ih =>
    have h1 := ih fun x hx => h x (by simp [hx])
    have h2 := (h y (by simp)).keys.len
    have h3 := (h y (by simp)).most
    unfold cat at h1 ⊢
    rw [List.flatMap_cons, List.length_append, List.length_cons]
    omega
theorem cat_ok {ls : List KL7} {w : World} {B : Nat} (h : ∀ x ∈ ls, x.In w B) : ∀ k ∈ cat ls, KeyOk7 k := fun k hk => by
  unfold cat at hk
  obtain ⟨x, hx, hk⟩ := List.mem_flatMap.1 hk
  exact (h x hx).ok k hk
theorem nodup_snoc7 {l : List (List Int)} {x : List Int} : (l ++ [x]).Nodup ↔ l.Nodup ∧ x ∉ l := by
  rw [List.nodup_append]
  simp only [List.mem_singleton]
  constructor
  · rintro ⟨h1, _, h3⟩
    exact ⟨h1, fun hm => h3 x hm x rfl rfl⟩
  · rintro ⟨h1, h2⟩
    exact ⟨h1, by simp, fun a ha b hb e => h2 (by rw [← hb, ← e]; exact ha)⟩
theorem not_nodup_front {l r : List (List Int)} (h : ¬ l.Nodup) : ¬ (l ++ r).Nodup := fun hn => h (List.nodup_append.1 hn).1
theorem cat_front {ls : List KL7} {k : Nat} {x : KL7} (h : ls[k]? = some x) (j : Nat) : ∃ r, cat ls = cat (ls.take k) ++ x.l.take j ++ r := by
  refine ⟨x.l.drop j ++ cat (ls.drop (k + 1)), ?_⟩
  have e : ls = ls.take k ++ x :: ls.drop (k + 1) := by
    have h1 := (List.getElem?_eq_some_iff.1 h)
    obtain ⟨hk, hx⟩ := h1
    rw [← hx, List.getElem_cons_drop, List.take_append_drop]
  conv => lhs; rw [e]
  unfold cat
  rw [List.flatMap_append, List.flatMap_cons]
  conv => lhs; rw [← List.take_append_drop j x.l]
  simp only [List.append_assoc]
set_option maxRecDepth 100000 in
set_option maxHeartbeats 2000000 in
theorem twice7 (g N B : Nat) (ls : List KL7) (w : World) (hr : Row w g 25 (ls.map KL7.val)) (hN : ls.length = N) (hN3 : N ≤ 3) (hs : ∀ x ∈ ls, x.In w B) (hB : B ≤ w.heap.size) :
    Calls Try.prog 33 #[.slice (some ⟨g, 0, none⟩) N N] w fun e w' => e = .returned (.bool (decide (¬ (cat ls).Nodup))) ∧ Below w.heap.size w w' := by
  have hmm := @run_makeMap Try.prog
  have HIN := Lib.hid hs
  have HR := Lib.hid hr
  have HNL := Lib.hid hN
  have hz : ∀ u : World, (zeroValue 4).run Try.prog u = .ok (.bool false) u := zero_bool
  have HZ := Lib.hid hz
  clear hs hr hN hz
  go_enter Try.func33, Try.ntmps33
  go_wp2
  go_loopw [11] (fun i wr => ∃ k : Nat, k ≤ N ∧ i = .int .i64 k ∧ (cat (ls.take k)).Nodup ∧ wr.ownsMap Try.prog 46 (plainElem Try.prog 4) w.heap.size (cat (ls.take k)).length (KSet bT7 (cat (ls.take k))) ∧ Below w.heap.size w wr) (fun i _ => N - (intOf i).toNat)
  case atStart => exact ⟨0, Nat.zero_le _, rfl, by simp [cat], World.ownsMap_made _ _ _ _, (Below.refl _ _).alloc (Nat.le_refl _) _⟩
  case round =>
    obtain ⟨k, hk, rfl, hnd, hown, hbw⟩ := hrel
    have HND := Lib.hid hnd
    have HO := Lib.hid hown
    have HBW := Lib.hid hbw
    clear hnd hown hbw
    by_cases hlt : k < N
    · obtain ⟨x, hx⟩ : ∃ x, ls[k]? = some x := ⟨_, List.getElem?_eq_getElem (by rw [HNL.out]; exact hlt)⟩
      have HXI := Lib.hid (HIN.out x (List.mem_of_getElem? hx))
      have c0 : wr.cell? ⟨g, k, none⟩ = some (.slice x.A x.n x.c) := (HBW.out.cell (p := ⟨g, k, none⟩) HR.out.lt).trans (by rw [HR.out.cell, List.getElem?_map, hx]; rfl)
      have HPO : Hid (∀ y ∈ cat (ls.take k), KeyOk7 y) := Lib.hid (cat_ok (w := w) (B := B) fun y hy => HIN.out y (List.mem_of_mem_take hy))
      have HPL : Hid ((cat (ls.take k)).length ≤ 12000) := Lib.hid (by
        have := cat_len (w := w) (B := B) (ls := ls.take k) fun y hy => HIN.out y (List.mem_of_mem_take hy)
        rw [List.length_take] at this
        omega)
      have HFR : Hid (∀ j, ∃ r, cat ls = cat (ls.take k) ++ x.l.take j ++ r) := Lib.hid (cat_front hx)
      have HSU : Hid (cat (ls.take (k + 1)) = cat (ls.take k) ++ x.l) := Lib.hid (cat_take_succ hx)
      have hmost := HXI.out.most
      have HXL := Lib.hid HXI.out.keys.len
      obtain ⟨A, n, c, l⟩ := x
      dsimp only at c0 HXI HFR HSU hmost HXL
      clear hx
      generalize cat (ls.take k) = pre at *
      go_wp2
      obtain ⟨wm, hwm⟩ : ∃ u : World, u = wr := ⟨_, rfl⟩
      subst hwm
      go_loopw [17] (fun i wr => ∃ j : Nat, j ≤ n ∧ i = .int .i64 j ∧ (pre ++ l.take j).Nodup ∧ wr.ownsMap Try.prog 46 (plainElem Try.prog 4) w.heap.size (pre.length + j) (KSet bT7 (pre ++ l.take j)) ∧ Below w.heap.size w wr) (fun i _ => n - (intOf i).toNat)
      case atStart => exact ⟨0, Nat.zero_le _, rfl, by simpa using HND.out, by simpa using HO.out, HBW.out⟩
      case round =>
        clear HND HO HBW c0
        obtain ⟨j, hj, rfl, hnd, hown, hbw⟩ := hrel
        have HND := Lib.hid hnd
        have HO := Lib.hid hown
        have HBW := Lib.hid hbw
        clear hnd hown hbw
        by_cases hlt2 : j < n
        · obtain ⟨a, y, rfl, hab, hx, hat⟩ := (HXI.out.keys.below (HBW.out.mono hB)).get hlt2
          have hyb : KeyOk7 y := HXI.out.ok y (List.mem_of_getElem? hx)
          have HSZ := Lib.hid (show (Try.prog.info? 46).map (·.size) = some (bv y).length by rw [bv_length, hat.len]; exact size_key)
          have HYL := Lib.hid (show (bv y).length = 32 by rw [bv_length, hat.len])
          have HCE := Lib.hid hat.cells
          have HKL := Lib.hid (KL_is hyb.1 hyb.2)
          have hle : ∀ z ∈ pre ++ l.take j, z.length = 32 ∧ AllBytes z := fun z hz => by
            rcases List.mem_append.1 hz with hz | hz
            · exact HPO.out z hz
            · exact HXI.out.ok z (List.mem_of_mem_take hz)
          have hatk := KSet_at bT7 (.lit (.bool false)) (pre ++ l.take j) hle y hyb
          have HTK := Lib.hid (show pre ++ l.take (j + 1) = (pre ++ l.take j) ++ [y] by rw [List.take_add_one, hx, List.append_assoc]; rfl)
          have H1 := Lib.hid (bv_one y)
          have hpl := HPL.out
          generalize hcs : bv y = cs at *
          clear hcs
          by_cases hm : y ∈ pre ++ l.take j
          · have HC : Hid ((KSet bT7 (pre ++ l.take j)).atKey (KL y) (.lit (.bool false)) = .lit (.bool true)) := Lib.hid (by rw [hatk, if_pos hm]; rfl)
            have HQ : Hid (decide (¬ (cat ls).Nodup) = true) := Lib.hid (decide_eq_true (by
              obtain ⟨r, hr⟩ := HFR.out (j + 1)
              rw [hr]
              refine not_nodup_front ?_
              rw [HTK.out, nodup_snoc7]
              exact fun h => h.2 hm))
            clear hatk hm hle hyb hx hat
            go_wp2_with (first
              | ((with_reducible show wpList _ _ _ ({ dst := some 20, op := Op.load _ _, type := _, pos := _, after := _, guard := _ } :: _) _ _); go_must (refine wpList_load_at rfl 46 (.tmp 19) rfl (a.add (j * 32)) cs _ Try.underlying46 rfl HSZ.out HCE.out ?_ ?_; go_simp))
              | ((with_reducible show wpList _ _ _ ({ dst := none, op := Op.store 46 _ _, type := _, pos := _, after := _, guard := _ } :: _) _ _); go_must (refine wpList_store_new rfl 46 (.tmp 7) (.tmp 20) rfl cs HSZ.out H1.out (by rw [HYL.out]; rfl) ?_ ?_ ?_; go_simp; go_simp; intro w1 hr1 hb1 hz1; have R1 := Lib.hid hr1; have B1 := Lib.hid hb1; clear hr1 hb1 hz1))
              | ((with_reducible show wpList _ _ _ ({ dst := some 22, op := Op.load _ _, type := _, pos := _, after := _, guard := _ } :: _) _ _); go_must (refine wpList_load_whole rfl 46 (.tmp 7) rfl _ 46 cs _ Try.underlying46 rfl HSZ.out R1.out ?_ ?_; go_simp))
              | (at_lookup; go_must (refine wpList_lookup_own_bool _ rfl _ _ 56 rfl 46 4 key_law Try.underlying56 Try.underlying4 (HZ.out _) w.heap.size (pre.length + j) _ rfl (HO.out.kept (grown_none B1.out) (by simp)) _ _ rfl HKL.out true HC.out ?_)))
            go_ret
            exact ⟨told_bool HQ.out.symm, HBW.out.trans (B1.out.mono HBW.out.size)⟩
          · have HC : Hid ((KSet bT7 (pre ++ l.take j)).atKey (KL y) (.lit (.bool false)) = .lit (.bool false)) := Lib.hid (by rw [hatk, if_neg hm])
            have HQ : Hid ((pre ++ l.take (j + 1)).Nodup) := Lib.hid (by rw [HTK.out, nodup_snoc7]; exact ⟨HND.out, hm⟩)
            clear hatk hm hle hyb hx hat
            go_wp2_with (first
              | ((with_reducible show wpList _ _ _ ({ dst := some 20, op := Op.load _ _, type := _, pos := _, after := _, guard := _ } :: _) _ _); go_must (refine wpList_load_at rfl 46 (.tmp 19) rfl (a.add (j * 32)) cs _ Try.underlying46 rfl HSZ.out HCE.out ?_ ?_; go_simp))
              | ((with_reducible show wpList _ _ _ ({ dst := none, op := Op.store 46 _ _, type := _, pos := _, after := _, guard := _ } :: _) _ _); go_must (refine wpList_store_new rfl 46 (.tmp 7) (.tmp 20) rfl cs HSZ.out H1.out (by rw [HYL.out]; rfl) ?_ ?_ ?_; go_simp; go_simp; intro w1 hr1 hb1 hz1; have R1 := Lib.hid hr1; have B1 := Lib.hid hb1; clear hr1 hb1 hz1))
              | ((with_reducible show wpList _ _ _ ({ dst := some 22, op := Op.load _ _, type := _, pos := _, after := _, guard := _ } :: _) _ _); go_must (refine wpList_load_whole rfl 46 (.tmp 7) rfl _ 46 cs _ Try.underlying46 rfl HSZ.out R1.out ?_ ?_; go_simp))
              | ((with_reducible show wpList _ _ _ ({ dst := some 25, op := Op.load _ _, type := _, pos := _, after := _, guard := _ } :: _) _ _); go_must (refine wpList_load_whole rfl 46 (.tmp 7) rfl _ 46 cs _ Try.underlying46 rfl HSZ.out R1.out ?_ ?_; go_simp))
              | (at_lookup; go_must (refine wpList_lookup_own_bool _ rfl _ _ 56 rfl 46 4 key_law Try.underlying56 Try.underlying4 (HZ.out _) w.heap.size (pre.length + j) _ rfl (HO.out.kept (grown_none B1.out) (by simp)) _ _ rfl HKL.out false HC.out ?_))
              | (at_mapUpdate; go_must (refine wpList_mapUpdate_own _ rfl _ _ _ 56 rfl 46 4 key_law Try.underlying56 _ w.heap.size (pre.length + j) _ rfl (HO.out.kept (grown_none B1.out) (by simp)) (by unfold maxLen; omega) _ _ _ rfl rfl HKL.out bT7 [] (plainElem_bool Try.underlying4 true) ?_); intro w2 hown2 hgr2; have O2 := Lib.hid hown2; have G2 := Lib.hid hgr2; clear hown2 hgr2))
            go_roundw
            case rel => exact ⟨j + 1, by omega, by go_num, HQ.out, by rw [HTK.out, KSet_snoc]; exact O2.out, (HBW.out.trans (B1.out.mono HBW.out.size)).grown G2.out (HBW.out.trans (B1.out.mono HBW.out.size)).size (fun j hj => by cases hj; exact Nat.le_refl _)⟩
            case measure => simp [intOf]; omega
        · have hkn : j = n := by omega
          have HE : Hid ((pre ++ l).Nodup ∧ wr.ownsMap Try.prog 46 (plainElem Try.prog 4) w.heap.size (pre ++ l).length (KSet bT7 (pre ++ l))) := Lib.hid (by
            have h1 := HND.out
            have h2 := HO.out
            rw [hkn, List.take_of_length_le (by rw [HXL.out]; exact Nat.le_refl _)] at h1 h2
            exact ⟨h1, by rw [List.length_append, HXL.out]; exact h2⟩)
          clear hkn HND HO
          go_wp2
          go_roundw
          case rel => exact ⟨k + 1, by omega, by go_num, by rw [HSU.out]; exact HE.out.1, by rw [HSU.out]; exact HE.out.2, HBW.out⟩
          case measure => simp [intOf]; omega
    · have hkn : k = N := by omega
      have HE : Hid (decide (¬ (cat ls).Nodup) = false) := Lib.hid (by
        have h1 := HND.out
        rw [hkn, List.take_of_length_le (by rw [HNL.out]; exact Nat.le_refl _)] at h1
        exact decide_eq_false (fun h => h h1))
      clear hkn
      go_wp2
      go_ret
      exact ⟨told_bool HE.out.symm, HBW.out⟩
end Go.Proofs.Ytkpdjjhkocmfoaa

/-
  Of part Of7: what is needed here.
-/
namespace Go.Proofs.Ytkpdjjhkocmfoaa
open Go.RowKit
set_option linter.unusedVariables false
def ownRoles (m : LMsg) (j : Nat) : List LRole := (List.range j).map fun i => ownRole m (m.keys.getD i []) i
def wRole (k : List Int) : LRole := ⟨k, false, !kn k⟩
def rRole (k : List Int) : LRole := ⟨k, false, false⟩
/-- all keys' roles -/
def rolesL (m : LMsg) (wl rl : List (List Int)) : List LRole := ownRoles m m.keys.length ++ (wl.map wRole ++ rl.map rRole)
def cellsR (L : List LRole) : List Value := (L.map LRole.cells).flatten
theorem cellsR_snoc (L : List LRole) (r : LRole) : cellsR (L ++ [r]) = cellsR L ++ r.cells := by simp [cellsR]
theorem ownRoles_succ (m : LMsg) (k : Nat) : ownRoles m (k + 1) = ownRoles m k ++ [ownRole m (m.keys.getD k []) k] := by
  unfold ownRoles
  rw [List.range_succ, List.map_append]
  rfl
theorem ownRoles_len (m : LMsg) (k : Nat) : (ownRoles m k).length = k := by simp [ownRoles]
theorem map_take_succ {α β : Type} (f : α → β) {l : List α} {j : Nat} {x : α} (h : l[j]? = some x) : (l.take (j + 1)).map f = (l.take j).map f ++ [f x] := by
  rw [List.take_add_one, h, List.map_append]
  rfl
theorem rolesL_len (m : LMsg) (wl rl : List (List Int)) : (rolesL m wl rl).length = m.keys.length + wl.length + rl.length := by
  unfold rolesL
  rw [List.length_append, List.length_append, ownRoles_len, List.length_map, List.length_map]
  omega
theorem zszR : zR.cells.size = 34 := by kernel_rfl
/-- what Of leaves -/
def OfDone (w : World) (m : LMsg) (wl rl : List (List Int)) (e : Ending) (w' : World) : Prop :=
  Below w.heap.size w w' ∧ if (m.keys ++ (wl ++ rl)).Nodup then ∃ A c, e = .returned (.tuple #[.slice A (rolesL m wl rl).length (rolesL m wl rl).length, .int .i64 0]) ∧ w'.ownsRow w.heap.size 48 34 (.slice A (rolesL m wl rl).length c) (rolesL m wl rl).length (cellsR (rolesL m wl rl))
    else e = .returned (.tuple #[.slice none 0 0, .int .i64 9])
set_option maxHeartbeats 400000 in
theorem clipR (A : Option Addr) (n c : Nat) (w : World) (hnc : n ≤ c) (hc : c ≤ 9223372036854775807) :
    Calls Try.prog 36 #[.slice A n c] w fun e w' => e = .returned (.slice A n n) ∧ w = w' := by
  go_enter Try.func36, Try.ntmps36
  go_wp2
  go_ret
  exact ⟨rfl, rfl⟩
theorem own_room {w : World} {base size n c : Nat} {e : TypeId} {A : Option Addr} {xs : List Value} (h : w.ownsRow base e size (.slice A n c) n xs) : n ≤ c ∧ c ≤ 9223372036854775807 := by
  rcases h.2 with ⟨h1, rfl⟩ | ⟨g, cap, cur, hv, _, _, h1, h2, _⟩
  · injection h1 with _ h2 h3
    subst h3
    exact ⟨Nat.le_refl _, Nat.zero_le _⟩
  · injection hv with _ _ h3
    subst h3
    unfold maxLen at h2
    exact ⟨h1, by omega⟩
theorem own_baseR {w : World} {base base' size n : Nat} {e : TypeId} {v : Value} {xs : List Value} (h : w.ownsRow base e size v n xs) (hb : base' ≤ base) : w.ownsRow base' e size v n xs := by
  refine ⟨h.1, ?_⟩
  rcases h.2 with h2 | ⟨g, cap, cur, h1, h2, h3⟩
  · exact .inl h2
  · exact .inr ⟨g, cap, cur, h1, Nat.le_trans hb h2, h3⟩
set_option maxRecDepth 100000 in
set_option maxHeartbeats 4000000 in
theorem of7 (q : Raw) (m : LMsg) (x y : KL7) (B : Nat) (w : World) (hk : KeysIn w B q.KA q.kn m.keys) (hko : ∀ k ∈ m.keys, KeyOk7 k) (hre : m.recent.length = 32) (hB : B ≤ w.heap.size) (hs : IsByte m.s) (hr : IsByte m.r) (ho : IsByte m.o) (hn : q.kn ≤ 4000) (hx : x.In w B) (hy : y.In w B) :
    Calls Try.prog 19 #[.agg (q.cells m).toArray, x.val, y.val] w (OfDone w m x.l y.l) := by
  have hlen := hk.len
  have rm := Row.new w 41 (q.cells m)
  have hb0 : Below w.heap.size w (w.alloc (.cells (q.cells m).toArray 41)) := (Below.refl w.heap.size w).alloc (Nat.le_refl _) _
  have hb1 : Below w.heap.size w ((w.alloc (.cells (q.cells m).toArray 41)).alloc (.cells ([(⟨q.KA, q.kn, q.kc, m.keys⟩ : KL7), x, y].map KL7.val).toArray 25)) := hb0.alloc (by simp) _
  have hls : ∀ z ∈ [(⟨q.KA, q.kn, q.kc, m.keys⟩ : KL7), x, y], z.In ((w.alloc (.cells (q.cells m).toArray 41)).alloc (.cells ([(⟨q.KA, q.kn, q.kc, m.keys⟩ : KL7), x, y].map KL7.val).toArray 25)) B := fun z hz => by
    refine KL7.In.below ?_ (hb1.mono hB)
    simp only [List.mem_cons, List.not_mem_nil, or_false] at hz
    rcases hz with rfl | rfl | rfl
    · exact ⟨hk, hko, hn⟩
    · exact hx
    · exact hy
  have ht0 := (twice7 (w.heap.size + 1) 3 B _ _ (Row.new' (w.alloc (.cells (q.cells m).toArray 41)) 25 ([(⟨q.KA, q.kn, q.kc, m.keys⟩ : KL7), x, y].map KL7.val) (by simp)) rfl (by omega) hls (by simp; omega))
  simp only [List.map_cons, List.map_nil, KL7.val] at ht0
  have HT := Lib.hid ht0
  clear ht0
  have HCAT : Hid (cat [(⟨q.KA, q.kn, q.kc, m.keys⟩ : KL7), x, y] = m.keys ++ (x.l ++ y.l)) := Lib.hid (by simp [cat])
  have hrm := rm.alloc (.cells ([(⟨q.KA, q.kn, q.kc, m.keys⟩ : KL7), x, y].map KL7.val).toArray 25)
  simp only [List.map_cons, List.map_nil, KL7.val] at hrm
  have HRM := Lib.hid hrm
  clear hrm
  have c4 : (w.alloc (.cells (q.cells m).toArray 41)).cell? ⟨w.heap.size, 4, none⟩ = some (.slice q.KA q.kn q.kc) := (rm.cell 4).trans rfl
  simp only [List.map_cons, List.map_nil, KL7.val] at hb1
  have HB1 := Lib.hid hb1
  have HK := Lib.hid hk
  have HKO := Lib.hid hko
  have HX := Lib.hid hx
  have HY := Lib.hid hy
  have HXL := Lib.hid hx.keys.len
  have HYL := Lib.hid hy.keys.len
  have HLEN := Lib.hid hlen
  have HSM := Lib.hid (show (Try.prog.info? 41).map (·.size) = some (q.cells m).length by rw [size_msg, cells_len hre])
  have HOWN : Hid (∀ (W : World) (i : Nat) k, Below w.heap.size w W → m.keys[i]? = some k → Calls Try.prog 34 #[.agg (q.cells m).toArray, .int .i64 i] W fun e w' => e = .returned (.agg (ownRole m k i).cells.toArray) ∧ Below W.heap.size W w') := Lib.hid fun W i k hW hi =>
    own7 q m k i B W (hk.below (hW.mono hB)) hre (Nat.le_trans hB hW.size) hi hs hr ho (by omega)
  have HROK : Hid (∀ i k, m.keys[i]? = some k → (ownRole m k i).cells.length = 34 ∧ ∀ u ∈ (ownRole m k i).cells, u.oneCell' = true) := Lib.hid fun i k hi => ⟨role_len (hko k (List.mem_of_getElem? hi)).1, role_one _⟩
  have hxm := hx.most
  have hym := hy.most
  have HGD : Hid (∀ i k, m.keys[i]? = some k → m.keys.getD i [] = k) := Lib.hid fun i k hi => by rw [List.getD_eq_getElem?_getD, hi]; rfl
  have HL3 : Hid (rolesL m x.l y.l = ownRoles m q.kn ++ (x.l.map wRole ++ y.l.map rRole)) := Lib.hid (by unfold rolesL; rw [hlen])
  have HC4 : Hid ((q.cells m)[4]? = some (.slice q.KA q.kn q.kc)) := Lib.hid rfl
  generalize q.cells m = MC at *
  obtain ⟨xA, xn, xc, xl⟩ := x
  obtain ⟨yA, yn, yc, yl⟩ := y
  obtain ⟨KA, n, kc, IA, ni, ic, LA, ln, lc⟩ := q
  dsimp only [KL7.val] at *
  clear hk hko hre hs hr ho hx hy hlen rm hb0 hb1 hls
  go_enter Try.func19, Try.ntmps19
  go_wp2_with fail
  refine HT.out.mono ?_
  rintro e w1 ⟨rfl, hb⟩
  have HB2 := Lib.hid (HB1.out.trans (hb.mono HB1.out.size))
  have HM1 := Lib.hid (HRM.out.below hb HRM.out.lt)
  rw [HCAT.out]
  clear hb HT HB1 HRM HCAT c4
  by_cases hnd : (m.keys ++ (xl ++ yl)).Nodup
  · have ht : decide (¬ (m.keys ++ (xl ++ yl)).Nodup) = false := decide_eq_false (fun h => h hnd)
    rw [ht]
    have HND := Lib.hid hnd
    clear ht hnd
    have d4 : w1.cell? ⟨w.heap.size, 4, none⟩ = some (.slice KA n kc) := (HM1.out.cell 4).trans HC4.out
    go_wp2_with fail
    clear d4
    go_loopw [23, 8] (fun i v wr => ∃ k : Nat, k ≤ n ∧ i = .int .i64 k ∧ wr.ownsRow w1.heap.size 48 34 v k (cellsR (ownRoles m k)) ∧ Below w1.heap.size w1 wr) (fun i _ _ => n - (intOf i).toNat)
    case atStart => exact ⟨0, Nat.zero_le _, rfl, World.ownsRow_nil _ _ _ _, Below.refl _ _⟩
    case round =>
    obtain ⟨k, hk, rfl, ho, hb⟩ := hrel
    have HO := Lib.hid ho
    have HB := Lib.hid hb
    clear ho hb
    by_cases hlt : k < n
    · obtain ⟨key, hki⟩ : ∃ key, m.keys[k]? = some key := ⟨_, List.getElem?_eq_getElem (by rw [HLEN.out]; exact hlt)⟩
      have HMR := Lib.hid (HM1.out.below HB.out HM1.out.lt)
      have HC := Lib.hid (HOWN.out wr k key (HB2.out.trans (HB.out.mono HB2.out.size)) hki)
      have HRO := Lib.hid (HROK.out k key hki)
      have HSU : Hid (cellsR (ownRoles m (k + 1)) = cellsR (ownRoles m k) ++ (ownRole m key k).cells) := Lib.hid (by rw [ownRoles_succ, cellsR_snoc, HGD.out k key hki])
      have HWZ := Lib.hid HB.out.size
      clear hki
      generalize (ownRole m key k).cells = RC at *
      go_wp2_with ((with_reducible show wpList _ _ _ ({ dst := some 27, op := Op.load _ _, type := _, pos := _, after := _, guard := _ } :: _) _ _); go_must (refine wpList_load_whole rfl 41 (.tmp 3) rfl w.heap.size 41 MC _ Try.underlying41 rfl HSM.out HMR.out ?_ ?_; go_simp))
      refine HC.out.mono ?_
      rintro e w2 ⟨rfl, hb2⟩
      have O2 := Lib.hid (own_below HO.out hb2)
      have B2 := Lib.hid (HB.out.trans (hb2.mono HB.out.size))
      clear hb2
      go_wp2_with (first
        | ((with_reducible show wpList _ _ _ ({ dst := some 30, op := Op.buildSlice _ _ _, type := _, pos := _, after := _, guard := _ } :: _) _ _); go_must (refine wpList_buildOne rfl 22 48 (.tmp 29) rfl RC _ 34 34 Try.underlying22 infoR zszR (by omega) (by omega) HRO.out.1 ?_ ?_; go_simp))
        | (at_builtin; go_must (refine wpList_addRow rfl (.tmp 26) (.tmp 30) 22 rfl w1.heap.size 48 _ 34 34 Try.underlying22 infoR zszR (by omega) _ k (cellsR (ownRoles m k)) RC 1 HRO.out.1 HRO.out.2 rfl ?_ O2.out ?_ B2.out.size (by unfold maxLen; omega) (by omega) ?_; go_simp; go_simp; intro v4 w4 ho4 hg4; have O4 := Lib.hid ho4; have G4 := Lib.hid hg4; clear ho4 hg4)))
      go_roundw
      case rel => exact ⟨k + 1, by omega, by go_num, by rw [HSU.out]; exact O4.out, (B2.out.grown G4.out.grown B2.out.size fun j hj => (O2.out.lt j hj).1)⟩
      case measure => simp [intOf]; omega
    · obtain rfl : k = n := by omega
      go_wp2_with fail
      obtain ⟨wm, hwm⟩ : ∃ u : World, u = wr := ⟨_, rfl⟩
      subst hwm
      go_loopw [35, 8] (fun i v wr => ∃ j : Nat, j ≤ xn ∧ i = .int .i64 j ∧ wr.ownsRow w1.heap.size 48 34 v (k + j) (cellsR (ownRoles m k ++ (xl.take j).map wRole)) ∧ Below w1.heap.size w1 wr) (fun i _ _ => xn - (intOf i).toNat)
      case atStart => exact ⟨0, Nat.zero_le _, rfl, by simpa using HO.out, HB.out⟩
      case round =>
      clear HO HB
      obtain ⟨j, hj, rfl, ho, hb⟩ := hrel
      have HO := Lib.hid ho
      have HB := Lib.hid hb
      clear ho hb
      by_cases hlt2 : j < xn
      · obtain ⟨a, z, rfl, hab, hz, hat⟩ := (HX.out.keys.below ((HB2.out.trans (HB.out.mono HB2.out.size)).mono hB)).get hlt2
        have HSZ := Lib.hid (show (Try.prog.info? 46).map (·.size) = some (bv z).length by rw [bv_length, hat.len]; exact size_key)
        have HZL := Lib.hid (show (bv z).length = 32 by rw [bv_length, hat.len])
        have HCE := Lib.hid hat.cells
        have H1 := Lib.hid (bv_one z)
        have HKN := Lib.hid (fun w => known_ z w hat.len)
        have HSU : Hid (cellsR (ownRoles m k ++ (xl.take (j + 1)).map wRole) = cellsR (ownRoles m k ++ (xl.take j).map wRole) ++ (bv z ++ [Value.bool false, .bool (!kn z)])) := Lib.hid (by rw [map_take_succ wRole hz, ← List.append_assoc, cellsR_snoc]; rfl)
        have HRL : Hid (∀ b, (bv z ++ [Value.bool false, .bool b]).length = 34 ∧ ∀ u ∈ bv z ++ [Value.bool false, .bool b], u.oneCell' = true) := Lib.hid fun b => ⟨role_len (r := ⟨z, false, b⟩) hat.len, role_one ⟨z, false, b⟩⟩
        clear hat hz
        generalize kn z = bb at *
        generalize bv z = X at *
        go_wp2_with (first
          | ((with_reducible show wpList _ _ _ ({ dst := some 38, op := Op.load _ _, type := _, pos := _, after := _, guard := _ } :: _) _ _); go_must (refine wpList_load_at rfl 46 (.tmp 37) rfl (a.add (j * 32)) X _ Try.underlying46 rfl HSZ.out HCE.out ?_ ?_; go_simp))
          | ((with_reducible show wpList _ _ _ ({ dst := none, op := Op.store 46 _ _, type := _, pos := _, after := _, guard := _ } :: _) _ _); go_must (refine wpList_store_new rfl 46 (.tmp 11) (.tmp 38) rfl X HSZ.out H1.out (by rw [HZL.out]; rfl) ?_ ?_ ?_; go_simp; go_simp; intro w2 hr1 hb1 hz1; have R1 := Lib.hid hr1; have B1 := Lib.hid hb1; clear hr1 hb1 hz1)))
        have OO2 := Lib.hid (own_below HO.out B1.out)
        have BB2 := Lib.hid (HB.out.trans (B1.out.mono HB.out.size))
        have hwz := HB.out.size
        generalize wr.heap.size = gx at *
        refine wp_region_held_drew (S := (fun V => Row V gx 46 X)) (by kernel_rfl) R1.out.drew (fun _ => ?_)
        have OO3 : Hid (w2.drew.ownsRow _ _ _ _ _ _) := Lib.hid OO2.out.drew
        have BB3 := Lib.hid BB2.out.drew
        have RR3 := Lib.hid R1.out.drew
        clear OO2 BB2 R1 B1
        generalize w2.drew = w3 at *
        refine takeL (i := 0) (v := ?_) rfl (by kernel_rfl) (by kernel_rfl) (by kernel_rfl) (fun _ _ _ h => h) (Or.inl ⟨by rfl, ?_⟩) RR3.out ?_
        rotate_left
        · intro w hw
          try dsimp only at hw
          go_simp
          try with_reducible rfl
        try simp only [Act.put, List.setIfInBounds_toArray, List.set_cons_zero, List.set_cons_succ]
        refine takeL (i := 1) (v := .agg X.toArray) rfl (by kernel_rfl) (by kernel_rfl) (by kernel_rfl) (fun _ _ _ h => h) (Or.inl ⟨by rfl, fun wz hwz => exec_load_at wz 46 (.tmp 11) rfl ⟨gx, 0, none⟩ X _ Try.underlying46 rfl HSZ.out (fun j u hu => by rw [addr_row, Nat.zero_add]; exact (hwz.cell j).trans hu) (by go_simp)⟩) RR3.out ?_
        try simp only [Act.put, List.setIfInBounds_toArray, List.set_cons_zero, List.set_cons_succ]
        refine takeL (i := 2) (v := .agg X.toArray) rfl (by kernel_rfl) (by kernel_rfl) (by kernel_rfl) (fun _ _ _ h => h) (Or.inl ⟨by rfl, fun wz hwz => exec_load_at wz 46 (.tmp 11) rfl ⟨gx, 0, none⟩ X _ Try.underlying46 rfl HSZ.out (fun j u hu => by rw [addr_row, Nat.zero_add]; exact (hwz.cell j).trans hu) (by go_simp)⟩) RR3.out ?_
        try simp only [Act.put, List.setIfInBounds_toArray, List.set_cons_zero, List.set_cons_succ]
        refine readyL (i := 3) rfl (by kernel_rfl) (by kernel_rfl) fun K hK => ?_
        go_simp
        refine (HKN.out _).mono ?_
        rintro e w5 ⟨rfl, hb5⟩
        have RR5 := Lib.hid (RR3.out.below hb5 RR3.out.lt)
        have OO5 := Lib.hid (own_below OO3.out hb5)
        have BB4 := Lib.hid (BB3.out.trans (hb5.mono BB3.out.size))
        clear hb5
        refine hK.out _ _ RR5.out ?_
        clear hK K
        try simp only [Act.put, List.setIfInBounds_toArray, List.set_cons_zero, List.set_cons_succ]
        refine takeL (i := 4) (v := ?_) rfl (by kernel_rfl) (by kernel_rfl) (by kernel_rfl) (fun _ _ _ h => h) (Or.inl ⟨by rfl, ?_⟩) RR5.out ?_
        rotate_left
        · intro w hw
          try dsimp only at hw
          go_simp
          try with_reducible rfl
        try simp only [Act.put, List.setIfInBounds_toArray, List.set_cons_zero, List.set_cons_succ]
        refine takeL (i := 5) (v := .agg (X ++ [Value.bool false, .bool (!bb)]).toArray) rfl (by kernel_rfl) (by kernel_rfl) (by kernel_rfl) (fun _ _ _ h => h) (Or.inl ⟨by rfl, fun wz hwz => exec_built wz _ _ _ rfl (by simp only [List.map_toArray, List.map_cons, List.map_nil]; exact built_roleW HZL.out _)⟩) RR5.out ?_
        try simp only [Act.put, List.setIfInBounds_toArray, List.set_cons_zero, List.set_cons_succ]
        refine readyL (i := 6) rfl (by kernel_rfl) (by kernel_rfl) fun K hK => ?_
        refine wp_buildOne 22 48 (.tmp 44) rfl (X ++ [Value.bool false, .bool (!bb)]) _ 34 34 Try.underlying22 infoR zszR (by omega) (by omega) (HRL.out _).1 ?_ ?_
        · go_simp
        refine hK.out _ _ (RR5.out.alloc _) ?_
        clear hK K
        try simp only [Act.put, List.setIfInBounds_toArray, List.set_cons_zero, List.set_cons_succ]
        refine readyL (i := 7) rfl (by kernel_rfl) (by kernel_rfl) fun K hK => ?_
        refine wp_addRow (.tmp 39) (.tmp 45) 22 rfl w1.heap.size 48 _ 34 34 Try.underlying22 infoR zszR (by omega) _ (k + j) _ (X ++ [Value.bool false, .bool (!bb)]) 1 (HRL.out _).1 (HRL.out _).2 rfl ?_ OO5.out ?_ BB4.out.size (by unfold maxLen; omega) (by omega) ?_
        · go_simp
        · go_simp
        intro v4 w4 ho4 hg4
        have O4 := Lib.hid ho4
        have BB5 := Lib.hid (BB4.out.grown hg4.grown BB4.out.size fun j hj => (OO5.out.lt j hj).1)
        have RR6 := Lib.hid (RR5.out.grown hg4.grown (own_row_neN OO5.out RR5.out (by decide)))
        clear ho4 hg4
        refine hK.out _ _ RR6.out ?_
        clear hK K
        try simp only [Act.put, List.setIfInBounds_toArray, List.set_cons_zero, List.set_cons_succ]
        refine takeL (i := 8) (v := ?_) rfl (by kernel_rfl) (by kernel_rfl) (by kernel_rfl) (fun _ _ _ h => h) (Or.inl ⟨by rfl, ?_⟩) RR6.out ?_
        rotate_left
        · intro w hw
          try dsimp only at hw
          go_simp
          try with_reducible rfl
        try simp only [Act.put, List.setIfInBounds_toArray, List.set_cons_zero, List.set_cons_succ]
        refine wpAnyH_done (by kernel_rfl) ?_ _
        go_wp2_with fail
        go_roundw
        case rel => exact ⟨j + 1, by omega, by go_num, by rw [HSU.out]; exact O4.out, BB5.out⟩
        case measure => simp [intOf]; omega
      · obtain rfl : j = xn := by omega
        have HO2 : Hid (wr.ownsRow w1.heap.size 48 34 u8 (k + j) (cellsR (ownRoles m k ++ xl.map wRole))) := Lib.hid (by
          have := HO.out
          rwa [List.take_of_length_le (by rw [HXL.out]; exact Nat.le_refl _)] at this)
        clear HO
        go_wp2_with fail
        obtain ⟨wm, hwm⟩ : ∃ u : World, u = wr := ⟨_, rfl⟩
        subst hwm
        go_loopw [50, 8] (fun i v wr => ∃ t : Nat, t ≤ yn ∧ i = .int .i64 t ∧ wr.ownsRow w1.heap.size 48 34 v (k + j + t) (cellsR (ownRoles m k ++ xl.map wRole ++ (yl.take t).map rRole)) ∧ Below w1.heap.size w1 wr) (fun i _ _ => yn - (intOf i).toNat)
        case atStart => exact ⟨0, Nat.zero_le _, rfl, by simpa using HO2.out, HB.out⟩
        case round =>
        clear HO2 HB
        obtain ⟨t, ht, rfl, ho, hb⟩ := hrel
        have HO := Lib.hid ho
        have HB := Lib.hid hb
        clear ho hb
        by_cases hlt3 : t < yn
        · obtain ⟨a, z, rfl, hab, hz, hat⟩ := (HY.out.keys.below ((HB2.out.trans (HB.out.mono HB2.out.size)).mono hB)).get hlt3
          have HSZ := Lib.hid (show (Try.prog.info? 46).map (·.size) = some (bv z).length by rw [bv_length, hat.len]; exact size_key)
          have HZL := Lib.hid (show (bv z).length = 32 by rw [bv_length, hat.len])
          have HCE := Lib.hid hat.cells
          have H1 := Lib.hid (bv_one z)
          have HSU : Hid (cellsR (ownRoles m k ++ xl.map wRole ++ (yl.take (t + 1)).map rRole) = cellsR (ownRoles m k ++ xl.map wRole ++ (yl.take t).map rRole) ++ (bv z ++ [Value.bool false, .bool false])) := Lib.hid (by rw [map_take_succ rRole hz, ← List.append_assoc, cellsR_snoc]; rfl)
          have HRL : Hid ((bv z ++ [Value.bool false, .bool false]).length = 34 ∧ ∀ u ∈ bv z ++ [Value.bool false, .bool false], u.oneCell' = true) := Lib.hid ⟨role_len (r := ⟨z, false, false⟩) hat.len, role_one ⟨z, false, false⟩⟩
          clear hat hz
          generalize bv z = X at *
          go_wp2_with (first
            | ((with_reducible show wpList _ _ _ ({ dst := some 53, op := Op.load _ _, type := _, pos := _, after := _, guard := _ } :: _) _ _); go_must (refine wpList_load_at rfl 46 (.tmp 52) rfl (a.add (t * 32)) X _ Try.underlying46 rfl HSZ.out HCE.out ?_ ?_; go_simp))
            | ((with_reducible show wpList _ _ _ ({ dst := none, op := Op.store 46 _ _, type := _, pos := _, after := _, guard := _ } :: _) _ _); go_must (refine wpList_store_new rfl 46 (.tmp 13) (.tmp 53) rfl X HSZ.out H1.out (by rw [HZL.out]; rfl) ?_ ?_ ?_; go_simp; go_simp; intro w2 hr1 hb1 hz1; have R1 := Lib.hid hr1; have B1 := Lib.hid hb1; clear hr1 hb1 hz1))
            | ((with_reducible show wpList _ _ _ ({ dst := some 55, op := Op.load _ _, type := _, pos := _, after := _, guard := _ } :: _) _ _); go_must (refine wpList_load_whole rfl 46 (.tmp 13) rfl _ 46 X _ Try.underlying46 rfl HSZ.out R1.out ?_ ?_; go_simp))
            | ((with_reducible show wpList _ _ _ ({ dst := some 56, op := Op.build _ _, type := _, pos := _, after := _, guard := _ } :: _) _ _); go_must (refine wpList_plain rfl fun K hK => wp_built _ _ _ rfl (by simp only [List.map_toArray, List.map_cons, List.map_nil]; exact built_roleK HZL.out) (hK _ _ ?_)))
            | ((with_reducible show wpList _ _ _ ({ dst := some 57, op := Op.buildSlice _ _ _, type := _, pos := _, after := _, guard := _ } :: _) _ _); go_must (refine wpList_buildOne rfl 22 48 (.tmp 56) rfl (X ++ [Value.bool false, .bool false]) _ 34 34 Try.underlying22 infoR zszR (by omega) (by omega) HRL.out.1 ?_ ?_; go_simp))
            | (at_builtin; go_must (refine wpList_addRow rfl (.tmp 54) (.tmp 57) 22 rfl w1.heap.size 48 _ 34 34 Try.underlying22 infoR zszR (by omega) _ (k + j + t) (cellsR (ownRoles m k ++ xl.map wRole ++ (yl.take t).map rRole)) (X ++ [Value.bool false, .bool false]) 1 HRL.out.1 HRL.out.2 rfl ?_ (own_below HO.out B1.out) ?_ (HB.out.trans (B1.out.mono HB.out.size)).size (by unfold maxLen; omega) (by omega) ?_; go_simp; go_simp; intro v4 w4 ho4 hg4; have O4 := Lib.hid ho4; have G4 := Lib.hid hg4; clear ho4 hg4)))
          go_roundw
          case rel => exact ⟨t + 1, by omega, by go_num, by rw [HSU.out]; exact O4.out, ((HB.out.trans (B1.out.mono HB.out.size)).grown G4.out.grown (HB.out.trans (B1.out.mono HB.out.size)).size fun j hj => (HO.out.lt j hj).1)⟩
          case measure => simp [intOf]; omega
        · obtain rfl : t = yn := by omega
          have HO2 : Hid (∃ A c, u8 = .slice A (k + j + t) c) := Lib.hid (own_formN HO.out)
          obtain ⟨A, c, he⟩ := HO2.out
          have HO3 : Hid (wr.ownsRow w1.heap.size 48 34 u8 (k + j + t) (cellsR (rolesL m xl yl))) := Lib.hid (by
            have := HO.out
            rwa [List.take_of_length_le (by rw [HYL.out]; exact Nat.le_refl _), List.append_assoc, ← HL3.out] at this)
          have HLL : Hid ((rolesL m xl yl).length = k + j + t) := Lib.hid (by rw [rolesL_len, HLEN.out, HXL.out, HYL.out])
          clear HO2
          subst he
          have HCL := Lib.hid (clipR A (k + j + t) c wr (own_room HO.out).1 (own_room HO.out).2)
          clear HO
          go_wp2_with fail
          refine HCL.out.mono ?_
          rintro e w9 ⟨rfl, rfl⟩
          go_wp2_with fail
          go_ret2
          refine ⟨HB2.out.trans (HB.out.mono HB2.out.size), ?_⟩
          rw [if_pos HND.out, HLL.out]
          exact ⟨A, c, rfl, own_baseR HO3.out HB2.out.size⟩
  · have ht : decide (¬ (m.keys ++ (xl ++ yl)).Nodup) = true := decide_eq_true hnd
    rw [ht]
    have HND := Lib.hid hnd
    clear ht hnd
    go_wp2_with fail
    go_ret2
    refine ⟨HB2.out, ?_⟩
    rw [if_neg HND.out]
    rfl
end Go.Proofs.Ytkpdjjhkocmfoaa

/-
  Of part Roles7: what is needed here.
-/
namespace Go.Proofs.Ytkpdjjhkocmfoaa
open Go.RowKit
set_option linter.unusedVariables false
theorem rolesL_ok {m : LMsg} {wl rl : List (List Int)} (hm : ∀ k ∈ m.keys, KeyOk7 k) (hw : ∀ k ∈ wl, KeyOk7 k) (hr : ∀ k ∈ rl, KeyOk7 k) : ∀ r ∈ rolesL m wl rl, RoleOk r := fun r h => by
  unfold rolesL at h
  rcases List.mem_append.1 h with h | h
  · unfold ownRoles at h
    obtain ⟨i, hi, rfl⟩ := List.mem_map.1 h
    have hi : i < m.keys.length := by simpa using hi
    have e : m.keys.getD i [] = m.keys[i] := by rw [List.getD_eq_getElem?_getD, List.getElem?_eq_getElem hi]; rfl
    rw [e]
    exact hm _ (List.getElem_mem hi)
  · rcases List.mem_append.1 h with h | h
    · obtain ⟨k, hk, rfl⟩ := List.mem_map.1 h
      exact hw k hk
    · obtain ⟨k, hk, rfl⟩ := List.mem_map.1 h
      exact hr k hk
set_option maxHeartbeats 400000 in
theorem sameRoles (A B : Option Addr) (n c d : Nat) (l : List LRole) (w : World) (S T : Nat) (hx : RolesIn w S A n l) (hy : RolesIn w T B n l) (hn : n ≤ maxLen) :
    Calls Try.prog 22 #[.slice A n c, .slice B n d] w fun e w' => e = .returned (.bool true) ∧ ∃ k, w' = w.drewN k := by
  have H := Lib.hid (sameR A B n c d _ w S T hx.cs hy.cs (roles_is hx.ok) hn)
  clear hx hy
  go_enter Try.func22, Try.ntmps22
  go_wp2_with fail
  refine H.out.mono ?_
  rintro e w' ⟨rfl, k, rfl⟩
  go_wp2_with fail
  go_ret
  exact ⟨rfl, k, rfl⟩
section
variable {P : Program}
/-- a slice of four elements -/
theorem wpList_buildFour {ops : Array Oper} {rest : List Oper} {o : Oper} {a : Act} {w : World} {Q : Exit → Act → World → Prop} (hg : o.guard = none) (t e : TypeId) (y y' y2 y3 : Operand) (ho : o.op = .buildSlice t 4 #[(0, y), (1, y'), (2, y2), (3, y3)])
    (c0 c1 c2 c3 : List Value) (z : Value) (size bytes : Nat) (hu : P.underlying t = some (.slice e)) (hi : (P.info? e).map (fun i => (i.zero, i.size, i.bytes)) = some (some z, size, bytes)) (hzs : z.cells.size = size) (hs0 : 0 < size) (hs1 : size ≤ 1000)
    (h0 : c0.length = size) (h1 : c1.length = size) (h2 : c2.length = size) (h3 : c3.length = size) (hy : a.eval y = .agg c0.toArray) (hy' : a.eval y' = .agg c1.toArray) (hy2 : a.eval y2 = .agg c2.toArray) (hy3 : a.eval y3 = .agg c3.toArray)
    (h : wpList P ops Q rest (a.put o.dst (.slice (some ⟨w.heap.size, 0, none⟩) 4 4)) (w.alloc (.cells (c0 ++ (c1 ++ (c2 ++ c3))).toArray e))) : wpList P ops Q (o :: rest) a w := by
  obtain ⟨ie, hie, hz1, hz2, _⟩ := info_parts hi
  subst hz2
  refine wpList_plain hg fun K hK => wp_buildSlice t e 4 _ ho (c0 ++ (c1 ++ (c2 ++ c3))).toArray ie z hu hie hz1 (by omega) (by omega) ?_ (hK _ _ h)
  have := Go.Great.fill_whole (s := ie.size) hs0 [Value.agg c0.toArray, .agg c1.toArray, .agg c2.toArray, .agg c3.toArray] ((Array.range (4 * ie.size)).map (z.cells[· % z.cells.size]!)) (by intro v hv; simp at hv; rcases hv with rfl | rfl | rfl | rfl <;> simp [Value.cells, h0, h1, h2, h3]) (by simp)
  simpa [hy, hy', hy2, hy3, Value.cells] using this
end
end Go.Proofs.Ytkpdjjhkocmfoaa
