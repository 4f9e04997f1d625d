/-
  Parts joined: BookR Pages BookGen TwinMsg Example AppendN HoldWalk MoreWalk OtherMem Copied Resolve Lives6 Known.
-/
import Derived.Below
import Derived.Laws.OwnMore
import Derived.Deep.AppendLies
import Derived.Deep.Draws
import Derived.Lib.Hide
import Derived.Laws.MakeOwn
import Derived.Laws.CopyOwn
import Derived.Laws.Rows
import Derived.Laws.BitsAllLaws
import Derived.WalkKit
import Derived.Test.YtkpdjjhkocmfoaaRows
import Derived.WalkSpells
import Derived.WalkLawsBesides
import Derived.IntWalk
import Derived.Maps.AppendAt
import Derived.OwnWalk
import Derived.Deep.MidRow
import Derived.Deep.WholeRow
import Derived.Great.BuildSlice
import Derived.ProofKit
import Derived.OpenShut
import Derived.ShutString
import Derived.ChangeOld
import Derived.Lib.SmallJoins
import Derived.Recover
import Derived.Deep.RegionHeld
import Derived.Deep.QuietTactic
import Derived.BigQuiet
import Derived.Deep.Slices
import Derived.Deep.Strs
import Derived.SizedLaws
import Derived.Maps.OwnSet
import Derived.DeepKeys4
import Derived.WideKeyArr
import Derived.ChangeKeysEq
import Derived.Deep.RegionHeld2
import Derived.Deep.CutBlock
import Derived.Laws.Tables
import Derived.Laws.StructEq
import Derived.Deep.DeepCutAuto
import Derived.Laws.Slices
import Derived.Laws.EntriesVeiled
import Derived.Deep.RegionHeld3
import Derived.WideKeyEntry
import Derived.Shelf.SlMaps.Clone
import Derived.Test.YtkpdjjhkocmfoaaA1
import Derived.Test.YtkpdjjhkocmfoaaA2
/-
  Of part BookR: what is needed here.
-/
namespace Go.Proofs.Ytkpdjjhkocmfoaa
open Go.RowKit
set_option linter.unusedVariables false
theorem role_is {r : LRole} (h : r.key.length = 32) : IsR r.cells := ⟨role_len h, role_one r, fun w => by rw [role_neq h h]; simp, size_role h⟩
theorem of_fn32 {l : List Value} (hl : l.length = 32) : ∃ f : Fin 32 → Value, l = List.ofFn f := ⟨fun i => l.getD i undef, by
    refine List.ext_getElem (by simpa using hl) fun i h1 h2 => ?_
    rw [List.getElem_ofFn, List.getD_eq_getElem?_getD, List.getElem?_eq_getElem h1]
    rfl⟩
theorem built_role {l : List Value} (hl : l.length = 32) (a b : Bool) : Try.prog.built 48 [(0, .agg l.toArray), (1, .bool a), (2, .bool b)] = some (l ++ [Value.bool a, .bool b]).toArray := by
  obtain ⟨f, rfl⟩ := of_fn32 hl
  kernel_rfl
theorem built_roleW {l : List Value} (hl : l.length = 32) (b : Bool) : Try.prog.built 48 [(0, .agg l.toArray), (2, .bool b)] = some (l ++ [Value.bool false, .bool b]).toArray := by
  obtain ⟨f, rfl⟩ := of_fn32 hl
  kernel_rfl
theorem built_roleS {l : List Value} (hl : l.length = 32) (b : Bool) : Try.prog.built 48 [(0, .agg l.toArray), (1, .bool b)] = some (l ++ [Value.bool b, .bool false]).toArray := by
  obtain ⟨f, rfl⟩ := of_fn32 hl
  kernel_rfl
theorem built_roleK {l : List Value} (hl : l.length = 32) : Try.prog.built 48 [(0, .agg l.toArray)] = some (l ++ [Value.bool false, .bool false]).toArray := by
  obtain ⟨f, rfl⟩ := of_fn32 hl
  kernel_rfl
theorem built_role0 : Try.prog.built 48 [] = some r0.cells.toArray := by kernel_rfl
theorem roles_is {l : List LRole} (h : ∀ r ∈ l, RoleOk r) : ∀ k ∈ l.map LRole.cells, IsR k := fun k hk => by
  obtain ⟨r, hr, rfl⟩ := List.mem_map.1 hk
  exact role_is (h r hr).1
theorem built_sheetR (B : Option Addr) (m d : Nat) (h f : List Value) (h1 : h.length = 34) (h2 : f.length = 34) : Try.prog.built 65 [(0, .slice B m d), (1, .agg h.toArray), (2, .agg f.toArray)] = some (sheetC (.slice B m d) h f).toArray := by
  obtain ⟨u, rfl⟩ : ∃ u : Fin 34 → Value, h = List.ofFn u := ⟨fun i => h.getD i undef, by
    refine List.ext_getElem (by simpa using h1) fun i h3 h4 => ?_
    rw [List.getElem_ofFn, List.getD_eq_getElem?_getD, List.getElem?_eq_getElem h3]
    rfl⟩
  obtain ⟨g, rfl⟩ : ∃ u : Fin 34 → Value, f = List.ofFn u := ⟨fun i => f.getD i undef, by
    refine List.ext_getElem (by simpa using h2) fun i h3 h4 => ?_
    rw [List.getElem_ofFn, List.getD_eq_getElem?_getD, List.getElem?_eq_getElem h3]
    rfl⟩
  kernel_rfl
/-- the mark behind roles -/
def mkR : LRole := ⟨mk0, true, false⟩
theorem mkR_is : IsR mkR.cells := role_is (by decide : mkR.key.length = 32)
set_option maxRecDepth 100000 in
set_option maxHeartbeats 800000 in
theorem markRole (w : World) : Calls Try.prog 24 #[] w fun e w' => e = .returned (.agg mkR.cells.toArray) ∧ Below w.heap.size w w' := by
  have rz : Row (w.alloc (.cells r0.cells.toArray 48)) w.heap.size 48 r0.cells := Row.new _ _ _
  have hb0 : Below w.heap.size w (w.alloc (.cells r0.cells.toArray 48)) := (Below.refl _ _).alloc (Nat.le_refl _) _
  have RZ := Lib.hid rz
  have HB0 := Lib.hid hb0
  have hX : ∀ c, c = r0.cells.toArray → w.alloc (.cells c 48) = w.alloc (.cells r0.cells.toArray 48) := by rintro _ rfl; rfl
  obtain ⟨W, hW⟩ : ∃ W, W = w.alloc (.cells r0.cells.toArray 48) := ⟨_, rfl⟩
  rw [← hW] at RZ HB0 hX
  have HX := Lib.hid hX
  clear rz hb0 hX hW
  go_enter Try.func24, Try.ntmps24
  go_upto_region 1 with fail
  rw [HX.out]
  rotate_left
  · kernel_rfl
  clear HX
  go_wp2_with fail
  refine (markKey W).mono ?_
  rintro e w1 ⟨rfl, hb1⟩
  have R1 := Lib.hid (RZ.out.below hb1 RZ.out.lt)
  have B1 := Lib.hid (HB0.out.trans (hb1.mono HB0.out.size))
  clear hb1 HB0 RZ
  go_wp2_with (first
    | ((with_reducible show wpList _ _ _ ({ dst := some 2, op := Op.build _ _, type := _, pos := _, after := _, guard := _ } :: _) _ _); go_must (refine wpList_plain rfl fun K hK => wp_built _ _ _ rfl (by simp only [List.map_toArray, List.map_cons, List.map_nil]; exact built_roleS (l := bv mk0) (by decide) _) (hK _ _ ?_)))
    | ((with_reducible show wpList _ _ _ ({ dst := none, op := Op.store 48 _ _, type := _, pos := _, after := _, guard := _ } :: _) _ _); go_must (refine wpList_store_whole rfl 48 (.tmp 0) (.tmp 2) rfl w.heap.size r0.cells mkR.cells R1.out mkR_is.size (by decide) mkR_is.one ?_ ?_ ?_; go_simp; (go_simp; rfl); intro w3 hr3 ht3; have R3 := Lib.hid hr3; have T3 := Lib.hid ht3; clear hr3 ht3)))
  refine bodyPost_ret (results_cell_row (h := rfl) _ w3 w.heap.size 48 _ (0, 0) _ (by rfl) R3.out.is Try.underlying48 rfl mkR_is.size) rfl ?_
  exact ⟨rfl, B1.out.trans (T3.out.below (Nat.le_refl _))⟩
set_option maxHeartbeats 400000 in
theorem twinRoles (A : Option Addr) (n c B : Nat) (l : List LRole) (w : World) (hx : RolesIn w B A n l) (hB : B ≤ w.heap.size) (hn : n ≤ 1000000) :
    Calls Try.prog 8 #[.slice A n c] w fun e w' => ∃ g, e = .returned (.slice (some ⟨g, 0, none⟩) n (n + 3)) ∧ w.heap.size ≤ g ∧ Row w' g 48 ((l.map LRole.cells).flatten ++ rowOf 3 mkR.cells) ∧ Below w.heap.size w w' := by
  have HX := Lib.hid hx
  clear hx
  go_enter Try.func8, Try.ntmps8
  go_wp2_with fail
  refine (markRole _).mono ?_
  rintro e w1 ⟨rfl, hb1⟩
  have H := Lib.hid (twinR A n c (l.map LRole.cells) mkR.cells w1 B (HX.out.cs.below (hb1.mono hB)) (roles_is HX.out.ok) (Nat.le_trans hB hb1.size) (by omega) mkR_is)
  have B1 := Lib.hid hb1
  clear hb1
  go_wp2_with fail
  refine H.out.mono ?_
  rintro e w2 ⟨g, rfl, hg, hr, hb2⟩
  have R2 := Lib.hid hr
  have HG := Lib.hid (Nat.le_trans B1.out.size hg)
  have B2 := Lib.hid (B1.out.trans (hb2.mono B1.out.size))
  clear hr hb2 hg
  go_wp2_with fail
  go_ret
  exact ⟨g, rfl, HG.out, R2.out, B2.out⟩
set_option maxHeartbeats 400000 in
theorem leftRoles (g : Nat) (A : Option Addr) (n d B : Nat) (l : List LRole) (w : World) (hr : Row w g 48 ((l.map LRole.cells).flatten ++ rowOf 3 mkR.cells)) (hx : RolesIn w B A n l) (hB : B ≤ w.heap.size) (hn : n ≤ 1000000) :
    Calls Try.prog 14 #[.slice (some ⟨g, 0, none⟩) n (n + 3), .slice A n d] w fun e w' => e = .returned (.bool true) ∧ Below w.heap.size w w' := by
  have HX := Lib.hid hx
  have HR := Lib.hid hr
  clear hx hr
  go_enter Try.func14, Try.ntmps14
  go_wp2_with fail
  refine (markRole _).mono ?_
  rintro e w1 ⟨rfl, hb1⟩
  have H := Lib.hid (leftR g A n d (l.map LRole.cells) mkR.cells w1 B (HR.out.below hb1 HR.out.lt) (HX.out.cs.below (hb1.mono hB)) (roles_is HX.out.ok) (Nat.le_trans hB hb1.size) (by omega) mkR_is)
  have B1 := Lib.hid hb1
  clear hb1
  generalize mkR.cells = M at *
  go_wp2_with fail
  refine H.out.mono ?_
  rintro e w2 ⟨rfl, hb2⟩
  have B2 := Lib.hid (B1.out.trans (hb2.mono B1.out.size))
  clear hb2
  go_wp2_with fail
  go_ret
  exact ⟨rfl, B2.out⟩
set_option maxRecDepth 100000 in
set_option maxHeartbeats 4000000 in
theorem bookRoles (p base : Nat) (A B : Option Addr) (n c m d : Nat) (ps : List Value) (w0 w : World) (h : BookW w0 p base A n c ps w) (hn : n ≤ 1000000) :
    Calls Try.prog 15 #[.pointer (some ⟨p, 0, none⟩), .slice B m d] w fun e w' => ∃ z1 z2 A' c', e = .returned (.tuple #[]) ∧ IsR z1 ∧ IsR z2 ∧
      BookW w0 p base A' (n + 1) c' (ps ++ [.iface 65 (.agg (sheetC (.slice B m d) z1 z2).toArray)]) w' := by
  obtain ⟨i0, hi, hz0, hz1, hz2⟩ := info_parts info_page
  have HI := Lib.hid (And.intro hi (And.intro hz0 (And.intro hz1 hz2)))
  have HM : Hid (∀ z : List Int, z.length = 32 → IsR (bv z ++ [Value.bool false, .bool false])) := Lib.hid fun z hz => role_is (r := ⟨z, false, false⟩) hz
  have HN := Lib.hid (number_ p A n c w h.row hn)
  have H0 := Lib.hid (h.drewN 1)
  clear h hi hz0 hz1 hz2
  go_enter Try.func15, Try.ntmps15
  go_wp2_with fail
  refine HN.out.mono ?_
  rintro e w1 ⟨rfl, rfl⟩
  go_wp2_with fail
  refine wp_region_held (S := fun _ => True) (by kernel_rfl) ?_
  try (change wpAnyH _ _ _ _ _ _ _ _ (World.drew _))
  refine takeL (i := 0) (v := ?_) rfl (by kernel_rfl) (by kernel_rfl) (by kernel_rfl) (fun _ _ _ h => h) (Or.inl ⟨by rfl, ?_⟩) trivial ?_
  rotate_left
  · intro w _
    go_simp
    try with_reducible rfl
  try simp only [Act.put, List.setIfInBounds_toArray, List.set_cons_zero, List.set_cons_succ]
  refine takeL (i := 1) (v := ?_) rfl (by kernel_rfl) (by kernel_rfl) (by kernel_rfl) (fun _ _ _ h => h) (Or.inl ⟨by rfl, ?_⟩) trivial ?_
  rotate_left
  · intro w _
    go_simp
    try with_reducible rfl
  try simp only [Act.put, List.setIfInBounds_toArray, List.set_cons_zero, List.set_cons_succ]
  refine takeL (i := 2) (v := ?_) rfl (by kernel_rfl) (by kernel_rfl) (by kernel_rfl) (fun _ _ _ h => h) (Or.inl ⟨by rfl, ?_⟩) trivial ?_
  rotate_left
  · intro w _
    go_simp
    try with_reducible rfl
  try simp only [Act.put, List.setIfInBounds_toArray, List.set_cons_zero, List.set_cons_succ]
  refine takeL (i := 3) (v := ?_) rfl (by kernel_rfl) (by kernel_rfl) (by kernel_rfl) (fun _ _ _ h => h) (Or.inl ⟨by rfl, ?_⟩) trivial ?_
  rotate_left
  · intro w _
    go_simp
    try with_reducible rfl
  try simp only [Act.put, List.setIfInBounds_toArray, List.set_cons_zero, List.set_cons_succ]
  refine takeL (i := 5) (v := ?_) rfl (by kernel_rfl) (by kernel_rfl) (by kernel_rfl) (fun _ _ _ h => h) (Or.inl ⟨by rfl, ?_⟩) trivial ?_
  rotate_left
  · intro w _
    go_simp
    try with_reducible rfl
  try simp only [Act.put, List.setIfInBounds_toArray, List.set_cons_zero, List.set_cons_succ]
  refine takeL (i := 6) (v := ?_) rfl (by kernel_rfl) (by kernel_rfl) (by kernel_rfl) (fun _ _ _ h => h) (Or.inl ⟨by rfl, ?_⟩) trivial ?_
  rotate_left
  · intro w _
    go_simp
    try with_reducible rfl
  try simp only [Act.put, List.setIfInBounds_toArray, List.set_cons_zero, List.set_cons_succ]
  refine takeL (i := 9) (v := ?_) rfl (by kernel_rfl) (by kernel_rfl) (by kernel_rfl) (fun _ _ _ h => h) (Or.inl ⟨by rfl, ?_⟩) trivial ?_
  rotate_left
  · intro w _
    go_simp
    try with_reducible rfl
  try simp only [Act.put, List.setIfInBounds_toArray, List.set_cons_zero, List.set_cons_succ]
  refine wpAnyH_ready (rs := [4, 7]) (by kernel_rfl) (by simp) ?_
  refine allL rfl (by kernel_rfl) (fun K hK => ?_) (allL rfl (by kernel_rfl) (fun K hK => ?_) (AllReadyH.nil))
  · have c1 : w.drew.cell? ⟨p, 0, none⟩ = some (.slice A n c) := H0.out.row.cell 0
    go_simp
    clear c1
    refine hK _ _ trivial ?_
    clear hK K
    try simp only [Act.put, List.setIfInBounds_toArray, List.set_cons_zero, List.set_cons_succ]
    refine readyL (i := 7) rfl (by kernel_rfl) (by kernel_rfl) fun K hK => ?_
    go_simp
    refine (keyMark _ _ _).mono ?_
    rintro e w12 ⟨z1, rfl, hz1, hb⟩
    have H12 := Lib.hid (H0.out.below hb)
    clear hb
    simp only []
    refine hK _ _ trivial ?_
    clear hK K
    try simp only [Act.put, List.setIfInBounds_toArray, List.set_cons_zero, List.set_cons_succ]
    refine takeL (i := 8) (v := .agg (bv z1 ++ [Value.bool false, .bool false]).toArray) rfl (by kernel_rfl) (by kernel_rfl) (by kernel_rfl) (fun _ _ _ h => h) (Or.inl ⟨by rfl, fun w _ => ?_⟩) trivial ?_
    · exact exec_built w _ _ _ rfl (by simp only [List.map_toArray, List.map_cons, List.map_nil]; exact built_roleK (l := bv z1) (by rw [bv_length, hz1]))
    try simp only [Act.put, List.setIfInBounds_toArray, List.set_cons_zero, List.set_cons_succ]
    refine readyL (i := 10) rfl (by kernel_rfl) (by kernel_rfl) fun K hK => ?_
    go_simp
    refine (keyMark _ _ _).mono ?_
    rintro e w23 ⟨z2, rfl, hz2, hb⟩
    have H23 := Lib.hid (H12.out.below hb)
    clear hb
    simp only []
    refine hK _ _ trivial ?_
    clear hK K
    try simp only [Act.put, List.setIfInBounds_toArray, List.set_cons_zero, List.set_cons_succ]
    refine takeL (i := 11) (v := .agg (bv z2 ++ [Value.bool false, .bool false]).toArray) rfl (by kernel_rfl) (by kernel_rfl) (by kernel_rfl) (fun _ _ _ h => h) (Or.inl ⟨by rfl, fun w _ => ?_⟩) trivial ?_
    · exact exec_built w _ _ _ rfl (by simp only [List.map_toArray, List.map_cons, List.map_nil]; exact built_roleK (l := bv z2) (by rw [bv_length, hz2]))
    try simp only [Act.put, List.setIfInBounds_toArray, List.set_cons_zero, List.set_cons_succ]
    refine takeL (i := 12) (v := .agg (sheetC (.slice B m d) (bv z1 ++ [Value.bool false, .bool false]) (bv z2 ++ [Value.bool false, .bool false])).toArray) rfl (by kernel_rfl) (by kernel_rfl) (by kernel_rfl) (fun _ _ _ h => h) (Or.inl ⟨by rfl, fun w _ => ?_⟩) trivial ?_
    · exact exec_built w _ _ _ rfl (by simp only [List.map_toArray, List.map_cons, List.map_nil]; exact built_sheetR B m d _ _ (by rw [List.length_append, bv_length, hz1]; rfl) (by rw [List.length_append, bv_length, hz2]; rfl))
    try simp only [Act.put, List.setIfInBounds_toArray, List.set_cons_zero, List.set_cons_succ]
    refine takeL (i := 13) (v := ?_) rfl (by kernel_rfl) (by kernel_rfl) (by kernel_rfl) (fun _ _ _ h => h) (Or.inl ⟨by rfl, ?_⟩) trivial ?_
    rotate_left
    · intro w _
      go_simp
      try with_reducible rfl
    try simp only [Act.put, List.setIfInBounds_toArray, List.set_cons_zero, List.set_cons_succ]
    refine readyL (i := 14) rfl (by kernel_rfl) (by kernel_rfl) fun K hK => ?_
    go_simp
    refine hK _ _ trivial ?_
    clear hK K
    try simp only [Act.put, List.setIfInBounds_toArray, List.set_cons_zero, List.set_cons_succ]
    have HB4 := Lib.hid (H23.out.alloc (.cells [Value.iface 65 (.agg (sheetC (.slice B m d) (bv z1 ++ [Value.bool false, .bool false]) (bv z2 ++ [Value.bool false, .bool false])).toArray)].toArray 69))
    have hsee := (Row.new w23 69 [Value.iface 65 (.agg (sheetC (.slice B m d) (bv z1 ++ [Value.bool false, .bool false]) (bv z2 ++ [Value.bool false, .bool false])).toArray)]).sees0
    have HSEE := Lib.hid hsee
    clear hsee
    refine readyL (i := 15) rfl (by kernel_rfl) (by kernel_rfl) fun K hK => ?_
    refine wp_append_sees (.tmp 11) (.tmp 21) rfl Try.underlying29 HI.out.1 HI.out.2.1 HI.out.2.2.1 HI.out.2.2.2 rfl rfl HB4.out.own rfl HSEE.out (by simp [Value.oneCell']) (by unfold maxLen; omega) (by omega) HB4.out.lt ?_
    intro v5 w5 ho5 hg5 hat5
    obtain ⟨A5, c5, rfl⟩ := own_form ho5
    refine hK _ _ trivial ?_
    clear hK K
    try simp only [Act.put, List.setIfInBounds_toArray, List.set_cons_zero, List.set_cons_succ]
    have hr5 := HB4.out.row.grown hg5 (own_row_ne HB4.out.own HB4.out.row (by decide))
    have e5 : w5.cell? ⟨p, 0, none⟩ = some (.slice A n c) := hr5.cell 0
    have g5 := hr5.frozen 0
    refine takeL (i := 16) (v := ?_) rfl (by kernel_rfl) (by kernel_rfl) (by kernel_rfl) (fun _ _ _ h => h) (Or.inl ⟨by rfl, ?_⟩) trivial ?_
    rotate_left
    · intro w _
      go_simp
      try with_reducible rfl
    try simp only [Act.put, List.setIfInBounds_toArray, List.set_cons_zero, List.set_cons_succ]
    refine takeL (i := 17) (v := ?_) rfl (by kernel_rfl) (by kernel_rfl) (by kernel_rfl) (fun _ _ _ h => h) (Or.inl ⟨by rfl, ?_⟩) trivial ?_
    rotate_left
    · intro w _
      go_simp
      try with_reducible rfl
    try simp only [Act.put, List.setIfInBounds_toArray, List.set_cons_zero, List.set_cons_succ]
    refine readyL (i := 18) rfl (by kernel_rfl) (by kernel_rfl) fun K hK => ?_
    go_simp
    refine hK _ _ trivial ?_
    clear hK K
    try simp only [Act.put, List.setIfInBounds_toArray, List.set_cons_zero, List.set_cons_succ]
    refine wpAnyH_done (by kernel_rfl) ?_ _
    have HE := Lib.hid (HB4.out.last hr5 ho5 hg5)
    clear e5 g5 hr5 ho5 hg5 hat5
    go_wp2_with fail
    go_end0
    exact ⟨_, _, A5, c5, rfl, HM.out z1 hz1, HM.out z2 hz2, HE.out⟩
  · go_simp
    refine (keyMark _ _ _).mono ?_
    rintro e w11 ⟨z1, rfl, hz1, hb⟩
    have H11 := Lib.hid (H0.out.below hb)
    clear hb
    simp only []
    refine hK _ _ trivial ?_
    clear hK K
    try simp only [Act.put, List.setIfInBounds_toArray, List.set_cons_zero, List.set_cons_succ]
    refine takeL (i := 8) (v := .agg (bv z1 ++ [Value.bool false, .bool false]).toArray) rfl (by kernel_rfl) (by kernel_rfl) (by kernel_rfl) (fun _ _ _ h => h) (Or.inl ⟨by rfl, fun w _ => ?_⟩) trivial ?_
    · exact exec_built w _ _ _ rfl (by simp only [List.map_toArray, List.map_cons, List.map_nil]; exact built_roleK (l := bv z1) (by rw [bv_length, hz1]))
    try simp only [Act.put, List.setIfInBounds_toArray, List.set_cons_zero, List.set_cons_succ]
    refine wpAnyH_ready (rs := [4, 10]) (by kernel_rfl) (by simp) ?_
    refine allL rfl (by kernel_rfl) (fun K hK => ?_) (allL rfl (by kernel_rfl) (fun K hK => ?_) (AllReadyH.nil))
    · have c2 : w11.cell? ⟨p, 0, none⟩ = some (.slice A n c) := H11.out.row.cell 0
      go_simp
      clear c2
      refine hK _ _ trivial ?_
      clear hK K
      try simp only [Act.put, List.setIfInBounds_toArray, List.set_cons_zero, List.set_cons_succ]
      refine readyL (i := 10) rfl (by kernel_rfl) (by kernel_rfl) fun K hK => ?_
      go_simp
      refine (keyMark _ _ _).mono ?_
      rintro e w23 ⟨z2, rfl, hz2, hb⟩
      have H23 := Lib.hid (H11.out.below hb)
      clear hb
      simp only []
      refine hK _ _ trivial ?_
      clear hK K
      try simp only [Act.put, List.setIfInBounds_toArray, List.set_cons_zero, List.set_cons_succ]
      refine takeL (i := 11) (v := .agg (bv z2 ++ [Value.bool false, .bool false]).toArray) rfl (by kernel_rfl) (by kernel_rfl) (by kernel_rfl) (fun _ _ _ h => h) (Or.inl ⟨by rfl, fun w _ => ?_⟩) trivial ?_
      · exact exec_built w _ _ _ rfl (by simp only [List.map_toArray, List.map_cons, List.map_nil]; exact built_roleK (l := bv z2) (by rw [bv_length, hz2]))
      try simp only [Act.put, List.setIfInBounds_toArray, List.set_cons_zero, List.set_cons_succ]
      refine takeL (i := 12) (v := .agg (sheetC (.slice B m d) (bv z1 ++ [Value.bool false, .bool false]) (bv z2 ++ [Value.bool false, .bool false])).toArray) rfl (by kernel_rfl) (by kernel_rfl) (by kernel_rfl) (fun _ _ _ h => h) (Or.inl ⟨by rfl, fun w _ => ?_⟩) trivial ?_
      · exact exec_built w _ _ _ rfl (by simp only [List.map_toArray, List.map_cons, List.map_nil]; exact built_sheetR B m d _ _ (by rw [List.length_append, bv_length, hz1]; rfl) (by rw [List.length_append, bv_length, hz2]; rfl))
      try simp only [Act.put, List.setIfInBounds_toArray, List.set_cons_zero, List.set_cons_succ]
      refine takeL (i := 13) (v := ?_) rfl (by kernel_rfl) (by kernel_rfl) (by kernel_rfl) (fun _ _ _ h => h) (Or.inl ⟨by rfl, ?_⟩) trivial ?_
      rotate_left
      · intro w _
        go_simp
        try with_reducible rfl
      try simp only [Act.put, List.setIfInBounds_toArray, List.set_cons_zero, List.set_cons_succ]
      refine readyL (i := 14) rfl (by kernel_rfl) (by kernel_rfl) fun K hK => ?_
      go_simp
      refine hK _ _ trivial ?_
      clear hK K
      try simp only [Act.put, List.setIfInBounds_toArray, List.set_cons_zero, List.set_cons_succ]
      have HB4 := Lib.hid (H23.out.alloc (.cells [Value.iface 65 (.agg (sheetC (.slice B m d) (bv z1 ++ [Value.bool false, .bool false]) (bv z2 ++ [Value.bool false, .bool false])).toArray)].toArray 69))
      have hsee := (Row.new w23 69 [Value.iface 65 (.agg (sheetC (.slice B m d) (bv z1 ++ [Value.bool false, .bool false]) (bv z2 ++ [Value.bool false, .bool false])).toArray)]).sees0
      have HSEE := Lib.hid hsee
      clear hsee
      refine readyL (i := 15) rfl (by kernel_rfl) (by kernel_rfl) fun K hK => ?_
      refine wp_append_sees (.tmp 11) (.tmp 21) rfl Try.underlying29 HI.out.1 HI.out.2.1 HI.out.2.2.1 HI.out.2.2.2 rfl rfl HB4.out.own rfl HSEE.out (by simp [Value.oneCell']) (by unfold maxLen; omega) (by omega) HB4.out.lt ?_
      intro v5 w5 ho5 hg5 hat5
      obtain ⟨A5, c5, rfl⟩ := own_form ho5
      refine hK _ _ trivial ?_
      clear hK K
      try simp only [Act.put, List.setIfInBounds_toArray, List.set_cons_zero, List.set_cons_succ]
      have hr5 := HB4.out.row.grown hg5 (own_row_ne HB4.out.own HB4.out.row (by decide))
      have e5 : w5.cell? ⟨p, 0, none⟩ = some (.slice A n c) := hr5.cell 0
      have g5 := hr5.frozen 0
      refine takeL (i := 16) (v := ?_) rfl (by kernel_rfl) (by kernel_rfl) (by kernel_rfl) (fun _ _ _ h => h) (Or.inl ⟨by rfl, ?_⟩) trivial ?_
      rotate_left
      · intro w _
        go_simp
        try with_reducible rfl
      try simp only [Act.put, List.setIfInBounds_toArray, List.set_cons_zero, List.set_cons_succ]
      refine takeL (i := 17) (v := ?_) rfl (by kernel_rfl) (by kernel_rfl) (by kernel_rfl) (fun _ _ _ h => h) (Or.inl ⟨by rfl, ?_⟩) trivial ?_
      rotate_left
      · intro w _
        go_simp
        try with_reducible rfl
      try simp only [Act.put, List.setIfInBounds_toArray, List.set_cons_zero, List.set_cons_succ]
      refine readyL (i := 18) rfl (by kernel_rfl) (by kernel_rfl) fun K hK => ?_
      go_simp
      refine hK _ _ trivial ?_
      clear hK K
      try simp only [Act.put, List.setIfInBounds_toArray, List.set_cons_zero, List.set_cons_succ]
      refine wpAnyH_done (by kernel_rfl) ?_ _
      have HE := Lib.hid (HB4.out.last hr5 ho5 hg5)
      clear e5 g5 hr5 ho5 hg5 hat5
      go_wp2_with fail
      go_end0
      exact ⟨_, _, A5, c5, rfl, HM.out z1 hz1, HM.out z2 hz2, HE.out⟩
    · go_simp
      refine (keyMark _ _ _).mono ?_
      rintro e w22 ⟨z2, rfl, hz2, hb⟩
      have H22 := Lib.hid (H11.out.below hb)
      clear hb
      simp only []
      refine hK _ _ trivial ?_
      clear hK K
      try simp only [Act.put, List.setIfInBounds_toArray, List.set_cons_zero, List.set_cons_succ]
      refine takeL (i := 11) (v := .agg (bv z2 ++ [Value.bool false, .bool false]).toArray) rfl (by kernel_rfl) (by kernel_rfl) (by kernel_rfl) (fun _ _ _ h => h) (Or.inl ⟨by rfl, fun w _ => ?_⟩) trivial ?_
      · exact exec_built w _ _ _ rfl (by simp only [List.map_toArray, List.map_cons, List.map_nil]; exact built_roleK (l := bv z2) (by rw [bv_length, hz2]))
      try simp only [Act.put, List.setIfInBounds_toArray, List.set_cons_zero, List.set_cons_succ]
      refine takeL (i := 12) (v := .agg (sheetC (.slice B m d) (bv z1 ++ [Value.bool false, .bool false]) (bv z2 ++ [Value.bool false, .bool false])).toArray) rfl (by kernel_rfl) (by kernel_rfl) (by kernel_rfl) (fun _ _ _ h => h) (Or.inl ⟨by rfl, fun w _ => ?_⟩) trivial ?_
      · exact exec_built w _ _ _ rfl (by simp only [List.map_toArray, List.map_cons, List.map_nil]; exact built_sheetR B m d _ _ (by rw [List.length_append, bv_length, hz1]; rfl) (by rw [List.length_append, bv_length, hz2]; rfl))
      try simp only [Act.put, List.setIfInBounds_toArray, List.set_cons_zero, List.set_cons_succ]
      refine takeL (i := 13) (v := ?_) rfl (by kernel_rfl) (by kernel_rfl) (by kernel_rfl) (fun _ _ _ h => h) (Or.inl ⟨by rfl, ?_⟩) trivial ?_
      rotate_left
      · intro w _
        go_simp
        try with_reducible rfl
      try simp only [Act.put, List.setIfInBounds_toArray, List.set_cons_zero, List.set_cons_succ]
      refine wpAnyH_ready (rs := [4, 14]) (by kernel_rfl) (by simp) ?_
      refine allL rfl (by kernel_rfl) (fun K hK => ?_) (allL rfl (by kernel_rfl) (fun K hK => ?_) (AllReadyH.nil))
      · have c3 : w22.cell? ⟨p, 0, none⟩ = some (.slice A n c) := H22.out.row.cell 0
        go_simp
        clear c3
        refine hK _ _ trivial ?_
        clear hK K
        try simp only [Act.put, List.setIfInBounds_toArray, List.set_cons_zero, List.set_cons_succ]
        refine readyL (i := 14) rfl (by kernel_rfl) (by kernel_rfl) fun K hK => ?_
        go_simp
        refine hK _ _ trivial ?_
        clear hK K
        try simp only [Act.put, List.setIfInBounds_toArray, List.set_cons_zero, List.set_cons_succ]
        have HB4 := Lib.hid (H22.out.alloc (.cells [Value.iface 65 (.agg (sheetC (.slice B m d) (bv z1 ++ [Value.bool false, .bool false]) (bv z2 ++ [Value.bool false, .bool false])).toArray)].toArray 69))
        have hsee := (Row.new w22 69 [Value.iface 65 (.agg (sheetC (.slice B m d) (bv z1 ++ [Value.bool false, .bool false]) (bv z2 ++ [Value.bool false, .bool false])).toArray)]).sees0
        have HSEE := Lib.hid hsee
        clear hsee
        refine readyL (i := 15) rfl (by kernel_rfl) (by kernel_rfl) fun K hK => ?_
        refine wp_append_sees (.tmp 11) (.tmp 21) rfl Try.underlying29 HI.out.1 HI.out.2.1 HI.out.2.2.1 HI.out.2.2.2 rfl rfl HB4.out.own rfl HSEE.out (by simp [Value.oneCell']) (by unfold maxLen; omega) (by omega) HB4.out.lt ?_
        intro v5 w5 ho5 hg5 hat5
        obtain ⟨A5, c5, rfl⟩ := own_form ho5
        refine hK _ _ trivial ?_
        clear hK K
        try simp only [Act.put, List.setIfInBounds_toArray, List.set_cons_zero, List.set_cons_succ]
        have hr5 := HB4.out.row.grown hg5 (own_row_ne HB4.out.own HB4.out.row (by decide))
        have e5 : w5.cell? ⟨p, 0, none⟩ = some (.slice A n c) := hr5.cell 0
        have g5 := hr5.frozen 0
        refine takeL (i := 16) (v := ?_) rfl (by kernel_rfl) (by kernel_rfl) (by kernel_rfl) (fun _ _ _ h => h) (Or.inl ⟨by rfl, ?_⟩) trivial ?_
        rotate_left
        · intro w _
          go_simp
          try with_reducible rfl
        try simp only [Act.put, List.setIfInBounds_toArray, List.set_cons_zero, List.set_cons_succ]
        refine takeL (i := 17) (v := ?_) rfl (by kernel_rfl) (by kernel_rfl) (by kernel_rfl) (fun _ _ _ h => h) (Or.inl ⟨by rfl, ?_⟩) trivial ?_
        rotate_left
        · intro w _
          go_simp
          try with_reducible rfl
        try simp only [Act.put, List.setIfInBounds_toArray, List.set_cons_zero, List.set_cons_succ]
        refine readyL (i := 18) rfl (by kernel_rfl) (by kernel_rfl) fun K hK => ?_
        go_simp
        refine hK _ _ trivial ?_
        clear hK K
        try simp only [Act.put, List.setIfInBounds_toArray, List.set_cons_zero, List.set_cons_succ]
        refine wpAnyH_done (by kernel_rfl) ?_ _
        have HE := Lib.hid (HB4.out.last hr5 ho5 hg5)
        clear e5 g5 hr5 ho5 hg5 hat5
        go_wp2_with fail
        go_end0
        exact ⟨_, _, A5, c5, rfl, HM.out z1 hz1, HM.out z2 hz2, HE.out⟩
      · go_simp
        refine hK _ _ trivial ?_
        clear hK K
        try simp only [Act.put, List.setIfInBounds_toArray, List.set_cons_zero, List.set_cons_succ]
        have HB3 := Lib.hid (H22.out.alloc (.cells [Value.iface 65 (.agg (sheetC (.slice B m d) (bv z1 ++ [Value.bool false, .bool false]) (bv z2 ++ [Value.bool false, .bool false])).toArray)].toArray 69))
        have hsee := (Row.new w22 69 [Value.iface 65 (.agg (sheetC (.slice B m d) (bv z1 ++ [Value.bool false, .bool false]) (bv z2 ++ [Value.bool false, .bool false])).toArray)]).sees0
        have HSEE := Lib.hid hsee
        clear hsee
        refine readyL (i := 4) rfl (by kernel_rfl) (by kernel_rfl) fun K hK => ?_
        have c4 : (w22.alloc (.cells [Value.iface 65 (.agg (sheetC (.slice B m d) (bv z1 ++ [Value.bool false, .bool false]) (bv z2 ++ [Value.bool false, .bool false])).toArray)].toArray 69)).cell? ⟨p, 0, none⟩ = some (.slice A n c) := HB3.out.row.cell 0
        go_simp
        clear c4
        refine hK _ _ trivial ?_
        clear hK K
        try simp only [Act.put, List.setIfInBounds_toArray, List.set_cons_zero, List.set_cons_succ]
        refine readyL (i := 15) rfl (by kernel_rfl) (by kernel_rfl) fun K hK => ?_
        refine wp_append_sees (.tmp 11) (.tmp 21) rfl Try.underlying29 HI.out.1 HI.out.2.1 HI.out.2.2.1 HI.out.2.2.2 rfl rfl HB3.out.own rfl HSEE.out (by simp [Value.oneCell']) (by unfold maxLen; omega) (by omega) HB3.out.lt ?_
        intro v5 w5 ho5 hg5 hat5
        obtain ⟨A5, c5, rfl⟩ := own_form ho5
        refine hK _ _ trivial ?_
        clear hK K
        try simp only [Act.put, List.setIfInBounds_toArray, List.set_cons_zero, List.set_cons_succ]
        have hr5 := HB3.out.row.grown hg5 (own_row_ne HB3.out.own HB3.out.row (by decide))
        have e5 : w5.cell? ⟨p, 0, none⟩ = some (.slice A n c) := hr5.cell 0
        have g5 := hr5.frozen 0
        refine takeL (i := 16) (v := ?_) rfl (by kernel_rfl) (by kernel_rfl) (by kernel_rfl) (fun _ _ _ h => h) (Or.inl ⟨by rfl, ?_⟩) trivial ?_
        rotate_left
        · intro w _
          go_simp
          try with_reducible rfl
        try simp only [Act.put, List.setIfInBounds_toArray, List.set_cons_zero, List.set_cons_succ]
        refine takeL (i := 17) (v := ?_) rfl (by kernel_rfl) (by kernel_rfl) (by kernel_rfl) (fun _ _ _ h => h) (Or.inl ⟨by rfl, ?_⟩) trivial ?_
        rotate_left
        · intro w _
          go_simp
          try with_reducible rfl
        try simp only [Act.put, List.setIfInBounds_toArray, List.set_cons_zero, List.set_cons_succ]
        refine readyL (i := 18) rfl (by kernel_rfl) (by kernel_rfl) fun K hK => ?_
        go_simp
        refine hK _ _ trivial ?_
        clear hK K
        try simp only [Act.put, List.setIfInBounds_toArray, List.set_cons_zero, List.set_cons_succ]
        refine wpAnyH_done (by kernel_rfl) ?_ _
        have HE := Lib.hid (HB3.out.last hr5 ho5 hg5)
        clear e5 g5 hr5 ho5 hg5 hat5
        go_wp2_with fail
        go_end0
        exact ⟨_, _, A5, c5, rfl, HM.out z1 hz1, HM.out z2 hz2, HE.out⟩
end Go.Proofs.Ytkpdjjhkocmfoaa

/-
  Of part Pages: what is needed here.
-/
namespace Go.Proofs.Ytkpdjjhkocmfoaa
open Go.RowKit
set_option linter.unusedVariables false
/-- a page's kind -/
inductive Kd where
  | k
  | r
/-- a page's kind, with its two signs -/
inductive Sg where
  | k (h f : List Int)
  | r (h f : List Value)
def Sg.et : Sg → TypeId
  | .k _ _ => 46
  | .r _ _ => 48
def Sg.sz : Sg → Nat
  | .k _ _ => 32
  | .r _ _ => 34
def Sg.here : Sg → Nat → List Value
  | .k h _, n => keyRow n h
  | .r h _, n => rowOf n h
def Sg.far : Sg → Nat → List Value
  | .k _ f, n => keyRow n f
  | .r _ f, n => rowOf n f
def Sg.pay : Sg → Value → Value
  | .k h f, l => .agg (sheetCells l h f).toArray
  | .r h f, l => .agg (sheetC l h f).toArray
def Sg.ty : Sg → TypeId
  | .k _ _ => 67
  | .r _ _ => 65
def Sg.Wf : Sg → Prop
  | .k h f => h.length = 32 ∧ f.length = 32
  | .r h f => IsR h ∧ IsR f
def Sg.signFn : Sg → FuncId
  | .k _ _ => 59
  | .r _ _ => 57
def Sg.ownFn : Sg → FuncId
  | .k _ _ => 58
  | .r _ _ => 56
/-- a page: where its list lies, how long it is, its room, its kind -/
structure Pg2 where
  A : Option Nat
  n : Nat
  c : Nat
  s : Sg
def Pg2.list (p : Pg2) : Value := .slice (p.A.map fun g => ⟨g, 0, none⟩) p.n p.c
def Pg2.val (p : Pg2) : Value := .iface p.s.ty (p.s.pay p.list)
/-- the page's list lies in memory; a: its cells bear its sign; b: its room bears its other one -/
def Pg2.Fit (w : World) (q : Pg2) (a b : Prop) : Prop :=
  match q.A with
  | none => q.n = 0 ∧ q.c = 0
  | some g => q.n ≤ q.c ∧ q.c ≤ 9223372036854775807 ∧ ∃ xs ys zs, Row w g q.s.et (xs ++ (ys ++ zs)) ∧ xs.length = q.n * q.s.sz ∧ ys.length = (q.c - q.n) * q.s.sz ∧ (32 < q.s.sz → zs = []) ∧ (a → xs = q.s.here q.n) ∧ (b → ys = q.s.far (q.c - q.n))
theorem Pg2.Fit.keep {w w' : World} {q : Pg2} {a b : Prop} {r : Option Nat} (h : q.Fit w a b) (hg : w.grownBy w' r) (hne : ∀ g, q.A = some g → some g ≠ r) : q.Fit w' a b := by
  obtain ⟨A, n, c, s⟩ := q
  cases A with
  | none => exact h
  | some g =>
    obtain ⟨h1, h2, xs, ys, zs, hr, h3⟩ := h
    exact ⟨h1, h2, xs, ys, zs, hr.grown hg (hne g rfl), h3⟩
theorem sign_page2 (q : Pg2) (w : World) (a b : Prop) (h : q.Fit w a b) (hs : q.s.Wf) :
    Calls Try.prog q.s.signFn #[q.s.pay q.list, .bool false] w fun e w' => e = .returned (.tuple #[]) ∧ q.Fit w' True b ∧ w.grownBy w' q.A := by
  obtain ⟨A, n, c, s⟩ := q
  cases A with
  | none =>
    obtain ⟨rfl, rfl⟩ := h
    cases s with
    | k hh ff =>
      refine (signK_nil false hh ff w).mono ?_
      rintro e w' ⟨rfl, hg⟩
      exact ⟨rfl, ⟨rfl, rfl⟩, hg⟩
    | r hh ff =>
      refine (signR_nil false hh ff w).mono ?_
      rintro e w' ⟨rfl, hg⟩
      exact ⟨rfl, ⟨rfl, rfl⟩, hg⟩
  | some g =>
    obtain ⟨h1, h2, xs, ys, zs, hr, h3, h4, hz, h5, h6⟩ := h
    have h1 : n ≤ c := h1
    cases s with
    | k hh ff =>
      have h3' : xs.length = n * 32 := h3
      have h4' : ys.length = (c - n) * 32 := h4
      refine (signK_false g n c hh ff (xs ++ (ys ++ zs)) w hr (by simp only [List.length_append]; omega) h1 h2 hs.1 hs.2).mono ?_
      rintro e w' ⟨rfl, hr', hg⟩
      refine ⟨rfl, ⟨h1, h2, keyRow n hh, ys, zs, ?_, keyRow_len n hs.1, h4, hz, fun _ => rfl, h6⟩, hg⟩
      rwa [List.drop_append_of_le_length (by omega), List.drop_of_length_le (by omega), List.nil_append] at hr'
    | r hh ff =>
      obtain rfl := hz (by show 32 < 34; omega)
      rw [List.append_nil] at hr
      have h3' : xs.length = n * 34 := h3
      have h4' : ys.length = (c - n) * 34 := h4
      refine (signR_false g n c hh ff (xs ++ ys) w hr (by rw [List.length_append]; omega) h1 h2 hs.1 hs.2).mono ?_
      rintro e w' ⟨rfl, hr', hg⟩
      refine ⟨rfl, ⟨h1, h2, rowOf n hh, ys, [], ?_, rowOf_len n hs.1.len, h4, fun _ => rfl, fun _ => rfl, h6⟩, hg⟩
      rw [List.append_nil]
      rwa [List.drop_append_of_le_length (by omega), List.drop_of_length_le (by omega), List.nil_append] at hr'
theorem sign_room2 (q : Pg2) (w : World) (a b : Prop) (h : q.Fit w a b) (hs : q.s.Wf) :
    Calls Try.prog q.s.signFn #[q.s.pay q.list, .bool true] w fun e w' => e = .returned (.tuple #[]) ∧ q.Fit w' a True ∧ w.grownBy w' q.A := by
  obtain ⟨A, n, c, s⟩ := q
  cases A with
  | none =>
    obtain ⟨rfl, rfl⟩ := h
    cases s with
    | k hh ff =>
      refine (signK_nil true hh ff w).mono ?_
      rintro e w' ⟨rfl, hg⟩
      exact ⟨rfl, ⟨rfl, rfl⟩, hg⟩
    | r hh ff =>
      refine (signR_nil true hh ff w).mono ?_
      rintro e w' ⟨rfl, hg⟩
      exact ⟨rfl, ⟨rfl, rfl⟩, hg⟩
  | some g =>
    obtain ⟨h1, h2, xs, ys, zs, hr, h3, h4, hz, h5, h6⟩ := h
    have h1 : n ≤ c := h1
    cases s with
    | k hh ff =>
      have h4' : ys.length = (c - n) * 32 := h4
      refine (signK_true g n c hh ff xs (ys ++ zs) w hr h3 (by rw [List.length_append]; omega) h1 h2 hs.1 hs.2).mono ?_
      rintro e w' ⟨rfl, hr', hg⟩
      rw [List.drop_append_of_le_length (by omega), List.drop_of_length_le (by omega), List.nil_append] at hr'
      exact ⟨rfl, ⟨h1, h2, xs, _, zs, hr', h3, keyRow_len _ hs.2, hz, h5, fun _ => rfl⟩, hg⟩
    | r hh ff =>
      obtain rfl := hz (by show 32 < 34; omega)
      rw [List.append_nil] at hr
      refine (signR_true g n c hh ff xs ys w hr h3 h4 h1 h2 hs.1 hs.2).mono ?_
      rintro e w' ⟨rfl, hr', hg⟩
      exact ⟨rfl, ⟨h1, h2, xs, _, [], by rwa [List.append_nil], h3, rowOf_len _ hs.2.len, fun _ => rfl, h5, fun _ => rfl⟩, hg⟩
theorem own_page2 (q : Pg2) (w : World) (h : q.Fit w True True) (hs : q.s.Wf) :
    Calls Try.prog q.s.ownFn #[q.s.pay q.list] w fun e w' => e = .returned (.bool true) ∧ w.grownBy w' none := by
  obtain ⟨A, n, c, s⟩ := q
  cases A with
  | none =>
    obtain ⟨rfl, rfl⟩ := h
    cases s with
    | k hh ff => exact ownK_nil hh ff w
    | r hh ff => exact ownR_nil hh ff w
  | some g =>
    obtain ⟨h1, h2, xs, ys, zs, hr, h3, h4, hz, h5, h6⟩ := h
    rw [h5 trivial, h6 trivial] at hr
    cases s with
    | k hh ff => exact ownK_true g n c hh ff zs w hr h1 h2 hs.1 hs.2
    | r hh ff =>
      obtain rfl := hz (by show 32 < 34; omega)
      rw [List.append_nil] at hr
      exact ownR_true g n c hh ff w hr h1 h2 hs.1 hs.2
/-- of the blocks of w only the pages' have been written -/
structure Touched (P : List Pg2) (w w' : World) : Prop where
  os : w'.os = w.os
  tape : w'.tape = w.tape
  output : w'.output = w.output
  size : w.heap.size ≤ w'.heap.size
  block : ∀ k, k < w.heap.size → (∀ q ∈ P, q.A ≠ some k) → w'.heap[k]? = w.heap[k]?
theorem Touched.refl (P : List Pg2) (w : World) : Touched P w w := ⟨rfl, rfl, rfl, Nat.le_refl _, fun _ _ _ => rfl⟩
theorem Touched.step {P : List Pg2} {w a b : World} {r : Option Nat} (h : Touched P w a) (hg : a.grownBy b r) (hr : ∀ g, r = some g → ∃ q ∈ P, q.A = some g) : Touched P w b :=
  ⟨hg.os.trans h.os, hg.tape.trans h.tape, hg.output.trans h.output, Nat.le_trans h.size hg.size, fun k hk hne => by
    rw [hg.block k (Nat.lt_of_lt_of_le hk h.size) (fun e => by obtain ⟨q, hq, e'⟩ := hr k e.symm; exact hne q hq e'), h.block k hk hne]⟩
theorem Touched.below {P : List Pg2} {w w' : World} {B : Nat} (h : Touched P w w') (hB : B ≤ w.heap.size) (hp : ∀ q ∈ P, ∀ g, q.A = some g → B ≤ g) : Below B w w' :=
  ⟨h.os, h.tape, h.output, h.size, fun k hk => h.block k (by omega) fun q hq e => by have := hp q hq k e; omega⟩
/-- the book, with its pages, in memory -/
structure BookAt (w : World) (p : Nat) (base : Nat) (A : Option Addr) (c : Nat) (P : List Pg2) (ka kb : Nat) : Prop where
  row : Row w p 31 [.slice A P.length c]
  own : w.ownsRow base 69 1 (.slice A P.length c) P.length (P.map Pg2.val)
  fit : ∀ i (hi : i < P.length), P[i].Fit w (i < ka) (i < kb)
def Parted (P : List Pg2) : Prop := ∀ i j (hi : i < P.length) (hj : j < P.length) g, P[i].A = some g → P[j].A = some g → i = j
theorem row_ne {w : World} {g g' t t' : Nat} {xs ys : List Value} (h : Row w g t xs) (h' : Row w g' t' ys) (hne : t ≠ t') : g ≠ g' := by
  rintro rfl
  have a := h.is
  rw [h'.is] at a
  injection a with a
  injection a with _ a
  exact hne a.symm
theorem Fit_row {w : World} {q : Pg2} {a b : Prop} {g : Nat} (h : q.Fit w a b) (hg : q.A = some g) : ∃ xs, Row w g q.s.et xs := by
  obtain ⟨A, n, c, s⟩ := q
  cases hg
  obtain ⟨_, _, xs, ys, zs, hr, _⟩ := h
  exact ⟨_, hr⟩
theorem et_book (s : Sg) : 31 ≠ s.et := by
  cases s with
  | k => exact (by decide : (31 : Nat) ≠ 46)
  | r => exact (by decide : (31 : Nat) ≠ 48)
theorem et_page (s : Sg) : 69 ≠ s.et := by
  cases s with
  | k => exact (by decide : (69 : Nat) ≠ 46)
  | r => exact (by decide : (69 : Nat) ≠ 48)
/-- a page is signed: the others stay -/
theorem BookAt.signed {w w' : World} {p base : Nat} {A : Option Addr} {c : Nat} {P : List Pg2} {ka kb : Nat} (h : BookAt w p base A c P ka kb) (hP : Parted P) {k : Nat} (hk : k < P.length) {a b : Prop}
    (hf : P[k].Fit w' a b) (hg : w.grownBy w' P[k].A) {ka' kb' : Nat} (h1 : (k < ka') → a) (h2 : (k < kb') → b) (h3 : ∀ i, i ≠ k → (i < ka' → i < ka)) (h4 : ∀ i, i ≠ k → (i < kb' → i < kb)) : BookAt w' p base A c P ka' kb' := by
  have fitk := h.fit k hk
  refine ⟨h.row.grown hg ?_, h.own.kept hg ?_, fun i hi => ?_⟩
  · intro e
    obtain ⟨xs, hr⟩ := Fit_row fitk e.symm
    exact row_ne h.row hr (et_book _) rfl
  · cases e : P[k].A with
    | none => cases (Value.slice A P.length c).ownBlock <;> simp
    | some g =>
      obtain ⟨xs, hr⟩ := Fit_row fitk e
      exact .inr (fun e' => own_row_ne h.own hr (et_page _) e'.symm)
  · by_cases hik : i = k
    · subst hik
      obtain ⟨⟨A', n', c', s'⟩, hq⟩ : ∃ q, q = P[i] := ⟨_, rfl⟩
      rw [← hq] at hf ⊢
      cases A' with
      | none => exact hf
      | some g =>
        obtain ⟨e1, e2, xs, ys, zs, hr, e3, e4, ez, e5, e6⟩ := hf
        exact ⟨e1, e2, xs, ys, zs, hr, e3, e4, ez, fun x => e5 (h1 x), fun x => e6 (h2 x)⟩
    · have := (h.fit i hi).keep hg (fun g e e' => hik (hP i k hi hk g e e'.symm))
      obtain ⟨⟨A', n', c', s'⟩, hq⟩ : ∃ q, q = P[i] := ⟨_, rfl⟩
      rw [← hq] at this ⊢
      cases A' with
      | none => exact this
      | some g =>
        obtain ⟨e1, e2, xs, ys, zs, hr, e3, e4, ez, e5, e6⟩ := this
        exact ⟨e1, e2, xs, ys, zs, hr, e3, e4, ez, fun x => e5 (h3 i hik x), fun x => e6 (h4 i hik x)⟩
theorem BookAt.page {w : World} {p base : Nat} {A : Option Addr} {c : Nat} {P : List Pg2} {ka kb : Nat} (h : BookAt w p base A c P ka kb) {k : Nat} (hk : k < P.length) : ∃ a, A = some a ∧ w.cell? (a.add k) = some P[k].val := by
  have hl := h.own
  obtain ⟨a, u, e, _, hx, hc⟩ := (Sees.of_own hl).at_ hk
  refine ⟨a, e, ?_⟩
  rw [hc]
  rw [List.getElem?_map, List.getElem?_eq_getElem hk] at hx
  exact hx.symm
theorem meth_signK (v : Array Value) (w : World) : (method 198 67 (.agg v) "ferryhouse/ferryhouselaw01.sign").run Try.prog w = .ok (59, .agg v) w := by kernel_rfl
theorem meth_signR (v : Array Value) (w : World) : (method 198 65 (.agg v) "ferryhouse/ferryhouselaw01.sign").run Try.prog w = .ok (57, .agg v) w := by kernel_rfl
theorem meth_ownK (v : Array Value) (w : World) : (method 198 67 (.agg v) "ferryhouse/ferryhouselaw01.own").run Try.prog w = .ok (58, .agg v) w := by kernel_rfl
theorem meth_ownR (v : Array Value) (w : World) : (method 198 65 (.agg v) "ferryhouse/ferryhouselaw01.own").run Try.prog w = .ok (56, .agg v) w := by kernel_rfl
theorem meth_sign (s : Sg) (l : Value) (w : World) : (method 198 s.ty (s.pay l) "ferryhouse/ferryhouselaw01.sign").run Try.prog w = .ok (s.signFn, s.pay l) w := by
  cases s with
  | k h f => exact meth_signK _ w
  | r h f => exact meth_signR _ w
theorem meth_own (s : Sg) (l : Value) (w : World) : (method 198 s.ty (s.pay l) "ferryhouse/ferryhouselaw01.own").run Try.prog w = .ok (s.ownFn, s.pay l) w := by
  cases s with
  | k h f => exact meth_ownK _ w
  | r h f => exact meth_ownR _ w
theorem call_sign (s : Sg) (args : Array Value) (w : World) : (callFunc s.signFn args).run Try.prog w = .ok (.enter s.signFn args) w := by
  cases s with
  | k => exact (by kernel_rfl : (callFunc 59 args).run Try.prog w = .ok (.enter 59 args) w)
  | r => exact (by kernel_rfl : (callFunc 57 args).run Try.prog w = .ok (.enter 57 args) w)
theorem call_own (s : Sg) (args : Array Value) (w : World) : (callFunc s.ownFn args).run Try.prog w = .ok (.enter s.ownFn args) w := by
  cases s with
  | k => exact (by kernel_rfl : (callFunc 58 args).run Try.prog w = .ok (.enter 58 args) w)
  | r => exact (by kernel_rfl : (callFunc 56 args).run Try.prog w = .ok (.enter 56 args) w)
set_option maxRecDepth 100000 in
set_option maxHeartbeats 1000000 in
theorem apart_many (p : Nat) (A : Option Addr) (n c : Nat) (w : World) (h : Row w p 31 [.slice A n c]) (hn : 120 < n) :
    Calls Try.prog 17 #[.pointer (some ⟨p, 0, none⟩)] w fun e w' => e = .returned (.bool true) ∧ w = w' := by
  have c0 : w.cell? ⟨p, 0, none⟩ = some (.slice A n c) := h.cell 0
  clear h
  go_enter Try.func17, Try.ntmps17
  go_wp2_with fail
  go_ret
  exact ⟨rfl, rfl⟩
set_option maxRecDepth 100000 in
set_option maxHeartbeats 2000000 in
theorem apart (p base : Nat) (A : Option Addr) (c : Nat) (P : List Pg2) (w : World) (h : BookAt w p base A c P 0 0) (hP : Parted P) (hW : ∀ q ∈ P, q.s.Wf) (hn : P.length ≤ 120) :
    Calls Try.prog 17 #[.pointer (some ⟨p, 0, none⟩)] w fun e w' => e = .returned (.bool true) ∧ Touched P w w' := by
  have c0 : w.cell? ⟨p, 0, none⟩ = some (.slice A P.length c) := h.row.cell 0
  obtain ⟨n, hN⟩ : ∃ n, P.length = n := ⟨_, rfl⟩
  have HN := Lib.hid hN
  rw [hN] at c0
  clear hN
  have H := Lib.hid h
  have HW := Lib.hid hW
  have hn : n ≤ 120 := by rw [← HN.out]; exact hn
  clear h hW
  go_enter Try.func17, Try.ntmps17
  go_wp2_with fail
  go_loopw [3] (fun i wr => ∃ k : Nat, k ≤ n ∧ i = .int .i64 k ∧ BookAt wr p base A c P k 0 ∧ Touched P w wr) (fun i _ => n - (intOf i).toNat)
  case atStart => exact ⟨0, Nat.zero_le _, rfl, H.out, Touched.refl _ _⟩
  case round =>
    obtain ⟨k, hk, rfl, hbk, ht⟩ := hrel
    have HB := Lib.hid hbk
    clear c0 H
    have c0 : wr.cell? ⟨p, 0, none⟩ = some (.slice A P.length c) := hbk.row.cell 0
    rw [HN.out] at c0
    by_cases hlt : k < n
    · have hkP : k < P.length := by rw [HN.out]; exact hlt
      obtain ⟨a, rfl, hc⟩ := hbk.page hkP
      have HC := Lib.hid (sign_page2 P[k] wr _ _ (HB.out.fit k hkP) (HW.out _ (List.getElem_mem hkP)))
      have ms := meth_sign P[k].s P[k].list
      have cf := call_sign P[k].s
      simp only [Pg2.val] at hc
      clear hbk
      generalize P[k].s.ty = T at *
      generalize P[k].s.pay P[k].list = V at *
      generalize P[k].s.signFn = FN at *
      go_wp2_with fail
      refine HC.out.mono ?_
      rintro e w2 ⟨rfl, hf, hg⟩
      go_wp2_with fail
      go_roundw
      case rel => exact ⟨k + 1, by omega, by go_num, HB.out.signed hP hkP hf hg (fun _ => trivial) (fun h => h) (fun i hi h => by omega) (fun i _ h => h), ht.step hg (fun g e => ⟨P[k], List.getElem_mem hkP, e⟩)⟩
      case measure => simp [intOf]; omega
    · have hkn : k = n := by omega
      have HB1 : Hid (BookAt wr p base A c P n 0) := by rw [← hkn]; exact HB.out
      clear hbk HB hkn
      go_wp2_with fail
      go_loopw [4] (fun i wr => ∃ k : Nat, k ≤ n ∧ i = .int .i64 k ∧ BookAt wr p base A c P n k ∧ Touched P w wr) (fun i _ => n - (intOf i).toNat)
      case atStart => exact ⟨0, Nat.zero_le _, rfl, HB1.out, ht⟩
      case round =>
        clear c0 HB1 ht
        obtain ⟨k, hk, rfl, hbk, ht⟩ := hrel
        have HB := Lib.hid hbk
        rename World => wr0
        obtain ⟨wr, hwr⟩ : ∃ wr, wr = wr0 := ⟨_, rfl⟩
        subst hwr
        have c0 : wr.cell? ⟨p, 0, none⟩ = some (.slice A P.length c) := hbk.row.cell 0
        rw [HN.out] at c0
        by_cases hlt : k < n
        · have hkP : k < P.length := by rw [HN.out]; exact hlt
          obtain ⟨a, rfl, hc⟩ := hbk.page hkP
          have HC := Lib.hid (sign_room2 P[k] wr _ _ (HB.out.fit k hkP) (HW.out _ (List.getElem_mem hkP)))
          have ms := meth_sign P[k].s P[k].list
          have cf := call_sign P[k].s
          simp only [Pg2.val] at hc
          clear hbk
          generalize P[k].s.ty = T at *
          generalize P[k].s.pay P[k].list = V at *
          generalize P[k].s.signFn = FN at *
          go_wp2_with fail
          refine HC.out.mono ?_
          rintro e w2 ⟨rfl, hf, hg⟩
          go_wp2_with fail
          go_roundw
          case rel => exact ⟨k + 1, by omega, by go_num, HB.out.signed hP hkP hf hg (fun h => h) (fun _ => trivial) (fun i _ h => h) (fun i hi h => by omega), ht.step hg (fun g e => ⟨P[k], List.getElem_mem hkP, e⟩)⟩
          case measure => simp [intOf]; omega
        · have hkn : k = n := by omega
          have HB1 : Hid (BookAt wr p base A c P n n) := by
            have := HB.out
            rw [hkn] at this
            exact this
          clear hbk HB hkn
          go_wp2_with fail
          go_loopw [5] (fun i wr => ∃ k : Nat, k ≤ n ∧ i = .int .i64 k ∧ BookAt wr p base A c P n n ∧ Touched P w wr) (fun i _ => n - (intOf i).toNat)
          case atStart => exact ⟨0, Nat.zero_le _, rfl, HB1.out, ht⟩
          case round =>
            clear c0 HB1 ht
            obtain ⟨k, hk, rfl, hbk, ht⟩ := hrel
            have HB := Lib.hid hbk
            rename World => wr0
            obtain ⟨wr, hwr⟩ : ∃ wr, wr = wr0 := ⟨_, rfl⟩
            subst hwr
            have c0 : wr.cell? ⟨p, 0, none⟩ = some (.slice A P.length c) := hbk.row.cell 0
            rw [HN.out] at c0
            by_cases hlt : k < n
            · have hkP : k < P.length := by rw [HN.out]; exact hlt
              obtain ⟨a, rfl, hc⟩ := hbk.page hkP
              have HC := Lib.hid (own_page2 P[k] wr (by have := HB.out.fit k hkP; simpa [HN.out, hlt] using this) (HW.out _ (List.getElem_mem hkP)))
              have ms := meth_own P[k].s P[k].list
              have cf := call_own P[k].s
              simp only [Pg2.val] at hc
              clear hbk
              generalize P[k].s.ty = T at *
              generalize P[k].s.pay P[k].list = V at *
              generalize P[k].s.ownFn = FN at *
              go_wp2_with fail
              refine HC.out.mono ?_
              rintro e w2 ⟨rfl, hg⟩
              go_wp2_with fail
              go_roundw
              case rel =>
                refine ⟨k + 1, by omega, by go_num, ⟨HB.out.row.grown hg (by simp), HB.out.own.kept hg (by cases (Value.slice (some a) P.length c).ownBlock <;> simp), fun i hi => (HB.out.fit i hi).keep hg (by simp)⟩, ht.step hg (fun g e => by cases e)⟩
              case measure => simp [intOf]; omega
            · clear hbk
              go_wp2_with fail
              go_ret
              exact ⟨rfl, ht⟩
end Go.Proofs.Ytkpdjjhkocmfoaa

/-
  Of part BookGen: what is needed here.
-/
namespace Go.Proofs.Ytkpdjjhkocmfoaa
open Go.RowKit
set_option linter.unusedVariables false
/-- a list: where it lies, how long it is, its room -/
structure Sl where
  A : Option Nat
  n : Nat
  c : Nat
def Sl.val (x : Sl) : Value := .slice (x.A.map fun g => ⟨g, 0, none⟩) x.n x.c
def Sg.isK : Sg → Kd
  | .k _ _ => .k
  | .r _ _ => .r
def Pg2.key (q : Pg2) : Sl × Kd := (⟨q.A, q.n, q.c⟩, q.s.isK)
/-- a book of the call's own, from world w0 on, its pages' lists and kinds -/
def Bk (w0 : World) (p base : Nat) (ks : List (Sl × Kd)) (w : World) : Prop :=
  ∃ (P : List Pg2) (A : Option Addr) (c : Nat), P.map Pg2.key = ks ∧ (∀ q ∈ P, q.s.Wf) ∧ BookW w0 p base A P.length c (P.map Pg2.val) w
section
variable {w0 w w' : World} {p base B : Nat} {ks ks' : List (Sl × Kd)}
theorem Bk.trans (h : Bk w0 p base ks w) (h' : Bk w p base ks' w') : Bk w0 p base ks' w' := by
  obtain ⟨P, A, c, h1, h2, h3⟩ := h
  obtain ⟨P', A', c', h1', h2', h3'⟩ := h'
  exact ⟨P', A', c', h1', h2', h3.trans h3'⟩
theorem Bk.alloc (h : Bk w0 p base ks w) (o : Obj) : Bk w0 p base ks (w.alloc o) := by
  obtain ⟨P, A, c, h1, h2, h3⟩ := h
  exact ⟨P, A, c, h1, h2, h3.alloc o⟩
theorem Bk.one (h : Bk w0 p base ks w) : ButOne base p w0 w := by
  obtain ⟨P, A, c, h1, h2, h3⟩ := h
  exact h3.one
theorem Bk.row {g t : Nat} {xs : List Value} (h : Bk w0 p base ks w) (hr : Row w0 g t xs) (hg : g ≠ p) (ht : t ≠ 69) : Row w g t xs := by
  obtain ⟨P, A, c, h1, h2, h3⟩ := h
  exact h3.rowK hr hg ht
end
theorem bkKeys (p base : Nat) (ks : List (Sl × Kd)) (x : Sl) (w0 w : World) (h : Bk w0 p base ks w) (hn : ks.length ≤ 1000000) :
    Calls Try.prog 16 #[.pointer (some ⟨p, 0, none⟩), x.val] w fun e w' => e = .returned (.tuple #[]) ∧ Bk w0 p base (ks ++ [(x, Kd.k)]) w' := by
  obtain ⟨P, A, c, h1, h2, h3⟩ := h
  subst h1
  refine (bookKeys p base A _ P.length c x.n x.c _ w0 w h3 (by simpa using hn)).mono ?_
  rintro e w' ⟨z1, z2, A', c', rfl, hz1, hz2, h4⟩
  refine ⟨rfl, P ++ [⟨x.A, x.n, x.c, .k z1 z2⟩], A', c', by simp [Pg2.key, Sg.isK], fun q hq => ?_, ?_⟩
  · rcases List.mem_append.1 hq with hq | hq
    · exact h2 q hq
    · obtain rfl : q = _ := List.mem_singleton.1 hq
      exact ⟨hz1, hz2⟩
  · rw [List.length_append, List.map_append]
    exact h4
theorem bkRoles (p base : Nat) (ks : List (Sl × Kd)) (x : Sl) (w0 w : World) (h : Bk w0 p base ks w) (hn : ks.length ≤ 1000000) :
    Calls Try.prog 15 #[.pointer (some ⟨p, 0, none⟩), x.val] w fun e w' => e = .returned (.tuple #[]) ∧ Bk w0 p base (ks ++ [(x, Kd.r)]) w' := by
  obtain ⟨P, A, c, h1, h2, h3⟩ := h
  subst h1
  refine (bookRoles p base A _ P.length c x.n x.c _ w0 w h3 (by simpa using hn)).mono ?_
  rintro e w' ⟨z1, z2, A', c', rfl, hz1, hz2, h4⟩
  refine ⟨rfl, P ++ [⟨x.A, x.n, x.c, .r z1 z2⟩], A', c', by simp [Pg2.key, Sg.isK], fun q hq => ?_, ?_⟩
  · rcases List.mem_append.1 hq with hq | hq
    · exact h2 q hq
    · obtain rfl : q = _ := List.mem_singleton.1 hq
      exact ⟨hz1, hz2⟩
  · rw [List.length_append, List.map_append]
    exact h4
def ety : Kd → TypeId
  | .k => 46
  | .r => 48
def esz : Kd → Nat
  | .k => 32
  | .r => 34
/-- a page's list lies in memory, whole -/
def SlFit (w : World) (y : Sl × Kd) : Prop :=
  match y.1.A with
  | none => y.1.n = 0 ∧ y.1.c = 0
  | some g => y.1.n ≤ y.1.c ∧ y.1.c ≤ 9223372036854775807 ∧ ∃ xs, Row w g (ety y.2) xs ∧ y.1.c * esz y.2 ≤ xs.length ∧ (32 < esz y.2 → xs.length = y.1.c * esz y.2)
theorem SlFit.keep {w w' : World} {y : Sl × Kd} (h : SlFit w y) (hk : ∀ g, y.1.A = some g → w'.heap[g]? = w.heap[g]?) : SlFit w' y := by
  obtain ⟨⟨A, n, c⟩, kd⟩ := y
  cases A with
  | none => exact h
  | some g =>
    obtain ⟨h1, h2, xs, hr, hl⟩ := h
    exact ⟨h1, h2, xs, ⟨(hk g rfl).trans hr.is⟩, hl⟩
theorem own_sl {w : World} {base n size : Nat} {e : TypeId} {v : Value} {xs : List Value} (h : w.ownsRow base e size v n xs) :
    ∃ x : Sl, v = x.val ∧ x.n = n ∧ (x.A = none → x.n = 0 ∧ x.c = 0) ∧ ∀ g, x.A = some g → base ≤ g ∧ g < w.heap.size ∧ v.ownBlock = some g ∧ x.n ≤ x.c ∧ x.c ≤ 9223372036854775807 ∧ ∃ cur, Row w g e cur ∧ cur.length = x.c * size := by
  rcases h.2 with ⟨rfl, h2⟩ | ⟨g, cap, cur, rfl, hg, hh, r1, r2, r3, r4⟩
  · exact ⟨⟨none, 0, 0⟩, rfl, h2.symm, fun _ => ⟨rfl, rfl⟩, fun g e => by cases e⟩
  · refine ⟨⟨some g, n, cap⟩, rfl, rfl, ?_, ?_⟩
    · intro e'
      cases e'
    intro g' e'
    cases e'
    exact ⟨hg, (Array.getElem?_eq_some_iff.1 hh).1, rfl, r1, by unfold maxLen at r2; omega, cur.toList, ⟨by simpa using hh⟩, by simpa using r3⟩
/-- the blocks of some pages -/
def blocks (ks : List (Sl × Kd)) : List Nat := ks.filterMap fun y => y.1.A
theorem blocks_app (a b : List (Sl × Kd)) : blocks (a ++ b) = blocks a ++ blocks b := by simp [blocks, List.filterMap_append]
theorem blocks_one (y : Sl × Kd) : ∀ g ∈ blocks [y], y.1.A = some g := by
  intro g hg
  unfold blocks at hg
  rw [List.filterMap_cons] at hg
  split at hg
  · cases hg
  · rename_i h
    simp at hg
    rw [h, hg]
theorem pair_one (y : Sl × Kd) : (blocks [y]).Pairwise (· < ·) := by
  unfold blocks
  rw [List.filterMap_cons]
  split <;> simp
theorem pair_app {a b : List Nat} {m : Nat} (ha : a.Pairwise (· < ·)) (hb : b.Pairwise (· < ·)) (h1 : ∀ x ∈ a, x < m) (h2 : ∀ x ∈ b, m ≤ x) : (a ++ b).Pairwise (· < ·) :=
  List.pairwise_append.2 ⟨ha, hb, fun x hx y hy => by have := h1 x hx; have := h2 y hy; omega⟩
theorem pair_rel {R : Nat → Nat → Prop} : ∀ {P : List Pg2} {i j : Nat} {g g' : Nat}, (P.filterMap fun q => q.A).Pairwise R → i < j → (hi : i < P.length) → (hj : j < P.length) → P[i].A = some g → P[j].A = some g' → R g g'
  | [], i, j, g, g', _, _, hi, _, _, _ => absurd hi (by simp)
  | q :: r, i, j, g, g', h, hij, hi, hj, e, e' => by
    cases j with
    | zero => omega
    | succ j =>
      have hj' : j < r.length := by simpa using hj
      have e'' : r[j].A = some g' := by simpa using e'
      cases i with
      | zero =>
        have e0 : q.A = some g := e
        rw [List.filterMap_cons, e0] at h
        exact (List.pairwise_cons.1 h).1 g' (List.mem_filterMap.2 ⟨r[j], List.getElem_mem hj', e''⟩)
      | succ i =>
        have hr : (r.filterMap fun q => q.A).Pairwise R := by
          rw [List.filterMap_cons] at h
          split at h
          · exact h
          · exact (List.pairwise_cons.1 h).2
        exact pair_rel (i := i) (j := j) hr (by omega) (by simpa using hi) hj' (by simpa using e) e''
/-- of the blocks that there were only these have been written -/
structure OnlyIn (bs : List Nat) (w w' : World) : Prop where
  os : w'.os = w.os
  tape : w'.tape = w.tape
  output : w'.output = w.output
  size : w.heap.size ≤ w'.heap.size
  block : ∀ k, k < w.heap.size → k ∉ bs → w'.heap[k]? = w.heap[k]?
/-- a book whose pages lie apart -/
theorem apartTo (p base : Nat) (ks : List (Sl × Kd)) (w0 w : World) (h : Bk w0 p base ks w) (hf : ∀ y ∈ ks, SlFit w0 y) (hd : (blocks ks).Pairwise (· ≠ ·)) (hlow : ∀ g ∈ blocks ks, g < base ∧ g ≠ p) :
    Calls Try.prog 17 #[.pointer (some ⟨p, 0, none⟩)] w fun e w' => e = .returned (.bool true) ∧ OnlyIn (blocks ks) w w' := by
  have ho := h.one
  obtain ⟨P, A, c, h1, h2, h3⟩ := h
  by_cases hn : P.length ≤ 120
  · have hmem : ∀ q ∈ P, q.key ∈ ks := fun q hq => by rw [← h1]; exact List.mem_map.2 ⟨q, hq, rfl⟩
    have hbl : ∀ q ∈ P, ∀ g, q.A = some g → g ∈ blocks ks := fun q hq g hg => List.mem_filterMap.2 ⟨q.key, hmem q hq, hg⟩
    have hfit : ∀ q ∈ P, q.Fit w False False := by
      intro q hq
      have hy := hf _ (hmem q hq)
      have hl := hbl q hq
      obtain ⟨A', n', c', s'⟩ := q
      cases A' with
      | none => exact hy
      | some g =>
        obtain ⟨e1, e2, xs, hr, he, hek⟩ := hy
        obtain ⟨l2, l3⟩ := hlow g (hl g rfl)
        have hr' : Row w g (ety s'.isK) xs := ⟨(ho.block g l2 l3).trans hr.is⟩
        have hes : esz s'.isK = s'.sz := by cases s' <;> rfl
        have het : ety s'.isK = s'.et := by cases s' <;> rfl
        rw [het] at hr'
        rw [show (Pg2.key ⟨some g, n', c', s'⟩).2 = s'.isK from rfl, hes] at he hek
        have he' : c' * s'.sz ≤ xs.length := he
        have hek' : 32 < s'.sz → xs.length = c' * s'.sz := hek
        have e1' : n' ≤ c' := e1
        have hle : n' * s'.sz ≤ c' * s'.sz := Nat.mul_le_mul_right _ e1'
        have hsum : c' * s'.sz = n' * s'.sz + (c' - n') * s'.sz := by rw [← Nat.add_mul]; congr 1; omega
        refine ⟨e1, e2, xs.take (n' * s'.sz), (xs.drop (n' * s'.sz)).take ((c' - n') * s'.sz), (xs.drop (n' * s'.sz)).drop ((c' - n') * s'.sz), by rwa [List.take_append_drop, List.take_append_drop], ?_, ?_, ?_, fun x => x.elim, fun x => x.elim⟩
        · show (xs.take (n' * s'.sz)).length = n' * s'.sz
          rw [List.length_take]
          exact Nat.min_eq_left (by omega)
        · show ((xs.drop (n' * s'.sz)).take ((c' - n') * s'.sz)).length = (c' - n') * s'.sz
          rw [List.length_take, List.length_drop]
          exact Nat.min_eq_left (by omega)
        · intro hz
          have := hek' hz
          exact List.drop_of_length_le (by rw [List.length_drop]; omega)
    refine (apart p base A c P w ⟨h3.row, h3.own, fun i hi => ?_⟩ ?_ h2 hn).mono ?_
    · have := hfit P[i] (List.getElem_mem hi)
      simpa using this
    · have hd' : (P.filterMap fun q => q.A).Pairwise (· ≠ ·) := by
        have : blocks ks = P.filterMap fun q => q.A := by
          rw [← h1]
          unfold blocks
          rw [List.filterMap_map]
          rfl
        rw [← this]
        exact hd
      intro i j hi hj g e e'
      rcases Nat.lt_trichotomy i j with hij | hij | hij
      · exact absurd rfl (pair_rel hd' hij hi hj e e')
      · exact hij
      · exact absurd rfl (pair_rel hd' hij hj hi e' e)
    · rintro e w' ⟨rfl, ht⟩
      exact ⟨rfl, ht.os, ht.tape, ht.output, ht.size, fun k hk hn => ht.block k hk fun q hq e => hn (hbl q hq k e)⟩
  · refine (apart_many p A P.length c w h3.row (by omega)).mono ?_
    rintro e w' ⟨rfl, rfl⟩
    exact ⟨rfl, rfl, rfl, rfl, Nat.le_refl _, fun _ _ _ => rfl⟩
/-- likewise, all of them above B -/
theorem apartNe (p base B : Nat) (ks : List (Sl × Kd)) (w0 w : World) (h : Bk w0 p base ks w) (hf : ∀ y ∈ ks, SlFit w0 y) (hd : (blocks ks).Pairwise (· ≠ ·)) (hlow : ∀ g ∈ blocks ks, B ≤ g ∧ g < base ∧ g ≠ p) (hB : B ≤ w.heap.size) :
    Calls Try.prog 17 #[.pointer (some ⟨p, 0, none⟩)] w fun e w' => e = .returned (.bool true) ∧ Below B w w' :=
  (apartTo p base ks w0 w h hf hd fun g hg => (hlow g hg).2).mono fun e w' ⟨he, ht⟩ => ⟨he, ht.os, ht.tape, ht.output, ht.size, fun k hk => ht.block k (Nat.lt_of_lt_of_le hk hB) fun hm => by have := (hlow k hm).1; omega⟩
/-- a book whose pages lie in blocks that rise -/
theorem apartBk (p base B : Nat) (ks : List (Sl × Kd)) (w0 w : World) (h : Bk w0 p base ks w) (hf : ∀ y ∈ ks, SlFit w0 y) (hd : (blocks ks).Pairwise (· < ·)) (hlow : ∀ g ∈ blocks ks, B ≤ g ∧ g < base ∧ g ≠ p) (hB : B ≤ w.heap.size) :
    Calls Try.prog 17 #[.pointer (some ⟨p, 0, none⟩)] w fun e w' => e = .returned (.bool true) ∧ Below B w w' :=
  apartNe p base B ks w0 w h hf (hd.imp fun h => Nat.ne_of_lt h) hlow hB
/-- a book that has just been laid -/
theorem Bk.new (w : World) : Bk (w.alloc (.cells #[.slice none 0 0] 31)) w.heap.size w.heap.size [] (w.alloc (.cells #[.slice none 0 0] 31)) := by
  refine ⟨[], none, 0, rfl, by simp, ?_⟩
  exact ⟨Row.new w 31 [.slice none 0 0], World.ownsRow_nil _ _ _ _, ButOne.refl _ _ _, by simp, fun _ _ _ _ => rfl⟩
end Go.Proofs.Ytkpdjjhkocmfoaa

/-
  Of part TwinMsg: what is needed here.
-/
namespace Go.Proofs.Ytkpdjjhkocmfoaa
open Go.RowKit
set_option linter.unusedVariables false
/-- a load of many cells yields them -/
theorem exec_load_at {P : Program} {a : Act} {o : Oper} (w : World) (ty : TypeId) (x : Operand) (ho : o.op = .load ty x) (p : Addr) (cs : List Value) (d : TypeDesc) (hu : P.underlying ty = some d) (hd : d.isRow = true) (hi : (P.info? ty).map (·.size) = some cs.length)
    (hc : ∀ j v, cs[j]? = some v → w.cell? (p.add j) = some v) (hx : a.eval x = .pointer (some p)) : (execOp a.eval o).run P w = .ok (.value (.agg cs.toArray)) w := by
  unfold execOp
  simp only [ho, hx, Sem.run_bind, Sem.run_pure, run_loadAt_at w p ty cs d hc hu hd hi, Result.andThen_ok]
theorem LookAt.keep {w w' : World} {B k : Nat} {a : Addr} {x : LLook} {va vd : Value} (h : LookAt w B a k x va vd) (ha : a.block < B) (hk : ∀ p : Addr, p.block < B → w'.cell? p = w.cell? p) : LookAt w' B a k x va vd :=
  ⟨fun j u hu => (hk _ (by rw [addr_block, addr_block]; exact ha)).trans (h.cells j u hu), h.len, h.wr.keep hk, h.rd.keep hk⟩
end Go.Proofs.Ytkpdjjhkocmfoaa

/-
  Of part Example: what is needed here.
-/
namespace Go.Proofs.Ytkpdjjhkocmfoaa
open Go.RowKit
set_option linter.unusedVariables false
def xk (a : Int) : List Int := a :: List.replicate 31 0
end Go.Proofs.Ytkpdjjhkocmfoaa

/-
  Of part AppendN: what is needed here.
-/
namespace Go.Proofs.Ytkpdjjhkocmfoaa
open Go.RowKit
set_option linter.unusedVariables false
section
variable {P : Program} {w : World} {base : Nat} {t ty e : TypeId} {i : TypeInfo} {z : Value} {size bytes : Nat} {v : Value} {n m c B : Nat} {A : Option Addr} {xs news : List Value}
theorem run_append_nothingN (ht : P.underlying t = some (.slice e)) (hi : P.info? e = some i) (hown : w.ownsRow base e size v n xs) (c : Nat) :
    (Builtin.append_ #[t, t] ty #[v, .slice none 0 c]).run P w = .ok v w := by
  rcases hown.2 with ⟨rfl, rfl⟩ | ⟨g, cap, cur, rfl, _, _, hnc, _⟩ <;>
    simp [Builtin.append_, run_underlying ht, sizeOf, typeInfo, Builtin.lenOf, Builtin.firstCells, storeCells, *]
theorem wp_appendN {o : Oper} {a : Act} {K : Act → World → Prop} {Q : Exit → Act → World → Prop} (s x : Operand) (t e : TypeId) (z : Value) (size bytes : Nat)
    (ho : o.op = .call { callee := .builtin .append, args := #[s, x], argTypes := #[t, t] })
    (ht : P.underlying t = some (.slice e)) (hi : (P.info? e).map (fun i => (i.zero, i.size, i.bytes)) = some (some z, size, bytes)) (hzs : z.cells.size = size) (hs0 : 0 < size)
    (v : Value) (n : Nat) (xs : List Value) (base B : Nat) (A : Option Addr) (m c : Nat) (news : List Value)
    (hs : a.eval s = v) (hown : w.ownsRow base e size v n xs) (hx : a.eval x = .slice A m c) (hr : Sees w B A (m * size) news) (h1 : ∀ u ∈ news, u.oneCell' = true)
    (hnm : n + m ≤ maxLen) (hbytes : (n + m) * bytes ≤ 140737488355328) (hbase : base ≤ w.heap.size)
    (h : ∀ v' w', w'.ownsRow base e size v' (n + m) (xs ++ news) → Grew w w' v v' → K (a.put o.dst v') w') : o.wp P a w K Q := by
  obtain ⟨i0, hi, hz0, hz1, hz2⟩ := info_parts hi
  have hrun : ∃ v' w', (Builtin.append_ #[t, t] o.type #[v, .slice A m c]).run P w = .ok v' w' ∧ w'.ownsRow base e size v' (n + m) (xs ++ news) ∧ Grew w w' v v' := by
    cases A with
    | none =>
      have hn : news = [] := by
        cases news with
        | nil => rfl
        | cons u r =>
          obtain ⟨a, h, _⟩ := hr.cell 0 u rfl
          cases h
      subst hn
      have hl : m * size = 0 := by simpa using hr.len.symm
      obtain rfl : m = 0 := by
        rcases Nat.mul_eq_zero.1 hl with h | h
        · exact h
        · omega
      exact ⟨v, w, run_append_nothingN ht hi hown c, by simpa using hown, Grew.refl _ _⟩
    | some ad =>
      obtain ⟨v', w', hrun, h2, h3, _, h5⟩ := run_append_own_at (P := P) w base t o.type e i0 z size bytes ht hi hz0 hz1 hz2 hzs hs0 v n xs hown ad m c news hr.len
        (fun j u hu => by
          obtain ⟨a, h, _, hc⟩ := hr.cell j u hu
          cases h
          exact hc) h1 hnm hbytes hbase
      refine ⟨v', w', hrun, h2, ⟨h3, fun k hk => ?_⟩⟩
      rcases h5 with h5 | h5
      · exact .inl (h5 ▸ hk)
      · rw [h5] at hk
        cases hk
        exact .inr (Nat.le_refl _)
  obtain ⟨v', w', hr2, h2, h3⟩ := hrun
  unfold Oper.wp execOp
  simp only [ho, resolve, invoke, builtin, Sem.run_bind, Sem.run_pure, Result.andThen_ok, List.map_toArray, List.map_cons, List.map_nil, hs, hx, hr2]
  exact h v' w' h2 h3
theorem wpList_appendN {ops : Array Oper} {rest : List Oper} {o : Oper} {a : Act} {Q : Exit → Act → World → Prop} (hgd : o.guard = none) (s x : Operand) (t e : TypeId) (z : Value) (size bytes : Nat)
    (ho : o.op = .call { callee := .builtin .append, args := #[s, x], argTypes := #[t, t] })
    (ht : P.underlying t = some (.slice e)) (hi : (P.info? e).map (fun i => (i.zero, i.size, i.bytes)) = some (some z, size, bytes)) (hzs : z.cells.size = size) (hs0 : 0 < size)
    (v : Value) (n : Nat) (xs : List Value) (base B : Nat) (A : Option Addr) (m c : Nat) (news : List Value)
    (hs : a.eval s = v) (hown : w.ownsRow base e size v n xs) (hx : a.eval x = .slice A m c) (hr : Sees w B A (m * size) news) (h1 : ∀ u ∈ news, u.oneCell' = true)
    (hnm : n + m ≤ maxLen) (hbytes : (n + m) * bytes ≤ 140737488355328) (hbase : base ≤ w.heap.size)
    (h : ∀ v' w', w'.ownsRow base e size v' (n + m) (xs ++ news) → Grew w w' v v' → wpList P ops Q rest (a.put o.dst v') w') : wpList P ops Q (o :: rest) a w :=
  wpList_plain hgd fun _ hK => wp_appendN s x t e z size bytes ho ht hi hzs hs0 v n xs base B A m c news hs hown hx hr h1 hnm hbytes hbase fun v' w' h2 h3 => hK _ _ (h v' w' h2 h3)
end
theorem own_form2 {w : World} {base : Nat} {e : TypeId} {size n : Nat} {v : Value} {xs : List Value} (h : w.ownsRow base e size v n xs) : ∃ A c, v = .slice A n c ∧ Sees w w.heap.size A (n * size) xs ∧ n ≤ c ∧ c ≤ maxLen ∧ (∀ g, v.ownBlock = some g → base ≤ g ∧ g < w.heap.size) := by
  have hlt := h.lt
  rcases h.2 with ⟨rfl, rfl⟩ | ⟨g, cap, cur, rfl, hg, hh, h1, h2, h3, h4⟩
  · have hx : xs = [] := List.eq_nil_of_length_eq_zero (by simpa using h.1)
    subst hx
    exact ⟨none, 0, rfl, by rw [Nat.zero_mul]; exact Sees.nil _ _ _, Nat.le_refl _, by simp [maxLen], hlt⟩
  · refine ⟨_, cap, rfl, ⟨h.1, fun j u hu => ⟨_, rfl, (Array.getElem?_eq_some_iff.1 hh).1, h.cells (g := g) rfl j u hu⟩⟩, h1, h2, hlt⟩
/-- a list of instructions as cells -/
structure InsCells (w : World) (B : Nat) (l : List LIn) (news : List Value) : Prop where
  len : news.length = l.length * 3
  at_ : ∀ i x, l[i]? = some x → ∃ va vd, news[i * 3]? = some (.int .u8 x.p) ∧ news[i * 3 + 1]? = some va ∧ news[i * 3 + 2]? = some vd ∧ BytesIn w B va x.acc ∧ BytesIn w B vd x.dat
  one : ∀ u ∈ news, u.oneCell' = true
theorem BytesIn.one {w : World} {B : Nat} {v : Value} {l : List Int} (h : BytesIn w B v l) : v.oneCell' = true := by
  obtain ⟨A, c, rfl, _⟩ := h.is
  rfl
theorem InsIn.cells {w : World} {B n : Nat} {A : Option Addr} {l : List LIn} (h : InsIn w B A n l) : ∃ news, InsCells w B l news ∧ Sees w B A (n * 3) news := by
  obtain ⟨ps, hps, hp⟩ : ∃ ps : List (Value × Value), ps.length = l.length ∧ ∀ i x p, l[i]? = some x → ps[i]? = some p → ∃ a, A = some a ∧ a.block < B ∧ w.cell? (a.add (i * 3)) = some (.int .u8 x.p) ∧ w.cell? (a.add (i * 3 + 1)) = some p.1 ∧ w.cell? (a.add (i * 3 + 2)) = some p.2 ∧ BytesIn w B p.1 x.acc ∧ BytesIn w B p.2 x.dat := by
    obtain ⟨ps, h1, h2⟩ := list_of (α := Value × Value) (p := fun i p => ∀ x, l[i]? = some x → ∃ a, A = some a ∧ a.block < B ∧ w.cell? (a.add (i * 3)) = some (.int .u8 x.p) ∧ w.cell? (a.add (i * 3 + 1)) = some p.1 ∧ w.cell? (a.add (i * 3 + 2)) = some p.2 ∧ BytesIn w B p.1 x.acc ∧ BytesIn w B p.2 x.dat) l.length fun i hi => by
      obtain ⟨a, va, vd, e1, e2, e3, e4, e5, e6, e7⟩ := h.at_ i _ (List.getElem?_eq_getElem hi)
      refine ⟨(va, vd), fun x hx => ?_⟩
      rw [List.getElem?_eq_getElem hi] at hx
      obtain rfl := Option.some.inj hx
      exact ⟨a, e1, e2, e3, e4, e5, e6, e7⟩
    exact ⟨ps, h1, fun i x p hx hp => h2 i p hp x hx⟩
  let f : Nat → Value := fun j => if j % 3 = 0 then .int .u8 ((l.getD (j / 3) ⟨0, [], []⟩).p) else if j % 3 = 1 then (ps.getD (j / 3) (undef, undef)).1 else (ps.getD (j / 3) (undef, undef)).2
  have hf : ∀ i x, l[i]? = some x → ∃ p, ps[i]? = some p ∧ f (i * 3) = .int .u8 x.p ∧ f (i * 3 + 1) = p.1 ∧ f (i * 3 + 2) = p.2 := by
    intro i x hx
    have hi := (List.getElem?_eq_some_iff.1 hx).1
    obtain ⟨p, hpi⟩ : ∃ p, ps[i]? = some p := ⟨_, List.getElem?_eq_getElem (by omega)⟩
    have hl : l.getD i ⟨0, [], []⟩ = x := by rw [List.getD_eq_getElem?_getD, hx]; rfl
    have hq : ps.getD i (undef, undef) = p := by rw [List.getD_eq_getElem?_getD, hpi]; rfl
    refine ⟨p, hpi, ?_, ?_, ?_⟩
    · show (if i * 3 % 3 = 0 then _ else _) = _
      rw [if_pos (by omega), show i * 3 / 3 = i by omega, hl]
    · show (if (i * 3 + 1) % 3 = 0 then _ else _) = _
      rw [if_neg (by omega), if_pos (by omega), show (i * 3 + 1) / 3 = i by omega, hq]
    · show (if (i * 3 + 2) % 3 = 0 then _ else _) = _
      rw [if_neg (by omega), if_neg (by omega), show (i * 3 + 2) / 3 = i by omega, hq]
  have hget : ∀ j, j < l.length * 3 → ((List.range (l.length * 3)).map f)[j]? = some (f j) := fun j hj => by rw [List.getElem?_map, List.getElem?_range hj]; rfl
  have hall : ∀ j, j < l.length * 3 → ∃ a, A = some a ∧ a.block < B ∧ w.cell? (a.add j) = some (f j) ∧ (f j).oneCell' = true := by
    intro j hj
    have hx := List.getElem?_eq_getElem (l := l) (i := j / 3) (by omega)
    obtain ⟨p, hpi, f0, f1, f2⟩ := hf _ _ hx
    obtain ⟨a, e1, e2, e3, e4, e5, e6, e7⟩ := hp _ _ _ hx hpi
    refine ⟨a, e1, e2, ?_⟩
    rcases (show j = j / 3 * 3 ∨ j = j / 3 * 3 + 1 ∨ j = j / 3 * 3 + 2 by omega) with h | h | h
    · rw [← h] at f0 e3; rw [e3, f0]; exact ⟨rfl, rfl⟩
    · rw [← h] at f1 e4; rw [e4, f1]; exact ⟨rfl, e6.one⟩
    · rw [← h] at f2 e5; rw [e5, f2]; exact ⟨rfl, e7.one⟩
  refine ⟨(List.range (l.length * 3)).map f, ⟨by simp, fun i x hx => ?_, fun u hu => ?_⟩, ⟨by rw [List.length_map, List.length_range, h.len], fun j u hu => ?_⟩⟩
  · have hi := (List.getElem?_eq_some_iff.1 hx).1
    obtain ⟨p, hpi, f0, f1, f2⟩ := hf _ _ hx
    obtain ⟨a, e1, e2, e3, e4, e5, e6, e7⟩ := hp _ _ _ hx hpi
    exact ⟨p.1, p.2, by rw [hget _ (by omega), f0], by rw [hget _ (by omega), f1], by rw [hget _ (by omega), f2], e6, e7⟩
  · obtain ⟨j, hj, rfl⟩ := List.mem_map.1 hu
    obtain ⟨_, _, _, _, h1⟩ := hall j (by simpa using hj)
    exact h1
  · have hj := (List.getElem?_eq_some_iff.1 hu).1
    rw [List.length_map, List.length_range] at hj
    rw [hget j hj] at hu
    obtain ⟨a, e1, e2, e3, _⟩ := hall j hj
    exact ⟨a, e1, e2, by rw [e3, Option.some.inj hu]⟩
theorem InsCells.below {w w' : World} {B : Nat} {l : List LIn} {news : List Value} (h : InsCells w B l news) (hb : Below B w w') : InsCells w' B l news :=
  ⟨h.len, fun i x hx => by
    obtain ⟨va, vd, e1, e2, e3, e4, e5⟩ := h.at_ i x hx
    exact ⟨va, vd, e1, e2, e3, e4.below hb, e5.below hb⟩, h.one⟩
theorem InsCells.more {w : World} {B B' : Nat} {l : List LIn} {news : List Value} (h : InsCells w B l news) (hb : B ≤ B') : InsCells w B' l news :=
  ⟨h.len, fun i x hx => by
    obtain ⟨va, vd, e1, e2, e3, e4, e5⟩ := h.at_ i x hx
    exact ⟨va, vd, e1, e2, e3, e4.more hb, e5.more hb⟩, h.one⟩
end Go.Proofs.Ytkpdjjhkocmfoaa

/-
  Of part HoldWalk: what is needed here.
-/
namespace Go.Proofs.Ytkpdjjhkocmfoaa
open Go.RowKit Go.Maps
set_option linter.unusedVariables false
def i1 : DataW Unit := .lit (.int .i64 1)
end Go.Proofs.Ytkpdjjhkocmfoaa

/-
  Of part MoreWalk: what is needed here.
-/
namespace Go.Proofs.Ytkpdjjhkocmfoaa
open Go.RowKit
set_option linter.unusedVariables false
theorem Sees.far {w : World} {B n : Nat} {A : Option Addr} {xs : List Value} (h : Sees w B A n xs) {p : Addr} (hp : ∀ a, A = some a → a.block ≠ p.block) (u : Value) : Sees (w.setCell p u) B A n xs :=
  ⟨h.len, fun i v hv => by
    obtain ⟨a, ha, hb, hc⟩ := h.cell i v hv
    exact ⟨a, ha, hb, (World.cell?_setCell_other w p _ u (fun e => hp a ha (by rw [e, addr_block]))).trans hc⟩⟩
end Go.Proofs.Ytkpdjjhkocmfoaa

/-
  Of part OtherMem: what is needed here.
-/
namespace Go.Proofs.Ytkpdjjhkocmfoaa
open Go.RowKit
set_option linter.unusedVariables false
theorem own_keep {w w' : World} {base : Nat} {e : TypeId} {size n : Nat} {v : Value} {xs : List Value} (h : w.ownsRow base e size v n xs) (hk : ∀ g, v.ownBlock = some g → w'.heap[g]? = w.heap[g]?) : w'.ownsRow base e size v n xs := by
  refine ⟨h.1, ?_⟩
  rcases h.2 with h2 | ⟨g, cap, cur, hv, hg, hh, r⟩
  · exact .inl h2
  · exact .inr ⟨g, cap, cur, hv, hg, (hk g (by rw [hv]; rfl)).trans hh, r⟩
theorem own_is {w : World} {base : Nat} {e : TypeId} {size n g : Nat} {v : Value} {xs : List Value} (h : w.ownsRow base e size v n xs) (hg : v.ownBlock = some g) : ∃ cur, w.heap[g]? = some (.cells cur e (0, 0)) := by
  rcases h.2 with ⟨rfl, _⟩ | ⟨g', cap, cur, rfl, _, hh, _⟩
  · cases hg
  · cases hg
    exact ⟨cur, hh⟩
/-- what the rules see of an instruction -/
def pa (i : LIn) : Int × List Int := (i.p, i.acc)
end Go.Proofs.Ytkpdjjhkocmfoaa

/-
  Of part Copied: what is needed here.
-/
namespace Go.Proofs.Ytkpdjjhkocmfoaa
open Go.RowKit Go.Maps
set_option linter.unusedVariables false
set_option maxHeartbeats 400000 in
theorem clipK (A : Option Addr) (n c : Nat) (w : World) (hnc : n ≤ c) (hc : c ≤ maxLen) :
    Calls Try.prog 25 #[.slice A n c] w fun e w' => e = .returned (.slice A n n) ∧ w = w' := by
  unfold maxLen at hc
  go_enter Try.func25, Try.ntmps25
  go_wp2
  go_ret
  exact ⟨rfl, rfl⟩
end Go.Proofs.Ytkpdjjhkocmfoaa

/-
  Of part Resolve: what is needed here.
-/
namespace Go.Proofs.Ytkpdjjhkocmfoaa
open Go.RowKit Go.Maps
set_option linter.unusedVariables false
section
variable {w0 V V' : World} {u v u' v' : Value} {a b a' : List (List Int)}
theorem own_row_neN {w : World} {base size n g t : Nat} {e : TypeId} {v : Value} {xs ys : List Value} (h : w.ownsRow base e size v n xs) (hr : Row w g t ys) (hne : e ≠ t) : some g ≠ v.ownBlock := by
  intro hg
  obtain ⟨cur, hc⟩ := own_is h hg.symm
  rw [hr.is] at hc
  injection hc with hc
  injection hc with _ hc
  exact hne hc.symm
end
end Go.Proofs.Ytkpdjjhkocmfoaa

/-
  Of part Lives6: what is needed here.
-/
namespace Go.Proofs.Ytkpdjjhkocmfoaa
open Go.RowKit
set_option linter.unusedVariables false
set_option maxHeartbeats 400000 in
theorem sameKeys (A B : Option Addr) (n c d : Nat) (l : List (List Int)) (w : World) (S T : Nat) (hx : KeysIn w S A n l) (hy : KeysIn w T B n l) (hn : n ≤ maxLen) :
    Calls Try.prog 12 #[.slice A n c, .slice B n d] w fun e w' => e = .returned (.bool true) ∧ ∃ k, w' = w.drewN k := by
  have HC := Lib.hid (same_keys A B n c d l w S T hx hy hn)
  clear hx hy
  go_enter Try.func12, Try.ntmps12
  go_wp2_with fail
  refine HC.out.mono ?_
  rintro e w' ⟨rfl, k, rfl⟩
  go_wp2_with fail
  go_ret
  exact ⟨rfl, k, rfl⟩
def y1 : List LLook := [⟨xk 9, [2], [0, 1]⟩]
def y2 : List LLook := [⟨xk 9, [], [3]⟩]
end Go.Proofs.Ytkpdjjhkocmfoaa

/-
  Of part Known: what is needed here.
-/
namespace Go.Proofs.Ytkpdjjhkocmfoaa
open Go.RowKit
set_option linter.unusedVariables false
/-- the known programs' keys -/
def k0 : List Int := List.replicate 32 0
def k3 : List Int := 3 :: List.replicate 31 0
def kn (x : List Int) : Bool := decide (x = k0) || decide (x = k3)
theorem k0_len : k0.length = 32 := rfl
theorem k3_len : k3.length = 32 := rfl
theorem k0_ok : AllBytes k0 := fun z hz => by rw [List.eq_of_mem_replicate hz]; unfold IsByte; omega
theorem built_k0 : Try.prog.built 46 [] = some (bv k0).toArray := by kernel_rfl
theorem built_k3 : Try.prog.built 46 [(0, .int .u8 3)] = some (bv k3).toArray := by kernel_rfl
set_option maxRecDepth 100000 in
set_option maxHeartbeats 400000 in
theorem system_ (w : World) : Calls Try.prog 20 #[] w fun e w' => e = .returned (.agg (bv k0).toArray) ∧ Below w.heap.size w w' := by
  go_enter Try.func20, Try.ntmps20
  go_wp2_with (first
    | ((with_reducible show wpList _ _ _ ({ dst := some 1, op := Op.build _ _, type := _, pos := _, after := _, guard := _ } :: _) _ _); go_must (refine wpList_plain rfl fun K hK => wp_built _ _ _ rfl (by simp only [List.map_toArray, List.map_nil]; exact built_k0) (hK _ _ ?_)))
    | ((with_reducible show wpList _ _ _ ({ dst := none, op := Op.store 46 _ _, type := _, pos := _, after := _, guard := _ } :: _) _ _); go_must (refine wpList_store_new rfl 46 (.tmp 0) (.tmp 1) rfl (bv k0) size_key (bv_one _) rfl ?_ ?_ ?_; go_simp; go_simp; intro w1 hr1 hb1 hz1; have HR1 := Lib.hid hr1; have HB1 := Lib.hid hb1; clear hr1 hb1)))
  refine bodyPost_ret (results_cell_row (h := rfl) _ w1 w.heap.size 46 _ (0, 0) _ (by rfl) HR1.out.is Try.underlying46 rfl size_key) rfl ?_
  exact ⟨rfl, HB1.out⟩
set_option maxRecDepth 100000 in
set_option maxHeartbeats 400000 in
theorem budget_ (w : World) : Calls Try.prog 21 #[] w fun e w' => e = .returned (.agg (bv k3).toArray) ∧ Below w.heap.size w w' := by
  go_enter Try.func21, Try.ntmps21
  go_wp2_with (first
    | ((with_reducible show wpList _ _ _ ({ dst := some 1, op := Op.build _ _, type := _, pos := _, after := _, guard := _ } :: _) _ _); go_must (refine wpList_plain rfl fun K hK => wp_built _ _ _ rfl (by simp only [List.map_toArray, List.map_cons, List.map_nil]; exact built_k3) (hK _ _ ?_)))
    | ((with_reducible show wpList _ _ _ ({ dst := none, op := Op.store 46 _ _, type := _, pos := _, after := _, guard := _ } :: _) _ _); go_must (refine wpList_store_new rfl 46 (.tmp 0) (.tmp 1) rfl (bv k3) size_key (bv_one _) rfl ?_ ?_ ?_; go_simp; go_simp; intro w1 hr1 hb1 hz1; have HR1 := Lib.hid hr1; have HB1 := Lib.hid hb1; clear hr1 hb1)))
  refine bodyPost_ret (results_cell_row (h := rfl) _ w1 w.heap.size 46 _ (0, 0) _ (by rfl) HR1.out.is Try.underlying46 rfl size_key) rfl ?_
  exact ⟨rfl, HB1.out⟩
set_option maxRecDepth 100000 in
set_option maxHeartbeats 2000000 in
theorem known_ (x : List Int) (w : World) (hx : x.length = 32) : Calls Try.prog 35 #[.agg (bv x).toArray] w fun e w' => e = .returned (.bool (kn x)) ∧ Below w.heap.size w w' := by
  have hb0 : Below w.heap.size w (w.alloc (.cells (bv x).toArray 46)) := (Below.refl _ _).alloc (Nat.le_refl _) _
  have RX := Lib.hid (Row.new w 46 (bv x))
  have HB0 := Lib.hid hb0
  have HSZ := Lib.hid (show (Try.prog.info? 46).map (·.size) = some (bv x).length by rw [bv_length, hx]; exact size_key)
  have HLT : Hid (w.heap.size < (w.alloc (.cells (bv x).toArray 46)).heap.size) := Lib.hid (by simp)
  have HK : Hid (kn x = (decide (x = k0) || decide (x = k3))) := Lib.hid rfl
  have N0 := fun w => key_eql hx k0_len w
  have N3 := fun w => key_eql hx k3_len w
  clear hb0
  generalize kn x = bb at *
  generalize bv x = X at *
  generalize hWW : w.alloc (.cells X.toArray 46) = W at *
  have HWW := Lib.hid hWW
  clear hWW
  by_cases h0 : x = k0
  · have HQ : Hid (bb = true) := Lib.hid (by rw [HK.out, decide_eq_true h0]; rfl)
    rw [decide_eq_true h0] at N0
    clear h0 HK N3
    go_enter Try.func35, Try.ntmps35
    go_upto_region 1 with fail
    rw [HWW.out]
    clear HWW
    go_wp2_with fail
    refine wp_region_held_drew (S := (fun V => Below W.heap.size W V)) (by kernel_rfl) (Below.refl W.heap.size W).drew (fun _ => ?_)
    refine takeL (i := 0) (v := .agg X.toArray) rfl (by kernel_rfl) (by kernel_rfl) (by kernel_rfl) (fun _ _ _ h => h) (Or.inl ⟨by rfl, fun wz hwz => exec_load_at wz 46 (.tmp 1) rfl ⟨w.heap.size, 0, none⟩ X _ Try.underlying46 rfl HSZ.out (fun j u hu => (hwz.cell (by rw [addr_row]; show w.heap.size < W.heap.size; have := HLT.out; omega)).trans (by rw [addr_row, Nat.zero_add]; exact (RX.out.cell j).trans hu)) (by go_simp)⟩) (Below.refl W.heap.size W).drew ?_
    try simp only [Act.put, List.setIfInBounds_toArray, List.set_cons_zero, List.set_cons_succ]
    refine readyL (i := 1) rfl (by kernel_rfl) (by kernel_rfl) fun K hK => ?_
    go_simp
    refine (system_ _).mono ?_
    rintro e w1 ⟨rfl, hb1⟩
    have B1 := Lib.hid (show Below W.heap.size W w1 from ((Below.refl W.heap.size W).drew).trans hb1)
    clear hb1
    refine hK.out _ _ B1.out ?_
    clear hK K
    try simp only [Act.put, List.setIfInBounds_toArray, List.set_cons_zero, List.set_cons_succ]
    refine takeL (i := 2) (v := ?_) rfl (by kernel_rfl) (by kernel_rfl) (by kernel_rfl) (fun _ _ _ h => h) (Or.inl ⟨by rfl, ?_⟩) B1.out ?_
    rotate_left
    · intro w hw
      try dsimp only at hw
      go_simp
      try with_reducible rfl
    try simp only [Act.put, List.setIfInBounds_toArray, List.set_cons_zero, List.set_cons_succ]
    refine takeL (i := 3) (v := ?_) rfl (by kernel_rfl) (by kernel_rfl) (by kernel_rfl) (fun _ _ _ h => h) (Or.inl ⟨by rfl, ?_⟩) B1.out ?_
    rotate_left
    · intro w hw
      try dsimp only at hw
      go_simp
      try with_reducible rfl
    try simp only [Act.put, List.setIfInBounds_toArray, List.set_cons_zero, List.set_cons_succ]
    refine takeL (i := 4) (v := undef) rfl (by kernel_rfl) (by kernel_rfl) (by kernel_rfl) (fun _ _ _ h => h) (Or.inr ⟨by rfl, rfl⟩) B1.out ?_
    try simp only [Act.put, List.setIfInBounds_toArray, List.set_cons_zero, List.set_cons_succ]
    refine takeL (i := 5) (v := undef) rfl (by kernel_rfl) (by kernel_rfl) (by kernel_rfl) (fun _ _ _ h => h) (Or.inr ⟨by rfl, rfl⟩) B1.out ?_
    try simp only [Act.put, List.setIfInBounds_toArray, List.set_cons_zero, List.set_cons_succ]
    refine takeL (i := 6) (v := undef) rfl (by kernel_rfl) (by kernel_rfl) (by kernel_rfl) (fun _ _ _ h => h) (Or.inr ⟨by rfl, rfl⟩) B1.out ?_
    try simp only [Act.put, List.setIfInBounds_toArray, List.set_cons_zero, List.set_cons_succ]
    refine takeL (i := 7) (v := ?_) rfl (by kernel_rfl) (by kernel_rfl) (by kernel_rfl) (fun _ _ _ h => h) (Or.inl ⟨by rfl, ?_⟩) B1.out ?_
    rotate_left
    · intro w hw
      try dsimp only at hw
      go_simp
      try with_reducible rfl
    try simp only [Act.put, List.setIfInBounds_toArray, List.set_cons_zero, List.set_cons_succ]
    refine takeL (i := 8) (v := ?_) rfl (by kernel_rfl) (by kernel_rfl) (by kernel_rfl) (fun _ _ _ h => h) (Or.inl ⟨by rfl, ?_⟩) B1.out ?_
    rotate_left
    · intro w hw
      try dsimp only at hw
      go_simp
      try with_reducible rfl
    try simp only [Act.put, List.setIfInBounds_toArray, List.set_cons_zero, List.set_cons_succ]
    refine wpAnyH_done (by kernel_rfl) ?_ _
    go_wp2_with fail
    go_ret
    exact ⟨told_bool HQ.out.symm, HB0.out.trans (B1.out.mono HB0.out.size)⟩
  by_cases h3 : x = k3
  · have HQ : Hid (bb = true) := Lib.hid (by rw [HK.out, decide_eq_true h3, Bool.or_true])
    rw [decide_eq_false h0] at N0
    rw [decide_eq_true h3] at N3
    clear h0 h3 HK
    go_enter Try.func35, Try.ntmps35
    go_upto_region 1 with fail
    rw [HWW.out]
    clear HWW
    go_wp2_with fail
    refine wp_region_held_drew (S := (fun V => Below W.heap.size W V)) (by kernel_rfl) (Below.refl W.heap.size W).drew (fun _ => ?_)
    refine takeL (i := 0) (v := .agg X.toArray) rfl (by kernel_rfl) (by kernel_rfl) (by kernel_rfl) (fun _ _ _ h => h) (Or.inl ⟨by rfl, fun wz hwz => exec_load_at wz 46 (.tmp 1) rfl ⟨w.heap.size, 0, none⟩ X _ Try.underlying46 rfl HSZ.out (fun j u hu => (hwz.cell (by rw [addr_row]; show w.heap.size < W.heap.size; have := HLT.out; omega)).trans (by rw [addr_row, Nat.zero_add]; exact (RX.out.cell j).trans hu)) (by go_simp)⟩) (Below.refl W.heap.size W).drew ?_
    try simp only [Act.put, List.setIfInBounds_toArray, List.set_cons_zero, List.set_cons_succ]
    refine readyL (i := 1) rfl (by kernel_rfl) (by kernel_rfl) fun K hK => ?_
    go_simp
    refine (system_ _).mono ?_
    rintro e w1 ⟨rfl, hb1⟩
    have B1 := Lib.hid (show Below W.heap.size W w1 from ((Below.refl W.heap.size W).drew).trans hb1)
    clear hb1
    refine hK.out _ _ B1.out ?_
    clear hK K
    try simp only [Act.put, List.setIfInBounds_toArray, List.set_cons_zero, List.set_cons_succ]
    refine takeL (i := 2) (v := ?_) rfl (by kernel_rfl) (by kernel_rfl) (by kernel_rfl) (fun _ _ _ h => h) (Or.inl ⟨by rfl, ?_⟩) B1.out ?_
    rotate_left
    · intro w hw
      try dsimp only at hw
      go_simp
      try with_reducible rfl
    try simp only [Act.put, List.setIfInBounds_toArray, List.set_cons_zero, List.set_cons_succ]
    refine takeL (i := 3) (v := ?_) rfl (by kernel_rfl) (by kernel_rfl) (by kernel_rfl) (fun _ _ _ h => h) (Or.inl ⟨by rfl, ?_⟩) B1.out ?_
    rotate_left
    · intro w hw
      try dsimp only at hw
      go_simp
      try with_reducible rfl
    try simp only [Act.put, List.setIfInBounds_toArray, List.set_cons_zero, List.set_cons_succ]
    refine takeL (i := 4) (v := .agg X.toArray) rfl (by kernel_rfl) (by kernel_rfl) (by kernel_rfl) (fun _ _ _ h => h) (Or.inl ⟨by rfl, fun wz hwz => exec_load_at wz 46 (.tmp 1) rfl ⟨w.heap.size, 0, none⟩ X _ Try.underlying46 rfl HSZ.out (fun j u hu => (hwz.cell (by rw [addr_row]; show w.heap.size < W.heap.size; have := HLT.out; omega)).trans (by rw [addr_row, Nat.zero_add]; exact (RX.out.cell j).trans hu)) (by go_simp)⟩) B1.out ?_
    try simp only [Act.put, List.setIfInBounds_toArray, List.set_cons_zero, List.set_cons_succ]
    refine readyL (i := 5) rfl (by kernel_rfl) (by kernel_rfl) fun K hK => ?_
    go_simp
    refine (budget_ _).mono ?_
    rintro e w2 ⟨rfl, hb2⟩
    have B2 := Lib.hid (B1.out.trans (hb2.mono B1.out.size))
    clear hb2
    refine hK.out _ _ B2.out ?_
    clear hK K
    try simp only [Act.put, List.setIfInBounds_toArray, List.set_cons_zero, List.set_cons_succ]
    refine takeL (i := 6) (v := ?_) rfl (by kernel_rfl) (by kernel_rfl) (by kernel_rfl) (fun _ _ _ h => h) (Or.inl ⟨by rfl, ?_⟩) B2.out ?_
    rotate_left
    · intro w hw
      try dsimp only at hw
      go_simp
      try with_reducible rfl
    try simp only [Act.put, List.setIfInBounds_toArray, List.set_cons_zero, List.set_cons_succ]
    refine takeL (i := 7) (v := ?_) rfl (by kernel_rfl) (by kernel_rfl) (by kernel_rfl) (fun _ _ _ h => h) (Or.inl ⟨by rfl, ?_⟩) B2.out ?_
    rotate_left
    · intro w hw
      try dsimp only at hw
      go_simp
      try with_reducible rfl
    try simp only [Act.put, List.setIfInBounds_toArray, List.set_cons_zero, List.set_cons_succ]
    refine takeL (i := 8) (v := ?_) rfl (by kernel_rfl) (by kernel_rfl) (by kernel_rfl) (fun _ _ _ h => h) (Or.inl ⟨by rfl, ?_⟩) B2.out ?_
    rotate_left
    · intro w hw
      try dsimp only at hw
      go_simp
      try with_reducible rfl
    try simp only [Act.put, List.setIfInBounds_toArray, List.set_cons_zero, List.set_cons_succ]
    refine wpAnyH_done (by kernel_rfl) ?_ _
    go_wp2_with fail
    go_ret
    exact ⟨told_bool HQ.out.symm, HB0.out.trans (B2.out.mono HB0.out.size)⟩
  · have HQ : Hid (bb = false) := Lib.hid (by rw [HK.out, decide_eq_false h0, decide_eq_false h3]; rfl)
    rw [decide_eq_false h0] at N0
    rw [decide_eq_false h3] at N3
    clear h0 h3 HK
    go_enter Try.func35, Try.ntmps35
    go_upto_region 1 with fail
    rw [HWW.out]
    clear HWW
    go_wp2_with fail
    refine wp_region_held_drew (S := (fun V => Below W.heap.size W V)) (by kernel_rfl) (Below.refl W.heap.size W).drew (fun _ => ?_)
    refine takeL (i := 0) (v := .agg X.toArray) rfl (by kernel_rfl) (by kernel_rfl) (by kernel_rfl) (fun _ _ _ h => h) (Or.inl ⟨by rfl, fun wz hwz => exec_load_at wz 46 (.tmp 1) rfl ⟨w.heap.size, 0, none⟩ X _ Try.underlying46 rfl HSZ.out (fun j u hu => (hwz.cell (by rw [addr_row]; show w.heap.size < W.heap.size; have := HLT.out; omega)).trans (by rw [addr_row, Nat.zero_add]; exact (RX.out.cell j).trans hu)) (by go_simp)⟩) (Below.refl W.heap.size W).drew ?_
    try simp only [Act.put, List.setIfInBounds_toArray, List.set_cons_zero, List.set_cons_succ]
    refine readyL (i := 1) rfl (by kernel_rfl) (by kernel_rfl) fun K hK => ?_
    go_simp
    refine (system_ _).mono ?_
    rintro e w1 ⟨rfl, hb1⟩
    have B1 := Lib.hid (show Below W.heap.size W w1 from ((Below.refl W.heap.size W).drew).trans hb1)
    clear hb1
    refine hK.out _ _ B1.out ?_
    clear hK K
    try simp only [Act.put, List.setIfInBounds_toArray, List.set_cons_zero, List.set_cons_succ]
    refine takeL (i := 2) (v := ?_) rfl (by kernel_rfl) (by kernel_rfl) (by kernel_rfl) (fun _ _ _ h => h) (Or.inl ⟨by rfl, ?_⟩) B1.out ?_
    rotate_left
    · intro w hw
      try dsimp only at hw
      go_simp
      try with_reducible rfl
    try simp only [Act.put, List.setIfInBounds_toArray, List.set_cons_zero, List.set_cons_succ]
    refine takeL (i := 3) (v := ?_) rfl (by kernel_rfl) (by kernel_rfl) (by kernel_rfl) (fun _ _ _ h => h) (Or.inl ⟨by rfl, ?_⟩) B1.out ?_
    rotate_left
    · intro w hw
      try dsimp only at hw
      go_simp
      try with_reducible rfl
    try simp only [Act.put, List.setIfInBounds_toArray, List.set_cons_zero, List.set_cons_succ]
    refine takeL (i := 4) (v := .agg X.toArray) rfl (by kernel_rfl) (by kernel_rfl) (by kernel_rfl) (fun _ _ _ h => h) (Or.inl ⟨by rfl, fun wz hwz => exec_load_at wz 46 (.tmp 1) rfl ⟨w.heap.size, 0, none⟩ X _ Try.underlying46 rfl HSZ.out (fun j u hu => (hwz.cell (by rw [addr_row]; show w.heap.size < W.heap.size; have := HLT.out; omega)).trans (by rw [addr_row, Nat.zero_add]; exact (RX.out.cell j).trans hu)) (by go_simp)⟩) B1.out ?_
    try simp only [Act.put, List.setIfInBounds_toArray, List.set_cons_zero, List.set_cons_succ]
    refine readyL (i := 5) rfl (by kernel_rfl) (by kernel_rfl) fun K hK => ?_
    go_simp
    refine (budget_ _).mono ?_
    rintro e w2 ⟨rfl, hb2⟩
    have B2 := Lib.hid (B1.out.trans (hb2.mono B1.out.size))
    clear hb2
    refine hK.out _ _ B2.out ?_
    clear hK K
    try simp only [Act.put, List.setIfInBounds_toArray, List.set_cons_zero, List.set_cons_succ]
    refine takeL (i := 6) (v := ?_) rfl (by kernel_rfl) (by kernel_rfl) (by kernel_rfl) (fun _ _ _ h => h) (Or.inl ⟨by rfl, ?_⟩) B2.out ?_
    rotate_left
    · intro w hw
      try dsimp only at hw
      go_simp
      try with_reducible rfl
    try simp only [Act.put, List.setIfInBounds_toArray, List.set_cons_zero, List.set_cons_succ]
    refine takeL (i := 7) (v := ?_) rfl (by kernel_rfl) (by kernel_rfl) (by kernel_rfl) (fun _ _ _ h => h) (Or.inl ⟨by rfl, ?_⟩) B2.out ?_
    rotate_left
    · intro w hw
      try dsimp only at hw
      go_simp
      try with_reducible rfl
    try simp only [Act.put, List.setIfInBounds_toArray, List.set_cons_zero, List.set_cons_succ]
    refine takeL (i := 8) (v := ?_) rfl (by kernel_rfl) (by kernel_rfl) (by kernel_rfl) (fun _ _ _ h => h) (Or.inl ⟨by rfl, ?_⟩) B2.out ?_
    rotate_left
    · intro w hw
      try dsimp only at hw
      go_simp
      try with_reducible rfl
    try simp only [Act.put, List.setIfInBounds_toArray, List.set_cons_zero, List.set_cons_succ]
    refine wpAnyH_done (by kernel_rfl) ?_ _
    go_wp2_with fail
    go_ret
    exact ⟨told_bool HQ.out.symm, HB0.out.trans (B2.out.mono HB0.out.size)⟩
end Go.Proofs.Ytkpdjjhkocmfoaa
