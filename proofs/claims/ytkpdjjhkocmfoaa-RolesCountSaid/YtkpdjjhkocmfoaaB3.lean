/-
  Parts joined: Lives7 Great7 Written7 CountMath7.
-/
import Derived.Below
import Derived.Laws.OwnMore
import Derived.Deep.AppendLies
import Derived.Deep.Draws
import Derived.Lib.Hide
import Derived.Laws.MakeOwn
import Derived.Laws.CopyOwn
import Derived.Laws.Rows
import Derived.Laws.BitsAllLaws
import Derived.WalkKit
import Derived.Test.YtkpdjjhkocmfoaaRows
import Derived.WalkSpells
import Derived.WalkLawsBesides
import Derived.IntWalk
import Derived.Maps.AppendAt
import Derived.OwnWalk
import Derived.Deep.MidRow
import Derived.Deep.WholeRow
import Derived.Great.BuildSlice
import Derived.ProofKit
import Derived.OpenShut
import Derived.ShutString
import Derived.ChangeOld
import Derived.Lib.SmallJoins
import Derived.Recover
import Derived.Deep.RegionHeld
import Derived.Deep.QuietTactic
import Derived.BigQuiet
import Derived.Deep.Slices
import Derived.Deep.Strs
import Derived.SizedLaws
import Derived.Maps.OwnSet
import Derived.DeepKeys4
import Derived.WideKeyArr
import Derived.ChangeKeysEq
import Derived.Deep.RegionHeld2
import Derived.Deep.CutBlock
import Derived.Laws.Tables
import Derived.Laws.StructEq
import Derived.Deep.DeepCutAuto
import Derived.Laws.Slices
import Derived.Laws.EntriesVeiled
import Derived.Deep.RegionHeld3
import Derived.WideKeyEntry
import Derived.Shelf.SlMaps.Clone
import Derived.Laws.Append
import Derived.Laws.AppendOwn
import Derived.Test.YtkpdjjhkocmfoaaB1
import Derived.Test.YtkpdjjhkocmfoaaB2
/-
  Of part Lives7: what is needed here.
-/
namespace Go.Proofs.Ytkpdjjhkocmfoaa
open Go.RowKit
set_option linter.unusedVariables false
def xq (a : Int) : List Int := a :: List.replicate 31 0
theorem xq_ok {a : Int} (h : IsByte a) : KeyOk7 (xq a) := ⟨rfl, fun z hz => by
  rcases List.mem_cons.1 hz with rfl | hz
  · exact h
  · obtain rfl : z = 0 := List.eq_of_mem_replicate hz
    constructor <;> decide⟩
theorem built_xq (a : Int) : Try.prog.built 46 [(0, .int .u8 a)] = some (bv (xq a)).toArray := by kernel_rfl
/-- the example -/
def m7 : LMsg := ⟨false, 2, 1, 1, [xq 1, xq 2, xq 4, k0], List.replicate 32 0, [], []⟩
def q7 (g : Nat) : Raw := ⟨some ⟨g, 0, none⟩, 4, 4, none, 0, 0, none, 0, 0⟩
def e7 : List LRole := [⟨xq 1, true, true⟩, ⟨xq 2, true, false⟩, ⟨xq 4, false, true⟩, ⟨k0, false, false⟩]
theorem m7_roles : rolesL m7 [] [] = e7 := by decide +kernel
theorem m7_nodup : (m7.keys ++ ([] ++ [])).Nodup := by decide +kernel
theorem m7_keys : ∀ k ∈ m7.keys, KeyOk7 k := by
  intro k hk
  simp only [m7, List.mem_cons, List.not_mem_nil, or_false] at hk
  rcases hk with rfl | rfl | rfl | rfl
  · exact xq_ok (by constructor <;> decide)
  · exact xq_ok (by constructor <;> decide)
  · exact xq_ok (by constructor <;> decide)
  · exact ⟨rfl, k0_ok⟩
theorem e7_ok : ∀ r ∈ e7, RoleOk r := by
  intro r hr
  simp only [e7, List.mem_cons, List.not_mem_nil, or_false] at hr
  rcases hr with rfl | rfl | rfl | rfl
  · exact xq_ok (by constructor <;> decide)
  · exact xq_ok (by constructor <;> decide)
  · exact xq_ok (by constructor <;> decide)
  · exact ⟨rfl, k0_ok⟩
theorem built_hd : Try.prog.built 35 [(0, .int .u8 2), (1, .int .u8 1), (2, .int .u8 1)] = some #[.int .u8 2, .int .u8 1, .int .u8 1] := by kernel_rfl
theorem built_m7 (g : Nat) : Try.prog.built 41 [(1, .agg #[.int .u8 2, .int .u8 1, .int .u8 1]), (2, .slice (some ⟨g, 0, none⟩) 4 4)] = some ((q7 g).cells m7).toArray := by kernel_rfl
theorem one7 (g : Nat) : ∀ u ∈ (q7 g).cells m7, u.oneCell' = true := cells_one
theorem keyEq0 (w : World) : (binOp .eql 46 (.agg (bv k0).toArray) (.agg (bv k0).toArray)).run Try.prog w = .ok (.bool true) w := by rw [key_eql rfl rfl]; simp
theorem keyEq3 (w : World) : (binOp .eql 46 (.agg (bv k3).toArray) (.agg (bv k3).toArray)).run Try.prog w = .ok (.bool true) w := by rw [key_eql rfl rfl]; simp
set_option maxRecDepth 100000 in
set_option maxHeartbeats 4000000 in
theorem lives7 (w : World) : Calls Try.prog 7 #[] w fun e w' => e = .returned (.bool true) ∧ Below w.heap.size w w' := by
  have HX1 := Lib.hid (show (bv (xq 1)).length = 32 from rfl)
  have HRK := Lib.hid (Row.new w 46 (bv (xq 1) ++ (bv (xq 2) ++ (bv (xq 4) ++ bv k0))))
  have hb0 : Below w.heap.size w (w.alloc (.cells (bv (xq 1) ++ (bv (xq 2) ++ (bv (xq 4) ++ bv k0))).toArray 46)) := (Below.refl w.heap.size w).alloc (Nat.le_refl _) _
  have HB0 := Lib.hid hb0
  clear hb0
  have HSM := Lib.hid (show (Try.prog.info? 41).map (·.size) = some ((q7 w.heap.size).cells m7).length by rw [size_msg, cells_len rfl])
  have HML := Lib.hid (show ((q7 w.heap.size).cells m7).length = 39 from cells_len rfl)
  have HBM := Lib.hid (built_m7 w.heap.size)
  have HM1 := Lib.hid (one7 w.heap.size)
  have HOF : Hid (∀ V : World, Below (w.heap.size + 1) (w.alloc (.cells (bv (xq 1) ++ (bv (xq 2) ++ (bv (xq 4) ++ bv k0))).toArray 46)) V → w.heap.size + 1 ≤ V.heap.size → Calls Try.prog 19 #[.agg ((q7 w.heap.size).cells m7).toArray, .slice none 0 0, .slice none 0 0] V (OfDone V m7 [] [])) := Lib.hid fun V hV hz => by
    have hr := HRK.out.below hV (Nat.lt_succ_self _)
    exact of7 (q7 w.heap.size) m7 ⟨none, 0, 0, []⟩ ⟨none, 0, 0, []⟩ (w.heap.size + 1) V (keys_row (l := m7.keys) (ys := []) (by rw [List.append_nil]; exact hr) rfl (fun k hk => (m7_keys k hk).1) (Nat.lt_succ_self _)) m7_keys rfl hz (by constructor <;> decide) (by constructor <;> decide) (by constructor <;> decide) (by simp [q7]) ⟨⟨rfl, by simp, Sees.nil _ _ _⟩, by simp, by simp⟩ ⟨⟨rfl, by simp, Sees.nil _ _ _⟩, by simp, by simp⟩
  generalize ((q7 w.heap.size).cells m7) = MC at *
  have N0 := keyEq0
  have N3 := keyEq3
  go_enter Try.func7, Try.ntmps7
  go_wp2_with (first
    | ((with_reducible show wpList _ _ _ ({ dst := some 5, op := Op.build _ _, type := _, pos := _, after := _, guard := _ } :: _) _ _); go_must (refine wpList_plain rfl fun K hK => wp_built _ _ _ rfl (by simp only [List.map_toArray, List.map_cons, List.map_nil]; exact built_hd) (hK _ _ ?_)))
    | ((with_reducible show wpList _ _ _ ({ dst := some 6, op := Op.build _ _, type := _, pos := _, after := _, guard := _ } :: _) _ _); go_must (refine wpList_plain rfl fun K hK => wp_built _ _ _ rfl (by simp only [List.map_toArray, List.map_cons, List.map_nil]; exact built_xq 1) (hK _ _ ?_)))
    | ((with_reducible show wpList _ _ _ ({ dst := some 7, op := Op.build _ _, type := _, pos := _, after := _, guard := _ } :: _) _ _); go_must (refine wpList_plain rfl fun K hK => wp_built _ _ _ rfl (by simp only [List.map_toArray, List.map_cons, List.map_nil]; exact built_xq 2) (hK _ _ ?_)))
    | ((with_reducible show wpList _ _ _ ({ dst := some 8, op := Op.build _ _, type := _, pos := _, after := _, guard := _ } :: _) _ _); go_must (refine wpList_plain rfl fun K hK => wp_built _ _ _ rfl (by simp only [List.map_toArray, List.map_cons, List.map_nil]; exact built_xq 4) (hK _ _ ?_)))
    | ((with_reducible show wpList _ _ _ ({ dst := some 9, op := Op.build _ _, type := _, pos := _, after := _, guard := _ } :: _) _ _); go_must (refine wpList_plain rfl fun K hK => wp_built _ _ _ rfl (by simp only [List.map_toArray, List.map_nil]; exact built_k0) (hK _ _ ?_)))
    | ((with_reducible show wpList _ _ _ ({ dst := some 10, op := Op.buildSlice _ _ _, type := _, pos := _, after := _, guard := _ } :: _) _ _); go_must (refine wpList_buildFour rfl 25 46 (.tmp 6) (.tmp 7) (.tmp 8) (.tmp 9) rfl (bv (xq 1)) (bv (xq 2)) (bv (xq 4)) (bv k0) _ 32 32 Try.underlying25 info_key3 (by kernel_rfl) (by omega) (by omega) rfl rfl rfl rfl ?_ ?_ ?_ ?_ ?_; go_simp; go_simp; go_simp; go_simp))
    | ((with_reducible show wpList _ _ _ ({ dst := some 11, op := Op.build _ _, type := _, pos := _, after := _, guard := _ } :: _) _ _); go_must (refine wpList_plain rfl fun K hK => wp_built _ _ _ rfl (by simp only [List.map_toArray, List.map_cons, List.map_nil]; exact HBM.out) (hK _ _ ?_)))
    | ((with_reducible show wpList _ _ _ ({ dst := none, op := Op.store 41 _ _, type := _, pos := _, after := _, guard := _ } :: _) _ _); go_must (refine wpList_store_new rfl 41 (.tmp 1) (.tmp 11) rfl MC HSM.out HM1.out (by rw [HML.out]; rfl) ?_ ?_ ?_; go_simp; go_simp; intro w1 hr1 hb1 hz1; have R1 := Lib.hid hr1; have B1 := Lib.hid hb1; have Z1 := Lib.hid hz1; clear hr1 hb1 hz1))
    | ((with_reducible show wpList _ _ _ ({ dst := some 13, op := Op.load _ _, type := _, pos := _, after := _, guard := _ } :: _) _ _); go_must (refine wpList_load_whole rfl 41 (.tmp 1) rfl _ 41 MC _ Try.underlying41 rfl HSM.out R1.out ?_ ?_; go_simp)))
  have HZ1 : Hid (w.heap.size + 1 ≤ w1.heap.size) := Lib.hid (by have := Z1.out; simp at this; omega)
  have HBW : Hid (Below w.heap.size w w1) := Lib.hid (HB0.out.trans (B1.out.mono HB0.out.size))
  refine (HOF.out w1 (B1.out.mono (by simp)) HZ1.out).mono ?_
  rintro e w2 ⟨hb2, hd⟩
  rw [if_pos m7_nodup, m7_roles] at hd
  obtain ⟨A, c, rfl, ho⟩ := hd
  have HR2 := Lib.hid (roles_own ho rfl e7_ok)
  have HB2 := Lib.hid (HBW.out.trans (hb2.mono HBW.out.size))
  clear hb2 ho HOF HBW B1 R1 HRK HB0
  go_wp2_with (first
    | ((with_reducible show wpList _ _ _ ({ dst := some 17, op := Op.build _ _, type := _, pos := _, after := _, guard := _ } :: _) _ _); go_must (refine wpList_plain rfl fun K hK => wp_built _ _ _ rfl (by simp only [List.map_toArray, List.map_cons, List.map_nil]; exact built_xq 1) (hK _ _ ?_)))
    | ((with_reducible show wpList _ _ _ ({ dst := some 18, op := Op.build _ _, type := _, pos := _, after := _, guard := _ } :: _) _ _); go_must (refine wpList_plain rfl fun K hK => wp_built _ _ _ rfl (by simp only [List.map_toArray, List.map_cons, List.map_nil]; exact built_role (l := bv (xq 1)) rfl _ _) (hK _ _ ?_)))
    | ((with_reducible show wpList _ _ _ ({ dst := some 19, op := Op.build _ _, type := _, pos := _, after := _, guard := _ } :: _) _ _); go_must (refine wpList_plain rfl fun K hK => wp_built _ _ _ rfl (by simp only [List.map_toArray, List.map_cons, List.map_nil]; exact built_xq 2) (hK _ _ ?_)))
    | ((with_reducible show wpList _ _ _ ({ dst := some 20, op := Op.build _ _, type := _, pos := _, after := _, guard := _ } :: _) _ _); go_must (refine wpList_plain rfl fun K hK => wp_built _ _ _ rfl (by simp only [List.map_toArray, List.map_cons, List.map_nil]; exact built_roleS (l := bv (xq 2)) rfl _) (hK _ _ ?_)))
    | ((with_reducible show wpList _ _ _ ({ dst := some 21, op := Op.build _ _, type := _, pos := _, after := _, guard := _ } :: _) _ _); go_must (refine wpList_plain rfl fun K hK => wp_built _ _ _ rfl (by simp only [List.map_toArray, List.map_cons, List.map_nil]; exact built_xq 4) (hK _ _ ?_)))
    | ((with_reducible show wpList _ _ _ ({ dst := some 22, op := Op.build _ _, type := _, pos := _, after := _, guard := _ } :: _) _ _); go_must (refine wpList_plain rfl fun K hK => wp_built _ _ _ rfl (by simp only [List.map_toArray, List.map_cons, List.map_nil]; exact built_roleW (l := bv (xq 4)) rfl _) (hK _ _ ?_)))
    | ((with_reducible show wpList _ _ _ ({ dst := some 23, op := Op.build _ _, type := _, pos := _, after := _, guard := _ } :: _) _ _); go_must (refine wpList_plain rfl fun K hK => wp_built _ _ _ rfl (by simp only [List.map_toArray, List.map_nil]; exact built_role0) (hK _ _ ?_)))
    | ((with_reducible show wpList _ _ _ ({ dst := some 24, op := Op.buildSlice _ _ _, type := _, pos := _, after := _, guard := _ } :: _) _ _); go_must (refine wpList_buildFour rfl 22 48 (.tmp 18) (.tmp 20) (.tmp 22) (.tmp 23) rfl (bv (xq 1) ++ [Value.bool true, .bool true]) (bv (xq 2) ++ [Value.bool true, .bool false]) (bv (xq 4) ++ [Value.bool false, .bool true]) r0.cells _ 34 34 Try.underlying22 infoR zszR (by omega) (by omega) rfl rfl rfl rfl ?_ ?_ ?_ ?_ ?_; go_simp; go_simp; go_simp; go_simp)))
  have HRW := Lib.hid (show Row (w2.alloc (.cells ((bv (xq 1) ++ [Value.bool true, .bool true]) ++ ((bv (xq 2) ++ [Value.bool true, .bool false]) ++ ((bv (xq 4) ++ [Value.bool false, .bool true]) ++ r0.cells))).toArray 48)) w2.heap.size 48 ((e7.map LRole.cells).flatten ++ []) from Row.new w2 48 _)
  have hb3 : Below w2.heap.size w2 (w2.alloc (.cells ((bv (xq 1) ++ [Value.bool true, .bool true]) ++ ((bv (xq 2) ++ [Value.bool true, .bool false]) ++ ((bv (xq 4) ++ [Value.bool false, .bool true]) ++ r0.cells))).toArray 48)) := (Below.refl _ _).alloc (Nat.le_refl _) _
  refine (sameRoles A (some ⟨w2.heap.size, 0, none⟩) 4 4 4 e7 _ _ _ (HR2.out.below hb3) (roles_row HRW.out rfl e7_ok HRW.out.lt) (by unfold maxLen; omega)).mono ?_
  rintro e w4 ⟨rfl, k4, rfl⟩
  have HB4 := Lib.hid (below_drewN (HB2.out.trans (hb3.mono HB2.out.size)) k4)
  clear hb3 HRW HR2 HB2
  generalize World.drewN _ k4 = w5 at *
  go_wp2_with fail
  refine (system_ _).mono ?_
  rintro e w6 ⟨rfl, hb6⟩
  have HB6 := Lib.hid (HB4.out.trans (hb6.mono HB4.out.size))
  clear hb6 HB4
  go_wp2_with ((with_reducible show wpList _ _ _ ({ dst := some 34, op := Op.build _ _, type := _, pos := _, after := _, guard := _ } :: _) _ _); go_must (refine BigFrame.wpList_want (by kernel_rfl) fun K hK => wp_built _ _ _ rfl (by simp only [List.map_toArray, List.map_nil]; exact built_k0) (hK _ _ ?_)))
  refine (budget_ _).mono ?_
  rintro e w7 ⟨rfl, hb7⟩
  have HB7 := Lib.hid (HB6.out.trans (hb7.mono HB6.out.size))
  clear hb7 HB6
  go_wp2_with ((with_reducible show wpList _ _ _ ({ dst := some 39, op := Op.build _ _, type := _, pos := _, after := _, guard := _ } :: _) _ _); go_must (refine BigFrame.wpList_want (by kernel_rfl) fun K hK => wp_built _ _ _ rfl (by simp only [List.map_toArray, List.map_cons, List.map_nil]; exact built_k3) (hK _ _ ?_)))
  go_ret
  exact ⟨rfl, HB7.out⟩
end Go.Proofs.Ytkpdjjhkocmfoaa

/-
  Of part Great7: what is needed here.
-/
namespace Go.Proofs.Ytkpdjjhkocmfoaa
open Go.RowKit
set_option linter.unusedVariables false
set_option maxRecDepth 100000 in
set_option maxHeartbeats 1000000 in
theorem great7 (q : Raw) (m : LMsg) (A1 A2 : Option Addr) (n1 c1 n2 c2 B : Nat) (w : World) (hm : MsgIn w B q m) (hB : B ≤ w.heap.size) (hs : Sized m) :
    Calls Try.prog 18 #[.agg (q.cells m).toArray, .slice A1 n1 c1, .slice A2 n2 c2] w fun e w' => (∃ b, e = .returned (.bool b) ∧ (b = false → total m < 3000 ∧ q.kn ≤ 300 ∧ n1 ≤ 300 ∧ n2 ≤ 300)) ∧ Below w.heap.size w w' := by
  have hrow := Row.new w 41 (q.cells m)
  have hb0 : Below w.heap.size w (w.alloc (.cells (q.cells m).toArray 41)) := (Below.refl w.heap.size w).alloc (Nat.le_refl _) _
  have HG := Lib.hid (great_ q m B _ (hm.below (hb0.mono hB)) (Nat.le_trans hB hb0.size) hs)
  have HSM := Lib.hid (show (Try.prog.info? 41).map (·.size) = some (q.cells m).length by rw [size_msg, cells_len hm.recent])
  have HC4 : Hid ((q.cells m)[4]? = some (.slice q.KA q.kn q.kc)) := Lib.hid rfl
  have HK := Lib.hid hm.kn
  generalize q.cells m = MC at *
  obtain ⟨KA, n, kc, IA, ni, ic, LA, ln, lc⟩ := q
  dsimp only at *
  have HROW := Lib.hid hrow
  have HB0 := Lib.hid hb0
  have c4 : (w.alloc (.cells MC.toArray 41)).cell? ⟨w.heap.size, 4, none⟩ = some (.slice KA n kc) := (hrow.cell 4).trans HC4.out
  clear hrow hb0 hm
  go_enter Try.func18, Try.ntmps18
  go_wp2_with (first
    | ((with_reducible show wpList _ _ _ ({ dst := some 7, op := Op.load _ _, type := _, pos := _, after := _, guard := _ } :: _) _ _); go_must (refine wpList_load_whole rfl 41 (.tmp 3) rfl w.heap.size 41 MC _ Try.underlying41 rfl HSM.out HROW.out ?_ ?_; go_simp)))
  refine HG.out.mono ?_
  rintro e w1 ⟨⟨b, rfl, hgr⟩, hb1⟩
  have HGR := Lib.hid hgr
  have HB1 := Lib.hid (HB0.out.trans (hb1.mono HB0.out.size))
  have d4 : w1.cell? ⟨w.heap.size, 4, none⟩ = some (.slice KA n kc) := (hb1.cell (p := ⟨w.heap.size, 4, none⟩) HROW.out.lt).trans c4
  clear hgr hb1 c4 HG HROW HB0
  cases b with
  | true =>
    go_wp2_with fail
    go_ret
    exact ⟨⟨true, rfl, fun h => by cases h⟩, HB1.out⟩
  | false =>
    have HT : Hid (total m < 3000) := Lib.hid (HGR.out rfl)
    clear HGR
    by_cases h1 : (300 : Int) < n
    · go_wp2_with fail
      go_ret
      exact ⟨⟨true, rfl, fun h => by cases h⟩, HB1.out⟩
    by_cases h2 : (300 : Int) < n1
    · have h1' : decide ((300 : Int) < n) = false := decide_eq_false h1
      go_wp2_with fail
      go_ret
      exact ⟨⟨true, rfl, fun h => by cases h⟩, HB1.out⟩
    by_cases h3 : (300 : Int) < n2
    · have h1' : decide ((300 : Int) < n) = false := decide_eq_false h1
      have h2' : decide ((300 : Int) < n1) = false := decide_eq_false h2
      go_wp2_with fail
      go_ret
      exact ⟨⟨true, rfl, fun h => by cases h⟩, HB1.out⟩
    · have h1' : decide ((300 : Int) < n) = false := decide_eq_false h1
      have h2' : decide ((300 : Int) < n1) = false := decide_eq_false h2
      have h3' : decide ((300 : Int) < n2) = false := decide_eq_false h3
      go_wp2_with fail
      go_ret
      exact ⟨⟨false, rfl, fun _ => ⟨HT.out, by omega, by omega, by omega⟩⟩, HB1.out⟩
end Go.Proofs.Ytkpdjjhkocmfoaa

/-
  Of part Written7: what is needed here.
-/
namespace Go.Proofs.Ytkpdjjhkocmfoaa
open Go.RowKit
set_option linter.unusedVariables false
def wrK (l : List LRole) : List (List Int) := (l.filter fun r => r.wr).map LRole.key
theorem wrK_take_succ {l : List LRole} {k : Nat} {r : LRole} (h : l[k]? = some r) : wrK (l.take (k + 1)) = wrK (l.take k) ++ if r.wr then [r.key] else [] := by
  unfold wrK
  rw [List.take_add_one, h, List.filter_append, List.map_append]
  cases hw : r.wr <;> simp [hw]
theorem wrK_len (l : List LRole) : (wrK l).length ≤ l.length := by
  unfold wrK
  rw [List.length_map]
  exact List.length_filter_le _ _
def WrittenDone (w : World) (l : List LRole) (e : Ending) (w' : World) : Prop :=
  Below w.heap.size w w' ∧ ∃ A c, e = .returned (.slice A (wrK l).length (wrK l).length) ∧ w'.ownsRow w.heap.size 46 32 (.slice A (wrK l).length c) (wrK l).length (bv (wrK l).flatten)
set_option maxRecDepth 100000 in
set_option maxHeartbeats 2000000 in
theorem written_ (A : Option Addr) (n c B : Nat) (l : List LRole) (w : World) (hl : RolesIn w B A n l) (hB : B ≤ w.heap.size) (hn : n ≤ 100000) :
    Calls Try.prog 9 #[.slice A n c] w (WrittenDone w l) := by
  have HLN := Lib.hid hl.len
  have HL := Lib.hid hl
  clear hl
  go_enter Try.func9, Try.ntmps9
  go_wp2_with fail
  go_loopw [8, 3] (fun i v wr => ∃ k : Nat, k ≤ n ∧ i = .int .i64 k ∧ wr.ownsRow w.heap.size 46 32 v (wrK (l.take k)).length (bv (wrK (l.take k)).flatten) ∧ Below w.heap.size w wr) (fun i _ _ => n - (intOf i).toNat)
  case atStart => exact ⟨0, Nat.zero_le _, rfl, by simpa [wrK, bv, cv] using World.ownsRow_nil _ _ _ _, Below.refl _ _⟩
  case round =>
    obtain ⟨k, hk, rfl, ho, hb⟩ := hrel
    have HO := Lib.hid ho
    have HB := Lib.hid hb
    clear ho hb
    by_cases hlt : k < n
    · obtain ⟨a, r, rfl, hab, hr, hro, hcr⟩ := (HL.out.below (HB.out.mono hB)).get hlt
      have HSU := Lib.hid (wrK_take_succ hr)
      have HCR := Lib.hid hcr
      have HSR := Lib.hid (size_role hro.1)
      have HRL := Lib.hid (role_len hro.1)
      have HR1 := Lib.hid (role_one r)
      have HWR := Lib.hid (role_wr hro.1)
      have HRK : Hid (∀ j u, (bv r.key)[j]? = some u → r.cells[j]? = some u) := Lib.hid fun j u hu => role_key hu
      have HSZ := Lib.hid (show (Try.prog.info? 46).map (·.size) = some (bv r.key).length by rw [bv_length, hro.1]; exact size_key)
      have HKL : Hid ((bv r.key).length = 32) := Lib.hid (by rw [bv_length, hro.1])
      have H1 := Lib.hid (bv_one r.key)
      have hwl : (wrK (l.take k)).length ≤ 100000 := by
        have := wrK_len (l.take k)
        rw [List.length_take] at this
        omega
      generalize r.cells = rc at *
      obtain ⟨wn, hwn⟩ : ∃ wn, wn = (wrK (l.take k)).length := ⟨_, rfl⟩
      rw [← hwn] at HO hwl
      have HWN := Lib.hid hwn
      clear hwn
      clear hr hcr hro
      by_cases hw : r.wr = true
      · rw [hw] at HWR HSU
        have HSU2 : Hid (wrK (l.take (k + 1)) = wrK (l.take k) ++ [r.key]) := Lib.hid HSU.out
        have HXX : Hid (bv [r.key].flatten = bv r.key) := Lib.hid (by simp)
        generalize bv r.key = X at *
        clear hw HSU
        go_wp2_with (first
          | ((with_reducible show wpList _ _ _ ({ dst := some 11, op := Op.load _ _, type := _, pos := _, after := _, guard := _ } :: _) _ _); go_must (refine wpList_load_at rfl 48 (.tmp 10) rfl (a.add (k * 34)) rc _ Try.underlying48 rfl HSR.out HCR.out ?_ ?_; go_simp))
          | ((with_reducible show wpList _ _ _ ({ dst := none, op := Op.store 48 _ _, type := _, pos := _, after := _, guard := _ } :: _) _ _); go_must (refine wpList_store_new rfl 48 (.tmp 5) (.tmp 11) rfl rc HSR.out HR1.out (by rw [HRL.out]; rfl) ?_ ?_ ?_; go_simp; go_simp; intro w2 hr1 hb1 hz1; have R1 := Lib.hid hr1; have B1 := Lib.hid hb1; clear hr1 hb1 hz1; have d33 := (R1.out.cell 33).trans HWR.out))
          | ((with_reducible show wpList _ _ _ ({ dst := some 16, op := Op.load _ _, type := _, pos := _, after := _, guard := _ } :: _) _ _); go_must (refine wpList_load_at rfl 46 (.tmp 15) rfl ⟨wr.heap.size, 0, none⟩ X _ Try.underlying46 rfl HSZ.out (fun j u hu => by rw [addr_row, Nat.zero_add]; exact (R1.out.cell j).trans (HRK.out j u hu)) ?_ ?_; go_simp))
          | ((with_reducible show wpList _ _ _ ({ dst := some 17, op := Op.buildSlice _ _ _, type := _, pos := _, after := _, guard := _ } :: _) _ _); go_must (refine wpList_buildOne rfl 25 46 (.tmp 16) rfl X _ 32 32 Try.underlying25 info_key3 (by kernel_rfl) (by omega) (by omega) HKL.out ?_ ?_; go_simp))
          | (at_builtin; go_must (refine wpList_addRow rfl (.tmp 14) (.tmp 17) 25 rfl w.heap.size 46 _ 32 32 Try.underlying25 info_key3 (by kernel_rfl) (by omega) _ wn _ X 1 HKL.out H1.out rfl ?_ (own_below HO.out B1.out) ?_ (HB.out.trans (B1.out.mono HB.out.size)).size (by unfold maxLen; omega) (by omega) ?_; go_simp; go_simp; intro v4 w4 ho4 hg4; have O4 := Lib.hid ho4; have G4 := Lib.hid hg4; clear ho4 hg4)))
        go_roundw
        case rel =>
          refine ⟨k + 1, by omega, by go_num, ?_, (HB.out.trans (B1.out.mono HB.out.size)).grown G4.out.grown (HB.out.trans (B1.out.mono HB.out.size)).size fun j hj => (HO.out.lt j hj).1⟩
          rw [HSU2.out, List.length_append, List.flatten_append, bv_append, HXX.out, ← HWN.out]
          exact O4.out
        case measure => simp [intOf]; omega
      · have hw : r.wr = false := by simpa using hw
        rw [hw] at HWR HSU
        have HSU2 : Hid (wrK (l.take (k + 1)) = wrK (l.take k)) := Lib.hid (by rw [HSU.out]; simp)
        clear hw HSU
        go_wp2_with (first
          | ((with_reducible show wpList _ _ _ ({ dst := some 11, op := Op.load _ _, type := _, pos := _, after := _, guard := _ } :: _) _ _); go_must (refine wpList_load_at rfl 48 (.tmp 10) rfl (a.add (k * 34)) rc _ Try.underlying48 rfl HSR.out HCR.out ?_ ?_; go_simp))
          | ((with_reducible show wpList _ _ _ ({ dst := none, op := Op.store 48 _ _, type := _, pos := _, after := _, guard := _ } :: _) _ _); go_must (refine wpList_store_new rfl 48 (.tmp 5) (.tmp 11) rfl rc HSR.out HR1.out (by rw [HRL.out]; rfl) ?_ ?_ ?_; go_simp; go_simp; intro w2 hr1 hb1 hz1; have R1 := Lib.hid hr1; have B1 := Lib.hid hb1; clear hr1 hb1 hz1; have d33 := (R1.out.cell 33).trans HWR.out)))
        go_roundw
        case rel => exact ⟨k + 1, by omega, by go_num, by rw [HSU2.out, ← HWN.out]; exact own_below HO.out B1.out, HB.out.trans (B1.out.mono HB.out.size)⟩
        case measure => simp [intOf]; omega
    · obtain rfl : k = n := by omega
      have HO2 : Hid (wr.ownsRow w.heap.size 46 32 u3 (wrK l).length (bv (wrK l).flatten)) := Lib.hid (by
        have := HO.out
        rwa [List.take_of_length_le (by rw [HLN.out]; exact Nat.le_refl _)] at this)
      have HN2 : Hid ((wrK l).length = (wrK l).length) := Lib.hid rfl
      clear HO
      obtain ⟨A2, c2, he⟩ := own_formN HO2.out
      subst he
      have HCL := Lib.hid (clipK A2 (wrK l).length c2 wr (own_room HO2.out).1 (by have := (own_room HO2.out).2; unfold maxLen; omega))
      go_wp2_with fail
      refine HCL.out.mono ?_
      rintro e w9 ⟨rfl, rfl⟩
      go_wp2_with fail
      go_ret
      exact ⟨HB.out, A2, c2, rfl, HO2.out⟩
end Go.Proofs.Ytkpdjjhkocmfoaa

/-
  Of part CountMath7: what is needed here.
-/
namespace Go.Proofs.Ytkpdjjhkocmfoaa
open Go.RowKit
set_option linter.unusedVariables false
def cnt (f : Nat → Bool) : Nat → Nat
  | 0 => 0
  | k + 1 => cnt f k + if f k then 1 else 0
theorem cnt_le (f : Nat → Bool) : ∀ k, cnt f k ≤ k
  | 0 => Nat.le_refl _
  | k + 1 => by
    have := cnt_le f k
    unfold cnt
    split <;> omega
/-- a message's header, its keys, the keys that are written: which place is read -/
def rdB (s r o : Int) (n wl : Nat) (i : Nat) : Bool := (decide ((i : Int) < s) && decide (s - r ≤ (i : Int))) || (decide ((i : Int) < (n : Int)) && decide ((n : Int) - o ≤ (i : Int))) || decide ((n : Int) + (wl : Int) ≤ (i : Int))
def fS (L : List LRole) (i : Nat) : Bool := (L[i]?.map LRole.sg).getD false
def fW (L : List LRole) (i : Nat) : Bool := (L[i]?.map LRole.wr).getD false
def fK (L : List LRole) (rd : Nat → Bool) (i : Nat) : Bool := (L[i]?.map fun r => kn r.key && !rd i).getD false
theorem rolesL_at {m : LMsg} {wl rl : List (List Int)} {i : Nat} {r : LRole} (h : (rolesL m wl rl)[i]? = some r) :
    (i < m.keys.length ∧ r.sg = decide ((i : Int) < m.s) ∧ r.wr = (decide ((i : Int) < below7 m i) && !kn r.key)) ∨
    (m.keys.length ≤ i ∧ i < m.keys.length + wl.length ∧ r.sg = false ∧ r.wr = !kn r.key) ∨ (m.keys.length + wl.length ≤ i ∧ r.sg = false ∧ r.wr = false) := by
  unfold rolesL at h
  by_cases h1 : i < m.keys.length
  · rw [List.getElem?_append_left (by rw [ownRoles_len]; exact h1)] at h
    unfold ownRoles at h
    rw [List.getElem?_map, List.getElem?_range h1] at h
    cases h
    exact .inl ⟨h1, rfl, rfl⟩
  · rw [List.getElem?_append_right (by rw [ownRoles_len]; omega), ownRoles_len] at h
    by_cases h2 : i < m.keys.length + wl.length
    · rw [List.getElem?_append_left (by rw [List.length_map]; omega), List.getElem?_map] at h
      obtain ⟨k, _, rfl⟩ := Option.map_eq_some_iff.1 h
      exact .inr (.inl ⟨by omega, h2, rfl, rfl⟩)
    · rw [List.getElem?_append_right (by rw [List.length_map]; omega), List.getElem?_map] at h
      obtain ⟨k, _, rfl⟩ := Option.map_eq_some_iff.1 h
      exact .inr (.inr ⟨by omega, rfl, rfl⟩)
section
variable {m : LMsg} {wl rl : List (List Int)} {n : Nat}
/-- of one place: six classes -/
theorem classes {i : Nat} {r : LRole} (h : (rolesL m wl rl)[i]? = some r) (hn : m.keys.length = n) (hr0 : 0 ≤ m.r) (ho0 : 0 ≤ m.o) (h1 : m.s + m.o ≤ n) (h2 : m.r ≤ m.s) :
    ((i : Int) < m.s - m.r ∧ r.sg = true ∧ r.wr = !kn r.key) ∨ (m.s - m.r ≤ (i : Int) ∧ (i : Int) < m.s ∧ r.sg = true ∧ r.wr = false) ∨
    (m.s ≤ (i : Int) ∧ (i : Int) < n - m.o ∧ r.sg = false ∧ r.wr = !kn r.key) ∨ ((n : Int) - m.o ≤ i ∧ m.s ≤ (i : Int) ∧ (i : Int) < n ∧ r.sg = false ∧ r.wr = false) ∨
    ((n : Int) ≤ i ∧ (i : Int) < n + wl.length ∧ r.sg = false ∧ r.wr = !kn r.key) ∨ ((n : Int) + wl.length ≤ i ∧ r.sg = false ∧ r.wr = false) := by
  rcases rolesL_at h with ⟨a1, a2, a3⟩ | ⟨a1, a2, a3, a4⟩ | ⟨a1, a2, a3⟩
  · unfold below7 at a3
    by_cases c1 : (i : Int) < m.s
    · rw [if_pos c1] at a3
      rw [decide_eq_true c1] at a2
      by_cases c2 : (i : Int) < m.s - m.r
      · rw [decide_eq_true c2, Bool.true_and] at a3
        exact .inl ⟨c2, a2, a3⟩
      · rw [decide_eq_false c2, Bool.false_and] at a3
        exact .inr (.inl ⟨by omega, c1, a2, a3⟩)
    · rw [if_neg c1] at a3
      rw [decide_eq_false c1] at a2
      by_cases c2 : (i : Int) < (m.keys.length : Int) - m.o
      · rw [decide_eq_true c2, Bool.true_and] at a3
        exact .inr (.inr (.inl ⟨by omega, by omega, a2, a3⟩))
      · rw [decide_eq_false c2, Bool.false_and] at a3
        exact .inr (.inr (.inr (.inl ⟨by omega, by omega, by omega, a2, a3⟩)))
  · exact .inr (.inr (.inr (.inr (.inl ⟨by omega, by omega, a3, a4⟩))))
  · exact .inr (.inr (.inr (.inr (.inr ⟨by omega, a2, a3⟩))))
theorem cnt_sign (hn : m.keys.length = n) (h0 : 0 ≤ m.s) (hr0 : 0 ≤ m.r) (ho0 : 0 ≤ m.o) (h1 : m.s + m.o ≤ n) (h2 : m.r ≤ m.s) : ∀ k, k ≤ (rolesL m wl rl).length → (cnt (fS (rolesL m wl rl)) k : Int) = if (k : Int) ≤ m.s then (k : Int) else m.s
  | 0, _ => by simp [cnt, h0]
  | k + 1, hk => by
    have ih := cnt_sign hn h0 hr0 ho0 h1 h2 k (by omega)
    obtain ⟨r, hr⟩ : ∃ r, (rolesL m wl rl)[k]? = some r := ⟨_, List.getElem?_eq_getElem (by omega)⟩
    have hf : fS (rolesL m wl rl) k = r.sg := by unfold fS; rw [hr]; rfl
    unfold cnt
    rw [hf]
    rcases classes hr hn hr0 ho0 h1 h2 with ⟨a, b, _⟩ | ⟨a, a', b, _⟩ | ⟨a, a', b, _⟩ | ⟨a, a', a'', b, _⟩ | ⟨a, a', b, _⟩ | ⟨a, b, _⟩ <;> rw [b]
    · rw [if_pos (by omega)] at ih
      simp only [if_true]
      rw [if_pos (by omega)]
      omega
    · rw [if_pos (by omega)] at ih
      simp only [if_true]
      rw [if_pos (by omega)]
      omega
    all_goals
      simp only [Bool.false_eq_true, if_false, Nat.add_zero]
      rw [ih]
      split <;> split <;> omega
/-- what is written, and the known ones that would be -/
theorem cnt_write (hn : m.keys.length = n) (h0 : 0 ≤ m.s) (hr0 : 0 ≤ m.r) (ho0 : 0 ≤ m.o) (h1 : m.s + m.o ≤ n) (h2 : m.r ≤ m.s) : ∀ k, k ≤ (rolesL m wl rl).length → ((cnt (fW (rolesL m wl rl)) k : Int) + cnt (fK (rolesL m wl rl) (rdB m.s m.r m.o n wl.length)) k) =
      if (k : Int) ≤ m.s - m.r then (k : Int) else if (k : Int) ≤ m.s then m.s - m.r else if (k : Int) ≤ n - m.o then (k : Int) - m.r else if (k : Int) ≤ n then (n : Int) - m.o - m.r else if (k : Int) ≤ n + wl.length then (k : Int) - m.o - m.r else (n : Int) + wl.length - m.o - m.r
  | 0, _ => by
    have e : ((0 : Nat) : Int) ≤ m.s - m.r := by omega
    rw [if_pos e]
    rfl
  | k + 1, hk => by
    have ih := cnt_write hn h0 hr0 ho0 h1 h2 k (by omega)
    obtain ⟨r, hr⟩ : ∃ r, (rolesL m wl rl)[k]? = some r := ⟨_, List.getElem?_eq_getElem (by omega)⟩
    have hf : fW (rolesL m wl rl) k = r.wr := by unfold fW; rw [hr]; rfl
    have hg : fK (rolesL m wl rl) (rdB m.s m.r m.o n wl.length) k = (kn r.key && !rdB m.s m.r m.o n wl.length k) := by unfold fK; rw [hr]; rfl
    unfold cnt
    rw [hf, hg]
    have key : ∀ b : Bool, rdB m.s m.r m.o n wl.length k = b → r.wr = (!kn r.key && !b) → (((cnt (fW (rolesL m wl rl)) k + if r.wr = true then 1 else 0 : Nat) : Int) + ((cnt (fK (rolesL m wl rl) (rdB m.s m.r m.o n wl.length)) k + if (kn r.key && !rdB m.s m.r m.o n wl.length k) = true then 1 else 0 : Nat) : Int)) = ((cnt (fW (rolesL m wl rl)) k : Int) + cnt (fK (rolesL m wl rl) (rdB m.s m.r m.o n wl.length)) k) + if b then 0 else 1 := by
      intro b hb hw
      rw [hb, hw]
      cases kn r.key <;> cases b <;> simp <;> omega
    rcases classes hr hn hr0 ho0 h1 h2 with ⟨a, _, b⟩ | ⟨a, a', _, b⟩ | ⟨a, a', _, b⟩ | ⟨a, a', a'', _, b⟩ | ⟨a, a', _, b⟩ | ⟨a, _, b⟩
    · rw [key false (by simp only [rdB, Bool.or_eq_false_iff, Bool.and_eq_false_iff, decide_eq_false_iff_not]; omega) (by rw [b]; simp), ih]
      simp only [Bool.false_eq_true, if_false]
      repeat (first | omega | split)
    · rw [key true (by simp only [rdB, Bool.or_eq_true, Bool.and_eq_true, decide_eq_true_iff]; omega) (by rw [b]; simp), ih]
      simp only [if_true]
      repeat (first | omega | split)
    · rw [key false (by simp only [rdB, Bool.or_eq_false_iff, Bool.and_eq_false_iff, decide_eq_false_iff_not]; omega) (by rw [b]; simp), ih]
      simp only [Bool.false_eq_true, if_false]
      repeat (first | omega | split)
    · rw [key true (by simp only [rdB, Bool.or_eq_true, Bool.and_eq_true, decide_eq_true_iff]; omega) (by rw [b]; simp), ih]
      simp only [if_true]
      repeat (first | omega | split)
    · rw [key false (by simp only [rdB, Bool.or_eq_false_iff, Bool.and_eq_false_iff, decide_eq_false_iff_not]; omega) (by rw [b]; simp), ih]
      simp only [Bool.false_eq_true, if_false]
      repeat (first | omega | split)
    · rw [key true (by simp only [rdB, Bool.or_eq_true, Bool.and_eq_true, decide_eq_true_iff]; omega) (by rw [b]; simp), ih]
      simp only [if_true]
      repeat (first | omega | split)
end
/-- as many are written as Written tells -/
theorem cnt_written (L : List LRole) : ∀ k, k ≤ L.length → (wrK (L.take k)).length = cnt (fW L) k
  | 0, _ => by simp [wrK, cnt]
  | k + 1, hk => by
    obtain ⟨r, hr⟩ : ∃ r, L[k]? = some r := ⟨_, List.getElem?_eq_getElem (by omega)⟩
    have hf : fW L k = r.wr := by unfold fW; rw [hr]; rfl
    rw [wrK_take_succ hr, List.length_append, cnt_written L k (by omega), show cnt (fW L) (k + 1) = cnt (fW L) k + if fW L k = true then 1 else 0 from rfl, hf]
    cases r.wr <;> rfl
end Go.Proofs.Ytkpdjjhkocmfoaa
