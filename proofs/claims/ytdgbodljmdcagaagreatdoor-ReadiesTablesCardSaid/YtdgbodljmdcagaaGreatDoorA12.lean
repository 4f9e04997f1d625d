/-
  Parts joined: Take8 Word8 OfB8 Lives7 With8 Lives9 RefWide SumsWalk OfWalk9.
-/
import Derived.Test.YtdgbodljmdcagaaGreatDoorChecked
import Derived.WalkKit
import Derived.LaidEql
import Derived.Stop.Asserts
import Derived.RowKitTokens
import Derived.Lib.IfaceEq
import Derived.Lib.Hide
import Derived.Below
import Derived.Laws.OwnMore
import Derived.Deep.AppendLies
import Derived.Deep.Draws
import Derived.Laws.MakeOwn
import Derived.Laws.CopyOwn
import Derived.Laws.Rows
import Derived.Maps.AppendAt
import Derived.OwnWalk
import Derived.Laws.BitsAllLaws
import Derived.Test.YtdgbodljmdcagaaGreatDoorRows
import Derived.WalkSpells
import Derived.WalkLawsBesides
import Derived.IntWalk
import Derived.Deep.QuietTactic
import Derived.BigQuiet
import Derived.Deep.MidRow
import Derived.Deep.WholeRow
import Derived.Great.BuildSlice
import Derived.Recover
import Derived.Deep.RegionHeld
import Derived.ChangeKeysEq
import Derived.Deep.RegionHeld2
import Derived.Deep.CutBlock
import Derived.Laws.Tables
import Derived.ProofKit
import Derived.OpenShut
import Derived.ShutString
import Derived.ChangeOld
import Derived.Lib.SmallJoins
import Derived.Deep.Slices
import Derived.Deep.Strs
import Derived.SizedLaws
import Derived.Laws.StructEq
import Derived.Laws.Slices
import Derived.Defers
import Derived.Deep.DeepCutAuto
import Derived.Laws.EntriesVeiled
import Derived.Deep.RegionHeld3
import Derived.Maps.OwnSet
import Derived.DeepKeys4
import Derived.WideKeyArr
import Derived.WideKeyEntry
import Derived.Shelf.SlMaps.Clone
import Derived.Lib.Mul64
import Derived.Laws.Bits64b
import Derived.Laws.Externs
import Derived.Lib.BitFns
import Derived.Shelf.Small.Bits
import Derived.Laws.NewBlocks
import Derived.Laws.Append
import Derived.Laws.AppendOwn
import Derived.RangeFuncNested
import Derived.RangeFuncBound
import Derived.RangeFuncCalls
import Derived.RangeFuncLeaves
import Derived.Shelf.Abstract
import Derived.Shelf.RegionOpen
import Derived.OwnWalkIn
import Derived.TacticsInMore
import Derived.LoopNIn
import Derived.LoopIn
import Derived.LaidMore
import Derived.Deep.RegionWith
import Derived.Test.YtdgbodljmdcagaaGreatDoorA1
import Derived.Test.YtdgbodljmdcagaaGreatDoorA2
import Derived.Test.YtdgbodljmdcagaaGreatDoorA3
import Derived.Test.YtdgbodljmdcagaaGreatDoorA4
import Derived.Test.YtdgbodljmdcagaaGreatDoorA5
import Derived.Test.YtdgbodljmdcagaaGreatDoorA6
import Derived.Test.YtdgbodljmdcagaaGreatDoorA7
import Derived.Test.YtdgbodljmdcagaaGreatDoorA8
import Derived.Test.YtdgbodljmdcagaaGreatDoorA9
import Derived.Test.YtdgbodljmdcagaaGreatDoorA10
import Derived.Test.YtdgbodljmdcagaaGreatDoorA11
/-
  Of part Take8: what is needed here.
-/
set_option linter.unusedSimpArgs false
namespace Go.Proofs.YtdgbodljmdcagaaGreatDoor
open Go.RowKit
set_option linter.unusedVariables false
set_option maxRecDepth 100000
theorem bytes_all {l : List Int} (h : AllBytes l) : Bytes l := fun i => by
  rcases Nat.lt_or_ge i l.length with hi | hi
  · rw [List.getD_eq_getElem?_getD, List.getElem?_eq_getElem hi]; exact h _ (List.getElem_mem hi)
  · rw [List.getD_eq_getElem?_getD, List.getElem?_eq_none hi]; exact ⟨Int.le_refl _, by decide⟩
theorem size_b8 : (Tryz.prog.info? 5).map (·.size) = some 1 := by kernel_rfl
theorem size_told (x : Int) (b : Bool) : (Tryz.prog.info? 127).map (·.size) = some ([.int .u64 x, .bool b] : List Value).length := by kernel_rfl
theorem built_told (x : Int) (b : Bool) : Tryz.prog.built 127 [(0, .int .u64 x), (1, .bool b)] = some ([.int .u64 x, .bool b] : List Value).toArray := by kernel_rfl
theorem told_one (x : Int) (b : Bool) : ∀ u ∈ ([.int .u64 x, .bool b] : List Value), u.oneCell' = true := by
  intro u hu
  simp only [List.mem_cons, List.not_mem_nil, or_false] at hu
  rcases hu with rfl | rfl <;> rfl
set_option maxRecDepth 100000 in
set_option maxHeartbeats 400000 in
theorem units_ (s : BS) (g : Nat) (w : World) (hr : Row w g 129 (wcells s)) (ho : s.o ≤ 100000) :
    Calls Tryz.prog 71 #[.pointer (some ⟨g, 0, none⟩), .int .u64 s.o] w fun e w' => e = .returned (.int .u64 (units8 s)) ∧ w = w' := by
  have c4 : w.cell? ⟨g, 4, none⟩ = some (.int .u64 (s.u.getD 0)) := hr.cell 4
  have c5 : w.cell? ⟨g, 5, none⟩ = some (.bool s.u.isSome) := hr.cell 5
  obtain ⟨u, p, o, bad⟩ := s
  clear hr
  dsimp only at *
  have hw : IntKind.u64.wrap ((o : Int) * 200000) = (o : Int) * 200000 := u64_in _ (by omega) (by omega)
  cases u with
  | none =>
    simp only [Option.getD_none, Option.isSome_none] at c4 c5
    rcases (show 1400000 < (o : Int) * 200000 ∨ (o : Int) * 200000 ≤ 1400000 by omega) with h | h
    · have HU : Hid (units8 ⟨none, p, o, bad⟩ = 1400000) := Lib.hid (by unfold units8; show (if (1400000 : Int) < (o : Int) * 200000 then (1400000 : Int) else (o : Int) * 200000) = 1400000; rw [if_pos h])
      go_enter Tryz.func71, Tryz.ntmps71
      go_wp2
      go_ret
      exact ⟨by rw [HU.out]; first | rfl | (show Ending.returned (.int .u64 (min ((o : Int) * 200000) 1400000)) = _; rw [Int.min_eq_right (by omega)]), rfl⟩
    · have HU : Hid (units8 ⟨none, p, o, bad⟩ = (o : Int) * 200000) := Lib.hid (by unfold units8; show (if (1400000 : Int) < (o : Int) * 200000 then (1400000 : Int) else (o : Int) * 200000) = (o : Int) * 200000; rw [if_neg (by omega)])
      go_enter Tryz.func71, Tryz.ntmps71
      go_wp2
      go_ret
      exact ⟨by rw [HU.out]; first | rfl | (show Ending.returned (.int .u64 (min ((o : Int) * 200000) 1400000)) = _; rw [Int.min_eq_left (by omega)]), rfl⟩
  | some v =>
    simp only [Option.getD_some, Option.isSome_some] at c4 c5
    rcases (show 1400000 < v ∨ v ≤ 1400000 by omega) with h | h
    · have HU : Hid (units8 ⟨some v, p, o, bad⟩ = 1400000) := Lib.hid (by unfold units8; show (if (1400000 : Int) < v then (1400000 : Int) else v) = 1400000; rw [if_pos h])
      go_enter Tryz.func71, Tryz.ntmps71
      go_wp2
      go_ret
      exact ⟨by rw [HU.out]; first | rfl | (show Ending.returned (.int .u64 (min (v) 1400000)) = _; rw [Int.min_eq_right (by omega)]), rfl⟩
    · have HU : Hid (units8 ⟨some v, p, o, bad⟩ = v) := Lib.hid (by unfold units8; show (if (1400000 : Int) < v then (1400000 : Int) else v) = v; rw [if_neg (by omega)])
      go_enter Tryz.func71, Tryz.ntmps71
      go_wp2
      go_ret
      exact ⟨by rw [HU.out]; first | rfl | (show Ending.returned (.int .u64 (min (v) 1400000)) = _; rw [Int.min_eq_left (by omega)]), rfl⟩
/-- what take leaves -/
def TakeDone (w : World) (g : Nat) (d : List Int) (s : BS) (e : Ending) (w' : World) : Prop :=
  e = .returned (.bool (tell d s).isSome) ∧ Row w' g 129 (wcells ((tell d s).getD s)) ∧ Below g w w'
set_option maxRecDepth 100000 in
set_option maxHeartbeats 4000000 in
theorem take_ (s : BS) (d : List Int) (A : Option Addr) (n c B g : Nat) (w : World) (hr : Row w g 129 (wcells s)) (hs : Sees w B A n (bv d)) (hd : AllBytes d) (hn : n ≤ c ∧ c ≤ maxLen) (hl : LenAt w) :
    Calls Tryz.prog 70 #[.pointer (some ⟨g, 0, none⟩), .slice A n c] w (TakeDone w g d s) := by
  unfold TakeDone
  have hdl : d.length = n := by have := hs.len; rwa [bv_length] at this
  have HR := Lib.hid hr
  have HL : Hid (LenAt w.drew) := Lib.hid (hl.keep fun _ _ => rfl)
  clear hr hl
  cases d with
  | nil =>
    obtain rfl : n = 0 := hdl.symm
    have HT : Hid (tell [] s = none) := Lib.hid (by unfold tell; rw [if_neg (fun h => absurd h.1 (by decide)), if_neg (fun h => absurd h.1 (by decide))])
    clear hs hd hdl hn
    go_enter Tryz.func70, Tryz.ntmps70
    go_wp2
    go_ret
    exact ⟨by rw [HT.out]; rfl, by rw [HT.out]; exact HR.out, Below.refl g w⟩
  | cons z r =>
    obtain ⟨N, hN1⟩ : ∃ N, n = N + 1 := ⟨r.length, by rw [← hdl]; rfl⟩
    have HN1 : Hid (n - 1 = N) := Lib.hid (by omega)
    have HRL : Hid (r.length = N) := Lib.hid (by rw [List.length_cons] at hdl; omega)
    have HBR := Lib.hid (bytes_all (fun y hy => hd y (List.mem_cons_of_mem _ hy)))
    have HTS : Hid (Sees w B (tailAt A c 1) N (bv r)) := Lib.hid (by have h := hs.tail (k := 1) (by omega) hn.1; rw [HN1.out] at h; exact h)
    obtain ⟨hz0, hz1⟩ := hd z (List.mem_cons_self ..)
    obtain ⟨a, rfl, hab, hc⟩ := hs.byte (k := 0) (by omega)
    have ea : a.add 0 = a := by simp [Addr.add]
    have c0 : w.cell? a = some (.int .u8 z) := by rw [ea] at hc; exact hc
    have HNC := Lib.hid hn.1
    have HCM := Lib.hid hn.2
    have HNM : Hid (N + 1 ≤ maxLen) := Lib.hid (hN1 ▸ Nat.le_trans hn.1 hn.2)
    have C0 := Lib.hid (show w.drew.cell? a = some (.int .u8 z) from c0)
    have en : ((n : Int) == 0) = false := by simp only [beq_eq_false_iff_ne]; omega
    have en2 : (n == 0) = false := by simp only [beq_eq_false_iff_ne]; omega
    have hnp : 0 < n := by omega
    have HN2 := Lib.hid hN1
    clear hs hd hdl hn hab ea hN1
    by_cases h4 : 4 ≤ z
    · have HT : Hid (tell (z :: r) s = none) := Lib.hid (by
        unfold tell
        rw [if_neg (fun h => by have h2 : z = 2 := h.2.1; omega), if_neg (fun h => by have h2 : z = 3 := h.2.1; omega)])
      have h4' : decide (4 ≤ z) = true := decide_eq_true h4
      clear HTS
      go_enter Tryz.func70, Tryz.ntmps70
      go_wp2
      go_ret
      exact ⟨by rw [HT.out]; rfl, by rw [HT.out]; exact HR.out, Below.refl g w⟩
    · rcases (show z = 0 ∨ z = 1 ∨ z = 2 ∨ z = 3 by omega) with rfl | rfl | rfl | rfl
      · clear h4 hz0 hz1
        have L8 : w.drew.cell? ⟨0, 0, none⟩ = some (.int .i64 0) := HL.out.c0
        have ci : w.drew.cell? ⟨g, 1, none⟩ = some (.bool false) := HR.out.drew.cell 1
        have HT : Hid (tell (0 :: r) s = none) := Lib.hid (by unfold tell; rw [if_neg (fun h => absurd (show (0 : Int) = 2 from h.2.1) (by decide)), if_neg (fun h => absurd (show (0 : Int) = 3 from h.2.1) (by decide))])
        by_cases hN : N = 0
        · subst hN
          have HG : Hid (Calls Tryz.prog 120 #[.slice (tailAt (some a) c 1) 0 (c - 1), .int .i64 0] w.drew fun e w' => e = .returned (.tuple #[.int .u64 0, .int .i64 1]) ∧ w.drew = w') := Lib.hid (getMany _ 0 _ r 0 _ _ HTS.out.drew (Nat.le_trans (by omega) HNM.out) HBR.out)
          clear HTS
          go_enter Tryz.func70, Tryz.ntmps70
          go_upto_region 3 with fail
          refine wp_region_held_drew (S := (fun V => V.cell? a = some (.int .u8 0) ∧ True)) (by kernel_rfl) ⟨C0.out, trivial⟩ (fun _ => ?_)
          refine takeL (i := 0) (v := ?_) rfl (by kernel_rfl) (by kernel_rfl) (by kernel_rfl) (fun _ _ _ h => h) (Or.inl ⟨by rfl, ?_⟩) ⟨C0.out, trivial⟩ ?_
          rotate_left
          · intro w hw
            try dsimp only at hw
            obtain ⟨q0, q1⟩ := hw
            go_simp
            try with_reducible rfl
          try simp only [Act.put, List.setIfInBounds_toArray, List.set_cons_zero, List.set_cons_succ]
          refine takeL (i := 1) (v := ?_) rfl (by kernel_rfl) (by kernel_rfl) (by kernel_rfl) (fun _ _ _ h => h) (Or.inl ⟨by rfl, ?_⟩) ⟨C0.out, trivial⟩ ?_
          rotate_left
          · intro w hw
            try dsimp only at hw
            obtain ⟨q0, q1⟩ := hw
            go_simp
            try with_reducible rfl
          try simp only [Act.put, List.setIfInBounds_toArray, List.set_cons_zero, List.set_cons_succ]
          refine takeL (i := 2) (v := ?_) rfl (by kernel_rfl) (by kernel_rfl) (by kernel_rfl) (fun _ _ _ h => h) (Or.inl ⟨by rfl, ?_⟩) ⟨C0.out, trivial⟩ ?_
          rotate_left
          · intro w hw
            try dsimp only at hw
            obtain ⟨q0, q1⟩ := hw
            go_simp
            try with_reducible rfl
          try simp only [Act.put, List.setIfInBounds_toArray, List.set_cons_zero, List.set_cons_succ]
          refine takeL (i := 3) (v := ?_) rfl (by kernel_rfl) (by kernel_rfl) (by kernel_rfl) (fun _ _ _ h => h) (Or.inl ⟨by rfl, ?_⟩) ⟨C0.out, trivial⟩ ?_
          rotate_left
          · intro w hw
            try dsimp only at hw
            obtain ⟨q0, q1⟩ := hw
            go_simp
            try with_reducible rfl
          try simp only [Act.put, List.setIfInBounds_toArray, List.set_cons_zero, List.set_cons_succ]
          refine takeL (i := 4) (v := .slice (tailAt (some a) c 1) (n - 1) (c - 1)) rfl (by kernel_rfl) (by kernel_rfl) (by kernel_rfl) (fun _ _ _ h => h) (Or.inl ⟨by rfl, fun wz hwz => run_tail 22 5 (.tmp 21) (.const (.int .i64 1)) rfl Tryz.underlying22 size_b8 (some a) n c 1 (by go_simp) (by go_simp) (by have := HN2.out; omega) HNC.out HCM.out⟩) ⟨C0.out, trivial⟩ ?_
          try simp only [Act.put, List.setIfInBounds_toArray, List.set_cons_zero, List.set_cons_succ]
          simp only [HN1.out]
          refine takeL (i := 5) (v := ?_) rfl (by kernel_rfl) (by kernel_rfl) (by kernel_rfl) (fun _ _ _ h => h) (Or.inl ⟨by rfl, ?_⟩) ⟨C0.out, trivial⟩ ?_
          rotate_left
          · intro w hw
            try dsimp only at hw
            obtain ⟨q0, q1⟩ := hw
            go_simp
            try with_reducible rfl
          try simp only [Act.put, List.setIfInBounds_toArray, List.set_cons_zero, List.set_cons_succ]
          refine takeL (i := 6) (v := ?_) rfl (by kernel_rfl) (by kernel_rfl) (by kernel_rfl) (fun _ _ _ h => h) (Or.inl ⟨by rfl, ?_⟩) ⟨C0.out, trivial⟩ ?_
          rotate_left
          · intro w hw
            try dsimp only at hw
            obtain ⟨q0, q1⟩ := hw
            go_simp
            try with_reducible rfl
          try simp only [Act.put, List.setIfInBounds_toArray, List.set_cons_zero, List.set_cons_succ]
          refine wpAnyH_done (by kernel_rfl) ?_ _
          go_wp2_with fail
          refine HG.out.mono ?_
          rintro e w1 ⟨rfl, rfl⟩
          go_wp2_with (first
            | ((with_reducible show wpList _ _ _ ({ dst := some 50, op := Op.build _ _, type := _, pos := _, after := _, guard := _ } :: _) _ _); go_must (refine wpList_plain rfl fun K hK => wp_built _ _ _ rfl (by simp only [List.map_toArray, List.map_cons, List.map_nil]; exact built_told 0 false) (hK _ _ ?_)))
            | ((with_reducible show wpList _ _ _ ({ dst := none, op := Op.store 127 _ _, type := _, pos := _, after := _, guard := _ } :: _) _ _); go_must (refine wpList_store_part rfl 127 (.tmp 52) (.tmp 50) rfl g 129 0 _ [.int .u64 0, .bool false] HR.out.drew (size_told _ _) (by show 0 + 2 ≤ 8; omega) (told_one _ _) ?_ ?_ ?_; go_simp; go_simp; intro w2 hr2 ht2; have HR2 := Lib.hid hr2; have HT2 := Lib.hid ht2; have cn : w2.cell? ⟨g, 1, none⟩ = some (.bool false) := hr2.cell 1; clear hr2 ht2)))
          go_ret
          exact ⟨by rw [HT.out]; rfl, by rw [HT.out]; exact HR2.out, (Below.refl g w).drew.trans (HT2.out.below (Nat.le_refl g))⟩
        · have eN : ¬ (N : Int) = 0 := by omega
          clear HTS
          go_enter Tryz.func70, Tryz.ntmps70
          go_upto_region 3 with fail
          refine wp_region_held_drew (S := (fun V => V.cell? a = some (.int .u8 0) ∧ True)) (by kernel_rfl) ⟨C0.out, trivial⟩ (fun _ => ?_)
          refine takeL (i := 0) (v := ?_) rfl (by kernel_rfl) (by kernel_rfl) (by kernel_rfl) (fun _ _ _ h => h) (Or.inl ⟨by rfl, ?_⟩) ⟨C0.out, trivial⟩ ?_
          rotate_left
          · intro w hw
            try dsimp only at hw
            obtain ⟨q0, q1⟩ := hw
            go_simp
            try with_reducible rfl
          try simp only [Act.put, List.setIfInBounds_toArray, List.set_cons_zero, List.set_cons_succ]
          refine takeL (i := 1) (v := ?_) rfl (by kernel_rfl) (by kernel_rfl) (by kernel_rfl) (fun _ _ _ h => h) (Or.inl ⟨by rfl, ?_⟩) ⟨C0.out, trivial⟩ ?_
          rotate_left
          · intro w hw
            try dsimp only at hw
            obtain ⟨q0, q1⟩ := hw
            go_simp
            try with_reducible rfl
          try simp only [Act.put, List.setIfInBounds_toArray, List.set_cons_zero, List.set_cons_succ]
          refine takeL (i := 2) (v := ?_) rfl (by kernel_rfl) (by kernel_rfl) (by kernel_rfl) (fun _ _ _ h => h) (Or.inl ⟨by rfl, ?_⟩) ⟨C0.out, trivial⟩ ?_
          rotate_left
          · intro w hw
            try dsimp only at hw
            obtain ⟨q0, q1⟩ := hw
            go_simp
            try with_reducible rfl
          try simp only [Act.put, List.setIfInBounds_toArray, List.set_cons_zero, List.set_cons_succ]
          refine takeL (i := 3) (v := ?_) rfl (by kernel_rfl) (by kernel_rfl) (by kernel_rfl) (fun _ _ _ h => h) (Or.inl ⟨by rfl, ?_⟩) ⟨C0.out, trivial⟩ ?_
          rotate_left
          · intro w hw
            try dsimp only at hw
            obtain ⟨q0, q1⟩ := hw
            go_simp
            try with_reducible rfl
          try simp only [Act.put, List.setIfInBounds_toArray, List.set_cons_zero, List.set_cons_succ]
          refine takeL (i := 4) (v := .slice (tailAt (some a) c 1) (n - 1) (c - 1)) rfl (by kernel_rfl) (by kernel_rfl) (by kernel_rfl) (fun _ _ _ h => h) (Or.inl ⟨by rfl, fun wz hwz => run_tail 22 5 (.tmp 21) (.const (.int .i64 1)) rfl Tryz.underlying22 size_b8 (some a) n c 1 (by go_simp) (by go_simp) (by have := HN2.out; omega) HNC.out HCM.out⟩) ⟨C0.out, trivial⟩ ?_
          try simp only [Act.put, List.setIfInBounds_toArray, List.set_cons_zero, List.set_cons_succ]
          simp only [HN1.out]
          refine takeL (i := 5) (v := ?_) rfl (by kernel_rfl) (by kernel_rfl) (by kernel_rfl) (fun _ _ _ h => h) (Or.inl ⟨by rfl, ?_⟩) ⟨C0.out, trivial⟩ ?_
          rotate_left
          · intro w hw
            try dsimp only at hw
            obtain ⟨q0, q1⟩ := hw
            go_simp
            try with_reducible rfl
          try simp only [Act.put, List.setIfInBounds_toArray, List.set_cons_zero, List.set_cons_succ]
          refine takeL (i := 6) (v := ?_) rfl (by kernel_rfl) (by kernel_rfl) (by kernel_rfl) (fun _ _ _ h => h) (Or.inl ⟨by rfl, ?_⟩) ⟨C0.out, trivial⟩ ?_
          rotate_left
          · intro w hw
            try dsimp only at hw
            obtain ⟨q0, q1⟩ := hw
            go_simp
            try with_reducible rfl
          try simp only [Act.put, List.setIfInBounds_toArray, List.set_cons_zero, List.set_cons_succ]
          refine wpAnyH_done (by kernel_rfl) ?_ _
          go_wp2_with fail
          go_ret
          exact ⟨by rw [HT.out]; rfl, by rw [HT.out]; exact HR.out.drew, (Below.refl g w).drew⟩
      · clear h4 hz0 hz1
        have L8 : w.drew.cell? ⟨0, 1, none⟩ = some (.int .i64 0) := HL.out.c1
        have ci : w.drew.cell? ⟨g, 3, none⟩ = some (.bool false) := HR.out.drew.cell 3
        have HT : Hid (tell (1 :: r) s = none) := Lib.hid (by unfold tell; rw [if_neg (fun h => absurd (show (1 : Int) = 2 from h.2.1) (by decide)), if_neg (fun h => absurd (show (1 : Int) = 3 from h.2.1) (by decide))])
        by_cases hN : N = 0
        · subst hN
          have HG : Hid (Calls Tryz.prog 120 #[.slice (tailAt (some a) c 1) 0 (c - 1), .int .i64 0] w.drew fun e w' => e = .returned (.tuple #[.int .u64 0, .int .i64 1]) ∧ w.drew = w') := Lib.hid (getMany _ 0 _ r 0 _ _ HTS.out.drew (Nat.le_trans (by omega) HNM.out) HBR.out)
          clear HTS
          go_enter Tryz.func70, Tryz.ntmps70
          go_upto_region 3 with fail
          refine wp_region_held_drew (S := (fun V => V.cell? a = some (.int .u8 1) ∧ True)) (by kernel_rfl) ⟨C0.out, trivial⟩ (fun _ => ?_)
          refine takeL (i := 0) (v := ?_) rfl (by kernel_rfl) (by kernel_rfl) (by kernel_rfl) (fun _ _ _ h => h) (Or.inl ⟨by rfl, ?_⟩) ⟨C0.out, trivial⟩ ?_
          rotate_left
          · intro w hw
            try dsimp only at hw
            obtain ⟨q0, q1⟩ := hw
            go_simp
            try with_reducible rfl
          try simp only [Act.put, List.setIfInBounds_toArray, List.set_cons_zero, List.set_cons_succ]
          refine takeL (i := 1) (v := ?_) rfl (by kernel_rfl) (by kernel_rfl) (by kernel_rfl) (fun _ _ _ h => h) (Or.inl ⟨by rfl, ?_⟩) ⟨C0.out, trivial⟩ ?_
          rotate_left
          · intro w hw
            try dsimp only at hw
            obtain ⟨q0, q1⟩ := hw
            go_simp
            try with_reducible rfl
          try simp only [Act.put, List.setIfInBounds_toArray, List.set_cons_zero, List.set_cons_succ]
          refine takeL (i := 2) (v := ?_) rfl (by kernel_rfl) (by kernel_rfl) (by kernel_rfl) (fun _ _ _ h => h) (Or.inl ⟨by rfl, ?_⟩) ⟨C0.out, trivial⟩ ?_
          rotate_left
          · intro w hw
            try dsimp only at hw
            obtain ⟨q0, q1⟩ := hw
            go_simp
            try with_reducible rfl
          try simp only [Act.put, List.setIfInBounds_toArray, List.set_cons_zero, List.set_cons_succ]
          refine takeL (i := 3) (v := ?_) rfl (by kernel_rfl) (by kernel_rfl) (by kernel_rfl) (fun _ _ _ h => h) (Or.inl ⟨by rfl, ?_⟩) ⟨C0.out, trivial⟩ ?_
          rotate_left
          · intro w hw
            try dsimp only at hw
            obtain ⟨q0, q1⟩ := hw
            go_simp
            try with_reducible rfl
          try simp only [Act.put, List.setIfInBounds_toArray, List.set_cons_zero, List.set_cons_succ]
          refine takeL (i := 4) (v := .slice (tailAt (some a) c 1) (n - 1) (c - 1)) rfl (by kernel_rfl) (by kernel_rfl) (by kernel_rfl) (fun _ _ _ h => h) (Or.inl ⟨by rfl, fun wz hwz => run_tail 22 5 (.tmp 21) (.const (.int .i64 1)) rfl Tryz.underlying22 size_b8 (some a) n c 1 (by go_simp) (by go_simp) (by have := HN2.out; omega) HNC.out HCM.out⟩) ⟨C0.out, trivial⟩ ?_
          try simp only [Act.put, List.setIfInBounds_toArray, List.set_cons_zero, List.set_cons_succ]
          simp only [HN1.out]
          refine takeL (i := 5) (v := ?_) rfl (by kernel_rfl) (by kernel_rfl) (by kernel_rfl) (fun _ _ _ h => h) (Or.inl ⟨by rfl, ?_⟩) ⟨C0.out, trivial⟩ ?_
          rotate_left
          · intro w hw
            try dsimp only at hw
            obtain ⟨q0, q1⟩ := hw
            go_simp
            try with_reducible rfl
          try simp only [Act.put, List.setIfInBounds_toArray, List.set_cons_zero, List.set_cons_succ]
          refine takeL (i := 6) (v := ?_) rfl (by kernel_rfl) (by kernel_rfl) (by kernel_rfl) (fun _ _ _ h => h) (Or.inl ⟨by rfl, ?_⟩) ⟨C0.out, trivial⟩ ?_
          rotate_left
          · intro w hw
            try dsimp only at hw
            obtain ⟨q0, q1⟩ := hw
            go_simp
            try with_reducible rfl
          try simp only [Act.put, List.setIfInBounds_toArray, List.set_cons_zero, List.set_cons_succ]
          refine wpAnyH_done (by kernel_rfl) ?_ _
          go_wp2_with fail
          refine HG.out.mono ?_
          rintro e w1 ⟨rfl, rfl⟩
          go_wp2_with (first
            | ((with_reducible show wpList _ _ _ ({ dst := some 50, op := Op.build _ _, type := _, pos := _, after := _, guard := _ } :: _) _ _); go_must (refine wpList_plain rfl fun K hK => wp_built _ _ _ rfl (by simp only [List.map_toArray, List.map_cons, List.map_nil]; exact built_told 0 false) (hK _ _ ?_)))
            | ((with_reducible show wpList _ _ _ ({ dst := none, op := Op.store 127 _ _, type := _, pos := _, after := _, guard := _ } :: _) _ _); go_must (refine wpList_store_part rfl 127 (.tmp 52) (.tmp 50) rfl g 129 2 _ [.int .u64 0, .bool false] HR.out.drew (size_told _ _) (by show 2 + 2 ≤ 8; omega) (told_one _ _) ?_ ?_ ?_; go_simp; go_simp; intro w2 hr2 ht2; have HR2 := Lib.hid hr2; have HT2 := Lib.hid ht2; have cn : w2.cell? ⟨g, 3, none⟩ = some (.bool false) := hr2.cell 3; clear hr2 ht2)))
          go_ret
          exact ⟨by rw [HT.out]; rfl, by rw [HT.out]; exact HR2.out, (Below.refl g w).drew.trans (HT2.out.below (Nat.le_refl g))⟩
        · have eN : ¬ (N : Int) = 0 := by omega
          clear HTS
          go_enter Tryz.func70, Tryz.ntmps70
          go_upto_region 3 with fail
          refine wp_region_held_drew (S := (fun V => V.cell? a = some (.int .u8 1) ∧ True)) (by kernel_rfl) ⟨C0.out, trivial⟩ (fun _ => ?_)
          refine takeL (i := 0) (v := ?_) rfl (by kernel_rfl) (by kernel_rfl) (by kernel_rfl) (fun _ _ _ h => h) (Or.inl ⟨by rfl, ?_⟩) ⟨C0.out, trivial⟩ ?_
          rotate_left
          · intro w hw
            try dsimp only at hw
            obtain ⟨q0, q1⟩ := hw
            go_simp
            try with_reducible rfl
          try simp only [Act.put, List.setIfInBounds_toArray, List.set_cons_zero, List.set_cons_succ]
          refine takeL (i := 1) (v := ?_) rfl (by kernel_rfl) (by kernel_rfl) (by kernel_rfl) (fun _ _ _ h => h) (Or.inl ⟨by rfl, ?_⟩) ⟨C0.out, trivial⟩ ?_
          rotate_left
          · intro w hw
            try dsimp only at hw
            obtain ⟨q0, q1⟩ := hw
            go_simp
            try with_reducible rfl
          try simp only [Act.put, List.setIfInBounds_toArray, List.set_cons_zero, List.set_cons_succ]
          refine takeL (i := 2) (v := ?_) rfl (by kernel_rfl) (by kernel_rfl) (by kernel_rfl) (fun _ _ _ h => h) (Or.inl ⟨by rfl, ?_⟩) ⟨C0.out, trivial⟩ ?_
          rotate_left
          · intro w hw
            try dsimp only at hw
            obtain ⟨q0, q1⟩ := hw
            go_simp
            try with_reducible rfl
          try simp only [Act.put, List.setIfInBounds_toArray, List.set_cons_zero, List.set_cons_succ]
          refine takeL (i := 3) (v := ?_) rfl (by kernel_rfl) (by kernel_rfl) (by kernel_rfl) (fun _ _ _ h => h) (Or.inl ⟨by rfl, ?_⟩) ⟨C0.out, trivial⟩ ?_
          rotate_left
          · intro w hw
            try dsimp only at hw
            obtain ⟨q0, q1⟩ := hw
            go_simp
            try with_reducible rfl
          try simp only [Act.put, List.setIfInBounds_toArray, List.set_cons_zero, List.set_cons_succ]
          refine takeL (i := 4) (v := .slice (tailAt (some a) c 1) (n - 1) (c - 1)) rfl (by kernel_rfl) (by kernel_rfl) (by kernel_rfl) (fun _ _ _ h => h) (Or.inl ⟨by rfl, fun wz hwz => run_tail 22 5 (.tmp 21) (.const (.int .i64 1)) rfl Tryz.underlying22 size_b8 (some a) n c 1 (by go_simp) (by go_simp) (by have := HN2.out; omega) HNC.out HCM.out⟩) ⟨C0.out, trivial⟩ ?_
          try simp only [Act.put, List.setIfInBounds_toArray, List.set_cons_zero, List.set_cons_succ]
          simp only [HN1.out]
          refine takeL (i := 5) (v := ?_) rfl (by kernel_rfl) (by kernel_rfl) (by kernel_rfl) (fun _ _ _ h => h) (Or.inl ⟨by rfl, ?_⟩) ⟨C0.out, trivial⟩ ?_
          rotate_left
          · intro w hw
            try dsimp only at hw
            obtain ⟨q0, q1⟩ := hw
            go_simp
            try with_reducible rfl
          try simp only [Act.put, List.setIfInBounds_toArray, List.set_cons_zero, List.set_cons_succ]
          refine takeL (i := 6) (v := ?_) rfl (by kernel_rfl) (by kernel_rfl) (by kernel_rfl) (fun _ _ _ h => h) (Or.inl ⟨by rfl, ?_⟩) ⟨C0.out, trivial⟩ ?_
          rotate_left
          · intro w hw
            try dsimp only at hw
            obtain ⟨q0, q1⟩ := hw
            go_simp
            try with_reducible rfl
          try simp only [Act.put, List.setIfInBounds_toArray, List.set_cons_zero, List.set_cons_succ]
          refine wpAnyH_done (by kernel_rfl) ?_ _
          go_wp2_with fail
          go_ret
          exact ⟨by rw [HT.out]; rfl, by rw [HT.out]; exact HR.out.drew, (Below.refl g w).drew⟩
      · clear h4 hz0 hz1
        have L8 : w.drew.cell? ⟨0, 2, none⟩ = some (.int .i64 4) := HL.out.c2
        have ci : w.drew.cell? ⟨g, 5, none⟩ = some (.bool s.u.isSome) := HR.out.drew.cell 5
        by_cases hN : N = 4
        · subst hN
          cases hu : s.u with
          | some v =>
            have HT : Hid (tell (2 :: r) s = none) := Lib.hid (by unfold tell; rw [if_neg (fun h => by rw [hu] at h; exact absurd h.2.2 (by simp)), if_neg (fun h => absurd (show (2 : Int) = 3 from h.2.1) (by decide))])
            have cb : w.drew.cell? ⟨g, 5, none⟩ = some (.bool true) := by rw [ci, hu]; rfl
            clear ci HTS hu
            go_enter Tryz.func70, Tryz.ntmps70
            go_upto_region 3 with fail
            refine wp_region_held_drew (S := (fun V => V.cell? a = some (.int .u8 2) ∧ True)) (by kernel_rfl) ⟨C0.out, trivial⟩ (fun _ => ?_)
            refine takeL (i := 0) (v := ?_) rfl (by kernel_rfl) (by kernel_rfl) (by kernel_rfl) (fun _ _ _ h => h) (Or.inl ⟨by rfl, ?_⟩) ⟨C0.out, trivial⟩ ?_
            rotate_left
            · intro w hw
              try dsimp only at hw
              obtain ⟨q0, q1⟩ := hw
              go_simp
              try with_reducible rfl
            try simp only [Act.put, List.setIfInBounds_toArray, List.set_cons_zero, List.set_cons_succ]
            refine takeL (i := 1) (v := ?_) rfl (by kernel_rfl) (by kernel_rfl) (by kernel_rfl) (fun _ _ _ h => h) (Or.inl ⟨by rfl, ?_⟩) ⟨C0.out, trivial⟩ ?_
            rotate_left
            · intro w hw
              try dsimp only at hw
              obtain ⟨q0, q1⟩ := hw
              go_simp
              try with_reducible rfl
            try simp only [Act.put, List.setIfInBounds_toArray, List.set_cons_zero, List.set_cons_succ]
            refine takeL (i := 2) (v := ?_) rfl (by kernel_rfl) (by kernel_rfl) (by kernel_rfl) (fun _ _ _ h => h) (Or.inl ⟨by rfl, ?_⟩) ⟨C0.out, trivial⟩ ?_
            rotate_left
            · intro w hw
              try dsimp only at hw
              obtain ⟨q0, q1⟩ := hw
              go_simp
              try with_reducible rfl
            try simp only [Act.put, List.setIfInBounds_toArray, List.set_cons_zero, List.set_cons_succ]
            refine takeL (i := 3) (v := ?_) rfl (by kernel_rfl) (by kernel_rfl) (by kernel_rfl) (fun _ _ _ h => h) (Or.inl ⟨by rfl, ?_⟩) ⟨C0.out, trivial⟩ ?_
            rotate_left
            · intro w hw
              try dsimp only at hw
              obtain ⟨q0, q1⟩ := hw
              go_simp
              try with_reducible rfl
            try simp only [Act.put, List.setIfInBounds_toArray, List.set_cons_zero, List.set_cons_succ]
            refine takeL (i := 4) (v := .slice (tailAt (some a) c 1) (n - 1) (c - 1)) rfl (by kernel_rfl) (by kernel_rfl) (by kernel_rfl) (fun _ _ _ h => h) (Or.inl ⟨by rfl, fun wz hwz => run_tail 22 5 (.tmp 21) (.const (.int .i64 1)) rfl Tryz.underlying22 size_b8 (some a) n c 1 (by go_simp) (by go_simp) (by have := HN2.out; omega) HNC.out HCM.out⟩) ⟨C0.out, trivial⟩ ?_
            try simp only [Act.put, List.setIfInBounds_toArray, List.set_cons_zero, List.set_cons_succ]
            simp only [HN1.out]
            refine takeL (i := 5) (v := ?_) rfl (by kernel_rfl) (by kernel_rfl) (by kernel_rfl) (fun _ _ _ h => h) (Or.inl ⟨by rfl, ?_⟩) ⟨C0.out, trivial⟩ ?_
            rotate_left
            · intro w hw
              try dsimp only at hw
              obtain ⟨q0, q1⟩ := hw
              go_simp
              try with_reducible rfl
            try simp only [Act.put, List.setIfInBounds_toArray, List.set_cons_zero, List.set_cons_succ]
            refine takeL (i := 6) (v := ?_) rfl (by kernel_rfl) (by kernel_rfl) (by kernel_rfl) (fun _ _ _ h => h) (Or.inl ⟨by rfl, ?_⟩) ⟨C0.out, trivial⟩ ?_
            rotate_left
            · intro w hw
              try dsimp only at hw
              obtain ⟨q0, q1⟩ := hw
              go_simp
              try with_reducible rfl
            try simp only [Act.put, List.setIfInBounds_toArray, List.set_cons_zero, List.set_cons_succ]
            refine wpAnyH_done (by kernel_rfl) ?_ _
            go_wp2_with fail
            go_ret
            exact ⟨by rw [HT.out]; rfl, by rw [HT.out]; exact HR.out.drew, (Below.refl g w).drew⟩
          | none =>
            have HU := Lib.hid hu
            have HT : Hid (tell (2 :: r) s = some ⟨some (num r 4), s.p, s.o, s.bad⟩) := Lib.hid (by unfold tell; rw [if_pos ⟨by rw [List.length_cons, HRL.out], rfl, HU.out⟩]; rfl)
            have cb : w.drew.cell? ⟨g, 5, none⟩ = some (.bool false) := by rw [ci, hu]; rfl
            have HG : Hid (Calls Tryz.prog 120 #[.slice (tailAt (some a) c 1) 4 (c - 1), .int .i64 4] w.drew fun e w' => e = .returned (.tuple #[.int .u64 (num r 4), .int .i64 0]) ∧ w.drew = w') := Lib.hid (by
              have h := getMany (tailAt (some a) c 1) 4 (c - 1) r 4 w.drew B HTS.out.drew (Nat.le_trans (by omega) HNM.out) HBR.out
              have e : getN r 4 = (num r 4, 0) := by unfold getN; rw [if_neg (by omega), if_neg (by rw [HRL.out]; omega)]; rfl
              rw [e] at h
              exact h)
            clear ci HTS hu
            go_enter Tryz.func70, Tryz.ntmps70
            go_upto_region 3 with fail
            refine wp_region_held_drew (S := (fun V => V.cell? a = some (.int .u8 2) ∧ True)) (by kernel_rfl) ⟨C0.out, trivial⟩ (fun _ => ?_)
            refine takeL (i := 0) (v := ?_) rfl (by kernel_rfl) (by kernel_rfl) (by kernel_rfl) (fun _ _ _ h => h) (Or.inl ⟨by rfl, ?_⟩) ⟨C0.out, trivial⟩ ?_
            rotate_left
            · intro w hw
              try dsimp only at hw
              obtain ⟨q0, q1⟩ := hw
              go_simp
              try with_reducible rfl
            try simp only [Act.put, List.setIfInBounds_toArray, List.set_cons_zero, List.set_cons_succ]
            refine takeL (i := 1) (v := ?_) rfl (by kernel_rfl) (by kernel_rfl) (by kernel_rfl) (fun _ _ _ h => h) (Or.inl ⟨by rfl, ?_⟩) ⟨C0.out, trivial⟩ ?_
            rotate_left
            · intro w hw
              try dsimp only at hw
              obtain ⟨q0, q1⟩ := hw
              go_simp
              try with_reducible rfl
            try simp only [Act.put, List.setIfInBounds_toArray, List.set_cons_zero, List.set_cons_succ]
            refine takeL (i := 2) (v := ?_) rfl (by kernel_rfl) (by kernel_rfl) (by kernel_rfl) (fun _ _ _ h => h) (Or.inl ⟨by rfl, ?_⟩) ⟨C0.out, trivial⟩ ?_
            rotate_left
            · intro w hw
              try dsimp only at hw
              obtain ⟨q0, q1⟩ := hw
              go_simp
              try with_reducible rfl
            try simp only [Act.put, List.setIfInBounds_toArray, List.set_cons_zero, List.set_cons_succ]
            refine takeL (i := 3) (v := ?_) rfl (by kernel_rfl) (by kernel_rfl) (by kernel_rfl) (fun _ _ _ h => h) (Or.inl ⟨by rfl, ?_⟩) ⟨C0.out, trivial⟩ ?_
            rotate_left
            · intro w hw
              try dsimp only at hw
              obtain ⟨q0, q1⟩ := hw
              go_simp
              try with_reducible rfl
            try simp only [Act.put, List.setIfInBounds_toArray, List.set_cons_zero, List.set_cons_succ]
            refine takeL (i := 4) (v := .slice (tailAt (some a) c 1) (n - 1) (c - 1)) rfl (by kernel_rfl) (by kernel_rfl) (by kernel_rfl) (fun _ _ _ h => h) (Or.inl ⟨by rfl, fun wz hwz => run_tail 22 5 (.tmp 21) (.const (.int .i64 1)) rfl Tryz.underlying22 size_b8 (some a) n c 1 (by go_simp) (by go_simp) (by have := HN2.out; omega) HNC.out HCM.out⟩) ⟨C0.out, trivial⟩ ?_
            try simp only [Act.put, List.setIfInBounds_toArray, List.set_cons_zero, List.set_cons_succ]
            simp only [HN1.out]
            refine takeL (i := 5) (v := ?_) rfl (by kernel_rfl) (by kernel_rfl) (by kernel_rfl) (fun _ _ _ h => h) (Or.inl ⟨by rfl, ?_⟩) ⟨C0.out, trivial⟩ ?_
            rotate_left
            · intro w hw
              try dsimp only at hw
              obtain ⟨q0, q1⟩ := hw
              go_simp
              try with_reducible rfl
            try simp only [Act.put, List.setIfInBounds_toArray, List.set_cons_zero, List.set_cons_succ]
            refine takeL (i := 6) (v := ?_) rfl (by kernel_rfl) (by kernel_rfl) (by kernel_rfl) (fun _ _ _ h => h) (Or.inl ⟨by rfl, ?_⟩) ⟨C0.out, trivial⟩ ?_
            rotate_left
            · intro w hw
              try dsimp only at hw
              obtain ⟨q0, q1⟩ := hw
              go_simp
              try with_reducible rfl
            try simp only [Act.put, List.setIfInBounds_toArray, List.set_cons_zero, List.set_cons_succ]
            refine wpAnyH_done (by kernel_rfl) ?_ _
            go_wp2_with fail
            refine HG.out.mono ?_
            rintro e w1 ⟨rfl, rfl⟩
            go_wp2_with (first
              | ((with_reducible show wpList _ _ _ ({ dst := some 50, op := Op.build _ _, type := _, pos := _, after := _, guard := _ } :: _) _ _); go_must (refine wpList_plain rfl fun K hK => wp_built _ _ _ rfl (by simp only [List.map_toArray, List.map_cons, List.map_nil]; exact built_told (num r 4) true) (hK _ _ ?_)))
              | ((with_reducible show wpList _ _ _ ({ dst := none, op := Op.store 127 _ _, type := _, pos := _, after := _, guard := _ } :: _) _ _); go_must (refine wpList_store_part rfl 127 (.tmp 52) (.tmp 50) rfl g 129 4 _ [.int .u64 (num r 4), .bool true] HR.out.drew (size_told _ _) (by show 4 + 2 ≤ 8; omega) (told_one _ _) ?_ ?_ ?_; go_simp; go_simp; intro w2 hr2 ht2; have HR2 := Lib.hid hr2; have HT2 := Lib.hid ht2; have cn : w2.cell? ⟨g, 5, none⟩ = some (.bool true) := hr2.cell 5; clear hr2 ht2)))
            go_ret
            exact ⟨by rw [HT.out]; rfl, by rw [HT.out]; exact HR2.out, (Below.refl g w).drew.trans (HT2.out.below (Nat.le_refl g))⟩
        · have eN : ¬ (N : Int) = 4 := by omega
          have HT : Hid (tell (2 :: r) s = none) := Lib.hid (by unfold tell; rw [if_neg (fun h => by have := h.1; rw [List.length_cons, HRL.out] at this; omega), if_neg (fun h => absurd (show (2 : Int) = 3 from h.2.1) (by decide))])
          clear HTS hN
          go_enter Tryz.func70, Tryz.ntmps70
          go_upto_region 3 with fail
          refine wp_region_held_drew (S := (fun V => V.cell? a = some (.int .u8 2) ∧ True)) (by kernel_rfl) ⟨C0.out, trivial⟩ (fun _ => ?_)
          refine takeL (i := 0) (v := ?_) rfl (by kernel_rfl) (by kernel_rfl) (by kernel_rfl) (fun _ _ _ h => h) (Or.inl ⟨by rfl, ?_⟩) ⟨C0.out, trivial⟩ ?_
          rotate_left
          · intro w hw
            try dsimp only at hw
            obtain ⟨q0, q1⟩ := hw
            go_simp
            try with_reducible rfl
          try simp only [Act.put, List.setIfInBounds_toArray, List.set_cons_zero, List.set_cons_succ]
          refine takeL (i := 1) (v := ?_) rfl (by kernel_rfl) (by kernel_rfl) (by kernel_rfl) (fun _ _ _ h => h) (Or.inl ⟨by rfl, ?_⟩) ⟨C0.out, trivial⟩ ?_
          rotate_left
          · intro w hw
            try dsimp only at hw
            obtain ⟨q0, q1⟩ := hw
            go_simp
            try with_reducible rfl
          try simp only [Act.put, List.setIfInBounds_toArray, List.set_cons_zero, List.set_cons_succ]
          refine takeL (i := 2) (v := ?_) rfl (by kernel_rfl) (by kernel_rfl) (by kernel_rfl) (fun _ _ _ h => h) (Or.inl ⟨by rfl, ?_⟩) ⟨C0.out, trivial⟩ ?_
          rotate_left
          · intro w hw
            try dsimp only at hw
            obtain ⟨q0, q1⟩ := hw
            go_simp
            try with_reducible rfl
          try simp only [Act.put, List.setIfInBounds_toArray, List.set_cons_zero, List.set_cons_succ]
          refine takeL (i := 3) (v := ?_) rfl (by kernel_rfl) (by kernel_rfl) (by kernel_rfl) (fun _ _ _ h => h) (Or.inl ⟨by rfl, ?_⟩) ⟨C0.out, trivial⟩ ?_
          rotate_left
          · intro w hw
            try dsimp only at hw
            obtain ⟨q0, q1⟩ := hw
            go_simp
            try with_reducible rfl
          try simp only [Act.put, List.setIfInBounds_toArray, List.set_cons_zero, List.set_cons_succ]
          refine takeL (i := 4) (v := .slice (tailAt (some a) c 1) (n - 1) (c - 1)) rfl (by kernel_rfl) (by kernel_rfl) (by kernel_rfl) (fun _ _ _ h => h) (Or.inl ⟨by rfl, fun wz hwz => run_tail 22 5 (.tmp 21) (.const (.int .i64 1)) rfl Tryz.underlying22 size_b8 (some a) n c 1 (by go_simp) (by go_simp) (by have := HN2.out; omega) HNC.out HCM.out⟩) ⟨C0.out, trivial⟩ ?_
          try simp only [Act.put, List.setIfInBounds_toArray, List.set_cons_zero, List.set_cons_succ]
          simp only [HN1.out]
          refine takeL (i := 5) (v := ?_) rfl (by kernel_rfl) (by kernel_rfl) (by kernel_rfl) (fun _ _ _ h => h) (Or.inl ⟨by rfl, ?_⟩) ⟨C0.out, trivial⟩ ?_
          rotate_left
          · intro w hw
            try dsimp only at hw
            obtain ⟨q0, q1⟩ := hw
            go_simp
            try with_reducible rfl
          try simp only [Act.put, List.setIfInBounds_toArray, List.set_cons_zero, List.set_cons_succ]
          refine takeL (i := 6) (v := ?_) rfl (by kernel_rfl) (by kernel_rfl) (by kernel_rfl) (fun _ _ _ h => h) (Or.inl ⟨by rfl, ?_⟩) ⟨C0.out, trivial⟩ ?_
          rotate_left
          · intro w hw
            try dsimp only at hw
            obtain ⟨q0, q1⟩ := hw
            go_simp
            try with_reducible rfl
          try simp only [Act.put, List.setIfInBounds_toArray, List.set_cons_zero, List.set_cons_succ]
          refine wpAnyH_done (by kernel_rfl) ?_ _
          go_wp2_with fail
          go_ret
          exact ⟨by rw [HT.out]; rfl, by rw [HT.out]; exact HR.out.drew, (Below.refl g w).drew⟩
      · clear h4 hz0 hz1
        have L8 : w.drew.cell? ⟨0, 3, none⟩ = some (.int .i64 8) := HL.out.c3
        have ci : w.drew.cell? ⟨g, 7, none⟩ = some (.bool s.p.isSome) := HR.out.drew.cell 7
        by_cases hN : N = 8
        · subst hN
          cases hu : s.p with
          | some v =>
            have HT : Hid (tell (3 :: r) s = none) := Lib.hid (by unfold tell; rw [if_neg (fun h => absurd (show (3 : Int) = 2 from h.2.1) (by decide)), if_neg (fun h => by rw [hu] at h; exact absurd h.2.2 (by simp))])
            have cb : w.drew.cell? ⟨g, 7, none⟩ = some (.bool true) := by rw [ci, hu]; rfl
            clear ci HTS hu
            go_enter Tryz.func70, Tryz.ntmps70
            go_upto_region 3 with fail
            refine wp_region_held_drew (S := (fun V => V.cell? a = some (.int .u8 3) ∧ True)) (by kernel_rfl) ⟨C0.out, trivial⟩ (fun _ => ?_)
            refine takeL (i := 0) (v := ?_) rfl (by kernel_rfl) (by kernel_rfl) (by kernel_rfl) (fun _ _ _ h => h) (Or.inl ⟨by rfl, ?_⟩) ⟨C0.out, trivial⟩ ?_
            rotate_left
            · intro w hw
              try dsimp only at hw
              obtain ⟨q0, q1⟩ := hw
              go_simp
              try with_reducible rfl
            try simp only [Act.put, List.setIfInBounds_toArray, List.set_cons_zero, List.set_cons_succ]
            refine takeL (i := 1) (v := ?_) rfl (by kernel_rfl) (by kernel_rfl) (by kernel_rfl) (fun _ _ _ h => h) (Or.inl ⟨by rfl, ?_⟩) ⟨C0.out, trivial⟩ ?_
            rotate_left
            · intro w hw
              try dsimp only at hw
              obtain ⟨q0, q1⟩ := hw
              go_simp
              try with_reducible rfl
            try simp only [Act.put, List.setIfInBounds_toArray, List.set_cons_zero, List.set_cons_succ]
            refine takeL (i := 2) (v := ?_) rfl (by kernel_rfl) (by kernel_rfl) (by kernel_rfl) (fun _ _ _ h => h) (Or.inl ⟨by rfl, ?_⟩) ⟨C0.out, trivial⟩ ?_
            rotate_left
            · intro w hw
              try dsimp only at hw
              obtain ⟨q0, q1⟩ := hw
              go_simp
              try with_reducible rfl
            try simp only [Act.put, List.setIfInBounds_toArray, List.set_cons_zero, List.set_cons_succ]
            refine takeL (i := 3) (v := ?_) rfl (by kernel_rfl) (by kernel_rfl) (by kernel_rfl) (fun _ _ _ h => h) (Or.inl ⟨by rfl, ?_⟩) ⟨C0.out, trivial⟩ ?_
            rotate_left
            · intro w hw
              try dsimp only at hw
              obtain ⟨q0, q1⟩ := hw
              go_simp
              try with_reducible rfl
            try simp only [Act.put, List.setIfInBounds_toArray, List.set_cons_zero, List.set_cons_succ]
            refine takeL (i := 4) (v := .slice (tailAt (some a) c 1) (n - 1) (c - 1)) rfl (by kernel_rfl) (by kernel_rfl) (by kernel_rfl) (fun _ _ _ h => h) (Or.inl ⟨by rfl, fun wz hwz => run_tail 22 5 (.tmp 21) (.const (.int .i64 1)) rfl Tryz.underlying22 size_b8 (some a) n c 1 (by go_simp) (by go_simp) (by have := HN2.out; omega) HNC.out HCM.out⟩) ⟨C0.out, trivial⟩ ?_
            try simp only [Act.put, List.setIfInBounds_toArray, List.set_cons_zero, List.set_cons_succ]
            simp only [HN1.out]
            refine takeL (i := 5) (v := ?_) rfl (by kernel_rfl) (by kernel_rfl) (by kernel_rfl) (fun _ _ _ h => h) (Or.inl ⟨by rfl, ?_⟩) ⟨C0.out, trivial⟩ ?_
            rotate_left
            · intro w hw
              try dsimp only at hw
              obtain ⟨q0, q1⟩ := hw
              go_simp
              try with_reducible rfl
            try simp only [Act.put, List.setIfInBounds_toArray, List.set_cons_zero, List.set_cons_succ]
            refine takeL (i := 6) (v := ?_) rfl (by kernel_rfl) (by kernel_rfl) (by kernel_rfl) (fun _ _ _ h => h) (Or.inl ⟨by rfl, ?_⟩) ⟨C0.out, trivial⟩ ?_
            rotate_left
            · intro w hw
              try dsimp only at hw
              obtain ⟨q0, q1⟩ := hw
              go_simp
              try with_reducible rfl
            try simp only [Act.put, List.setIfInBounds_toArray, List.set_cons_zero, List.set_cons_succ]
            refine wpAnyH_done (by kernel_rfl) ?_ _
            go_wp2_with fail
            go_ret
            exact ⟨by rw [HT.out]; rfl, by rw [HT.out]; exact HR.out.drew, (Below.refl g w).drew⟩
          | none =>
            have HU := Lib.hid hu
            have HT : Hid (tell (3 :: r) s = some ⟨s.u, some (num r 8), s.o, s.bad⟩) := Lib.hid (by unfold tell; rw [if_neg (fun h => absurd (show (3 : Int) = 2 from h.2.1) (by decide)), if_pos ⟨by rw [List.length_cons, HRL.out], rfl, HU.out⟩]; rfl)
            have cb : w.drew.cell? ⟨g, 7, none⟩ = some (.bool false) := by rw [ci, hu]; rfl
            have HG : Hid (Calls Tryz.prog 120 #[.slice (tailAt (some a) c 1) 8 (c - 1), .int .i64 8] w.drew fun e w' => e = .returned (.tuple #[.int .u64 (num r 8), .int .i64 0]) ∧ w.drew = w') := Lib.hid (by
              have h := getMany (tailAt (some a) c 1) 8 (c - 1) r 8 w.drew B HTS.out.drew (Nat.le_trans (by omega) HNM.out) HBR.out
              have e : getN r 8 = (num r 8, 0) := by unfold getN; rw [if_neg (by omega), if_neg (by rw [HRL.out]; omega)]; rfl
              rw [e] at h
              exact h)
            clear ci HTS hu
            go_enter Tryz.func70, Tryz.ntmps70
            go_upto_region 3 with fail
            refine wp_region_held_drew (S := (fun V => V.cell? a = some (.int .u8 3) ∧ True)) (by kernel_rfl) ⟨C0.out, trivial⟩ (fun _ => ?_)
            refine takeL (i := 0) (v := ?_) rfl (by kernel_rfl) (by kernel_rfl) (by kernel_rfl) (fun _ _ _ h => h) (Or.inl ⟨by rfl, ?_⟩) ⟨C0.out, trivial⟩ ?_
            rotate_left
            · intro w hw
              try dsimp only at hw
              obtain ⟨q0, q1⟩ := hw
              go_simp
              try with_reducible rfl
            try simp only [Act.put, List.setIfInBounds_toArray, List.set_cons_zero, List.set_cons_succ]
            refine takeL (i := 1) (v := ?_) rfl (by kernel_rfl) (by kernel_rfl) (by kernel_rfl) (fun _ _ _ h => h) (Or.inl ⟨by rfl, ?_⟩) ⟨C0.out, trivial⟩ ?_
            rotate_left
            · intro w hw
              try dsimp only at hw
              obtain ⟨q0, q1⟩ := hw
              go_simp
              try with_reducible rfl
            try simp only [Act.put, List.setIfInBounds_toArray, List.set_cons_zero, List.set_cons_succ]
            refine takeL (i := 2) (v := ?_) rfl (by kernel_rfl) (by kernel_rfl) (by kernel_rfl) (fun _ _ _ h => h) (Or.inl ⟨by rfl, ?_⟩) ⟨C0.out, trivial⟩ ?_
            rotate_left
            · intro w hw
              try dsimp only at hw
              obtain ⟨q0, q1⟩ := hw
              go_simp
              try with_reducible rfl
            try simp only [Act.put, List.setIfInBounds_toArray, List.set_cons_zero, List.set_cons_succ]
            refine takeL (i := 3) (v := ?_) rfl (by kernel_rfl) (by kernel_rfl) (by kernel_rfl) (fun _ _ _ h => h) (Or.inl ⟨by rfl, ?_⟩) ⟨C0.out, trivial⟩ ?_
            rotate_left
            · intro w hw
              try dsimp only at hw
              obtain ⟨q0, q1⟩ := hw
              go_simp
              try with_reducible rfl
            try simp only [Act.put, List.setIfInBounds_toArray, List.set_cons_zero, List.set_cons_succ]
            refine takeL (i := 4) (v := .slice (tailAt (some a) c 1) (n - 1) (c - 1)) rfl (by kernel_rfl) (by kernel_rfl) (by kernel_rfl) (fun _ _ _ h => h) (Or.inl ⟨by rfl, fun wz hwz => run_tail 22 5 (.tmp 21) (.const (.int .i64 1)) rfl Tryz.underlying22 size_b8 (some a) n c 1 (by go_simp) (by go_simp) (by have := HN2.out; omega) HNC.out HCM.out⟩) ⟨C0.out, trivial⟩ ?_
            try simp only [Act.put, List.setIfInBounds_toArray, List.set_cons_zero, List.set_cons_succ]
            simp only [HN1.out]
            refine takeL (i := 5) (v := ?_) rfl (by kernel_rfl) (by kernel_rfl) (by kernel_rfl) (fun _ _ _ h => h) (Or.inl ⟨by rfl, ?_⟩) ⟨C0.out, trivial⟩ ?_
            rotate_left
            · intro w hw
              try dsimp only at hw
              obtain ⟨q0, q1⟩ := hw
              go_simp
              try with_reducible rfl
            try simp only [Act.put, List.setIfInBounds_toArray, List.set_cons_zero, List.set_cons_succ]
            refine takeL (i := 6) (v := ?_) rfl (by kernel_rfl) (by kernel_rfl) (by kernel_rfl) (fun _ _ _ h => h) (Or.inl ⟨by rfl, ?_⟩) ⟨C0.out, trivial⟩ ?_
            rotate_left
            · intro w hw
              try dsimp only at hw
              obtain ⟨q0, q1⟩ := hw
              go_simp
              try with_reducible rfl
            try simp only [Act.put, List.setIfInBounds_toArray, List.set_cons_zero, List.set_cons_succ]
            refine wpAnyH_done (by kernel_rfl) ?_ _
            go_wp2_with fail
            refine HG.out.mono ?_
            rintro e w1 ⟨rfl, rfl⟩
            go_wp2_with (first
              | ((with_reducible show wpList _ _ _ ({ dst := some 50, op := Op.build _ _, type := _, pos := _, after := _, guard := _ } :: _) _ _); go_must (refine wpList_plain rfl fun K hK => wp_built _ _ _ rfl (by simp only [List.map_toArray, List.map_cons, List.map_nil]; exact built_told (num r 8) true) (hK _ _ ?_)))
              | ((with_reducible show wpList _ _ _ ({ dst := none, op := Op.store 127 _ _, type := _, pos := _, after := _, guard := _ } :: _) _ _); go_must (refine wpList_store_part rfl 127 (.tmp 52) (.tmp 50) rfl g 129 6 _ [.int .u64 (num r 8), .bool true] HR.out.drew (size_told _ _) (by show 6 + 2 ≤ 8; omega) (told_one _ _) ?_ ?_ ?_; go_simp; go_simp; intro w2 hr2 ht2; have HR2 := Lib.hid hr2; have HT2 := Lib.hid ht2; have cn : w2.cell? ⟨g, 7, none⟩ = some (.bool true) := hr2.cell 7; clear hr2 ht2)))
            go_ret
            exact ⟨by rw [HT.out]; rfl, by rw [HT.out]; exact HR2.out, (Below.refl g w).drew.trans (HT2.out.below (Nat.le_refl g))⟩
        · have eN : ¬ (N : Int) = 8 := by omega
          have HT : Hid (tell (3 :: r) s = none) := Lib.hid (by unfold tell; rw [if_neg (fun h => absurd (show (3 : Int) = 2 from h.2.1) (by decide)), if_neg (fun h => by have := h.1; rw [List.length_cons, HRL.out] at this; omega)])
          clear HTS hN
          go_enter Tryz.func70, Tryz.ntmps70
          go_upto_region 3 with fail
          refine wp_region_held_drew (S := (fun V => V.cell? a = some (.int .u8 3) ∧ True)) (by kernel_rfl) ⟨C0.out, trivial⟩ (fun _ => ?_)
          refine takeL (i := 0) (v := ?_) rfl (by kernel_rfl) (by kernel_rfl) (by kernel_rfl) (fun _ _ _ h => h) (Or.inl ⟨by rfl, ?_⟩) ⟨C0.out, trivial⟩ ?_
          rotate_left
          · intro w hw
            try dsimp only at hw
            obtain ⟨q0, q1⟩ := hw
            go_simp
            try with_reducible rfl
          try simp only [Act.put, List.setIfInBounds_toArray, List.set_cons_zero, List.set_cons_succ]
          refine takeL (i := 1) (v := ?_) rfl (by kernel_rfl) (by kernel_rfl) (by kernel_rfl) (fun _ _ _ h => h) (Or.inl ⟨by rfl, ?_⟩) ⟨C0.out, trivial⟩ ?_
          rotate_left
          · intro w hw
            try dsimp only at hw
            obtain ⟨q0, q1⟩ := hw
            go_simp
            try with_reducible rfl
          try simp only [Act.put, List.setIfInBounds_toArray, List.set_cons_zero, List.set_cons_succ]
          refine takeL (i := 2) (v := ?_) rfl (by kernel_rfl) (by kernel_rfl) (by kernel_rfl) (fun _ _ _ h => h) (Or.inl ⟨by rfl, ?_⟩) ⟨C0.out, trivial⟩ ?_
          rotate_left
          · intro w hw
            try dsimp only at hw
            obtain ⟨q0, q1⟩ := hw
            go_simp
            try with_reducible rfl
          try simp only [Act.put, List.setIfInBounds_toArray, List.set_cons_zero, List.set_cons_succ]
          refine takeL (i := 3) (v := ?_) rfl (by kernel_rfl) (by kernel_rfl) (by kernel_rfl) (fun _ _ _ h => h) (Or.inl ⟨by rfl, ?_⟩) ⟨C0.out, trivial⟩ ?_
          rotate_left
          · intro w hw
            try dsimp only at hw
            obtain ⟨q0, q1⟩ := hw
            go_simp
            try with_reducible rfl
          try simp only [Act.put, List.setIfInBounds_toArray, List.set_cons_zero, List.set_cons_succ]
          refine takeL (i := 4) (v := .slice (tailAt (some a) c 1) (n - 1) (c - 1)) rfl (by kernel_rfl) (by kernel_rfl) (by kernel_rfl) (fun _ _ _ h => h) (Or.inl ⟨by rfl, fun wz hwz => run_tail 22 5 (.tmp 21) (.const (.int .i64 1)) rfl Tryz.underlying22 size_b8 (some a) n c 1 (by go_simp) (by go_simp) (by have := HN2.out; omega) HNC.out HCM.out⟩) ⟨C0.out, trivial⟩ ?_
          try simp only [Act.put, List.setIfInBounds_toArray, List.set_cons_zero, List.set_cons_succ]
          simp only [HN1.out]
          refine takeL (i := 5) (v := ?_) rfl (by kernel_rfl) (by kernel_rfl) (by kernel_rfl) (fun _ _ _ h => h) (Or.inl ⟨by rfl, ?_⟩) ⟨C0.out, trivial⟩ ?_
          rotate_left
          · intro w hw
            try dsimp only at hw
            obtain ⟨q0, q1⟩ := hw
            go_simp
            try with_reducible rfl
          try simp only [Act.put, List.setIfInBounds_toArray, List.set_cons_zero, List.set_cons_succ]
          refine takeL (i := 6) (v := ?_) rfl (by kernel_rfl) (by kernel_rfl) (by kernel_rfl) (fun _ _ _ h => h) (Or.inl ⟨by rfl, ?_⟩) ⟨C0.out, trivial⟩ ?_
          rotate_left
          · intro w hw
            try dsimp only at hw
            obtain ⟨q0, q1⟩ := hw
            go_simp
            try with_reducible rfl
          try simp only [Act.put, List.setIfInBounds_toArray, List.set_cons_zero, List.set_cons_succ]
          refine wpAnyH_done (by kernel_rfl) ?_ _
          go_wp2_with fail
          go_ret
          exact ⟨by rw [HT.out]; rfl, by rw [HT.out]; exact HR.out.drew, (Below.refl g w).drew⟩
end Go.Proofs.YtdgbodljmdcagaaGreatDoor

/-
  Of part Word8: what is needed here.
-/
namespace Go.Proofs.YtdgbodljmdcagaaGreatDoor
open Go.RowKit
set_option linter.unusedVariables false
set_option maxRecDepth 100000
theorem isW_no {keys : List (List Int)} {p : Int} (h : ¬ p < keys.length) : isW keys p = false := by unfold isW; rw [decide_eq_false h]; rfl
theorem isW_at {keys : List (List Int)} {q : Nat} {y : List Int} (h : keys[q]? = some y) : isW keys (q : Int) = decide (y = k3) := by
  unfold isW
  have hq := (List.getElem?_eq_some_iff.1 h).1
  rw [decide_eq_true (by omega), Bool.true_and, Int.toNat_natCast, List.getD_eq_getElem?_getD, h]
  rfl
set_option maxRecDepth 100000 in
set_option maxHeartbeats 2000000 in
theorem onBudget_ (KA : Option Addr) (kn kc : Nat) (keys : List (List Int)) (va vd : Value) (p : Int) (B : Nat) (w : World) (hk : KeysIn w B KA kn keys) (hkn : kn ≤ kc ∧ kc ≤ maxLen) (hB : B ≤ w.heap.size) (hp : IsByte p) :
    Calls Tryz.prog 69 #[.slice KA kn kc, .agg (inCells p va vd).toArray] w fun e w' => e = .returned (.bool (isW keys p)) ∧ Below w.heap.size w w' := by
  obtain ⟨W, hW0⟩ : ∃ V, V = w.alloc (.cells (inCells p va vd).toArray 131) := ⟨_, rfl⟩
  have hb0 : Below w.heap.size w W := hW0 ▸ (Below.refl w.heap.size w).alloc (Nat.le_refl _) _
  have hri : Row W (w.heap.size) 131 (inCells p va vd) := by rw [hW0]; exact Row.new w 131 (inCells p va vd)
  have HM0 : Hid True := Lib.hid trivial
  have HC0 : Hid (W.drew.cell? ⟨w.heap.size, 0, none⟩ = some (.int .u8 p)) := Lib.hid (hri.drew.cell 0)
  have HIB : Hid (w.heap.size < W.drew.heap.size) := Lib.hid hri.drew.lt
  have hk0 := hk.below (hb0.mono hB)
  have HB0 := Lib.hid hb0
  have HWW := Lib.hid hW0.symm
  have hkl := hk.len
  clear hri hb0 hk hW0
  obtain ⟨h0, h1⟩ := hp
  obtain ⟨q, rfl⟩ := Int.eq_ofNat_of_zero_le h0
  obtain ⟨hkn, hkc⟩ := hkn
  unfold maxLen at hkc
  have hwq : IntKind.i64.wrap (q : Int) = (q : Int) := IntWalk.i64_in _ (by omega)
  have HBB := Lib.hid hB
  generalize inCells (q : Int) va vd = IC at *
  rcases Nat.lt_or_ge q kn with hq | hq
  · obtain ⟨a, y, rfl, hab, hx, hat⟩ := hk0.get hq
    have HAB : Hid (a.block < W.heap.size) := Lib.hid (Nat.lt_of_lt_of_le hab (Nat.le_trans HBB.out HB0.out.size))
    have HCA := Lib.hid hat.cells
    have HSY := Lib.hid (show (Tryz.prog.info? 78).map (·.size) = some (bv y).length by rw [size_key, bv_length, hat.len])
    have N3 := fun w => key_eql hat.len k3_len w
    have HK := Lib.hid (isW_at hx)
    have hlt : decide ((q : Int) < (kn : Int)) = true := decide_eq_true (by omega)
    clear hat hk0 hx hab
    cases hyy : decide (y = k3) with
    | true =>
      have HQ : Hid (isW keys q = true) := Lib.hid (by rw [HK.out, hyy])
      rw [hyy] at N3
      clear hyy HK
      go_enter Tryz.func69, Tryz.ntmps69
      go_upto_region 1 with fail
      rw [HWW.out]
      clear HWW
      go_wp2_with fail
      refine wp_region_held_drew (S := (fun V => V.cell? ⟨w.heap.size, 0, none⟩ = some (.int .u8 q) ∧ True ∧ Below W.heap.size W V)) (by kernel_rfl) ⟨HC0.out, HM0.out, (Below.refl W.heap.size W).drew⟩ (fun _ => ?_)
      refine takeL (i := 0) (v := ?_) rfl (by kernel_rfl) (by kernel_rfl) (by kernel_rfl) (fun _ _ _ h => h) (Or.inl ⟨by rfl, ?_⟩) ⟨HC0.out, HM0.out, (Below.refl W.heap.size W).drew⟩ ?_
      rotate_left
      · intro w hw
        try dsimp only at hw
        obtain ⟨q0, q1, q2⟩ := hw
        go_simp
        try with_reducible rfl
      try simp only [Act.put, List.setIfInBounds_toArray, List.set_cons_zero, List.set_cons_succ]
      refine takeL (i := 1) (v := ?_) rfl (by kernel_rfl) (by kernel_rfl) (by kernel_rfl) (fun _ _ _ h => h) (Or.inl ⟨by rfl, ?_⟩) ⟨HC0.out, HM0.out, (Below.refl W.heap.size W).drew⟩ ?_
      rotate_left
      · intro w hw
        try dsimp only at hw
        obtain ⟨q0, q1, q2⟩ := hw
        go_simp
        try with_reducible rfl
      try simp only [Act.put, List.setIfInBounds_toArray, List.set_cons_zero, List.set_cons_succ]
      refine takeL (i := 2) (v := ?_) rfl (by kernel_rfl) (by kernel_rfl) (by kernel_rfl) (fun _ _ _ h => h) (Or.inl ⟨by rfl, ?_⟩) ⟨HC0.out, HM0.out, (Below.refl W.heap.size W).drew⟩ ?_
      rotate_left
      · intro w hw
        try dsimp only at hw
        obtain ⟨q0, q1, q2⟩ := hw
        go_simp
        try with_reducible rfl
      try simp only [Act.put, List.setIfInBounds_toArray, List.set_cons_zero, List.set_cons_succ]
      refine takeL (i := 3) (v := ?_) rfl (by kernel_rfl) (by kernel_rfl) (by kernel_rfl) (fun _ _ _ h => h) (Or.inl ⟨by rfl, ?_⟩) ⟨HC0.out, HM0.out, (Below.refl W.heap.size W).drew⟩ ?_
      rotate_left
      · intro w hw
        try dsimp only at hw
        obtain ⟨q0, q1, q2⟩ := hw
        go_simp
        try with_reducible rfl
      try simp only [Act.put, List.setIfInBounds_toArray, List.set_cons_zero, List.set_cons_succ]
      refine takeL (i := 4) (v := ?_) rfl (by kernel_rfl) (by kernel_rfl) (by kernel_rfl) (fun _ _ _ h => h) (Or.inl ⟨by rfl, ?_⟩) ⟨HC0.out, HM0.out, (Below.refl W.heap.size W).drew⟩ ?_
      rotate_left
      · intro w hw
        try dsimp only at hw
        obtain ⟨q0, q1, q2⟩ := hw
        go_simp
        try with_reducible rfl
      try simp only [Act.put, List.setIfInBounds_toArray, List.set_cons_zero, List.set_cons_succ]
      refine takeL (i := 5) (v := ?_) rfl (by kernel_rfl) (by kernel_rfl) (by kernel_rfl) (fun _ _ _ h => h) (Or.inl ⟨by rfl, ?_⟩) ⟨HC0.out, HM0.out, (Below.refl W.heap.size W).drew⟩ ?_
      rotate_left
      · intro w hw
        try dsimp only at hw
        obtain ⟨q0, q1, q2⟩ := hw
        go_simp
        try with_reducible rfl
      try simp only [Act.put, List.setIfInBounds_toArray, List.set_cons_zero, List.set_cons_succ]
      refine takeL (i := 6) (v := ?_) rfl (by kernel_rfl) (by kernel_rfl) (by kernel_rfl) (fun _ _ _ h => h) (Or.inl ⟨by rfl, ?_⟩) ⟨HC0.out, HM0.out, (Below.refl W.heap.size W).drew⟩ ?_
      rotate_left
      · intro w hw
        try dsimp only at hw
        obtain ⟨q0, q1, q2⟩ := hw
        go_simp
        try with_reducible rfl
      try simp only [Act.put, List.setIfInBounds_toArray, List.set_cons_zero, List.set_cons_succ]
      refine takeL (i := 7) (v := ?_) rfl (by kernel_rfl) (by kernel_rfl) (by kernel_rfl) (fun _ _ _ h => h) (Or.inl ⟨by rfl, ?_⟩) ⟨HC0.out, HM0.out, (Below.refl W.heap.size W).drew⟩ ?_
      rotate_left
      · intro w hw
        try dsimp only at hw
        obtain ⟨q0, q1, q2⟩ := hw
        go_simp
        try with_reducible rfl
      try simp only [Act.put, List.setIfInBounds_toArray, List.set_cons_zero, List.set_cons_succ]
      refine takeL (i := 8) (v := ?_) rfl (by kernel_rfl) (by kernel_rfl) (by kernel_rfl) (fun _ _ _ h => h) (Or.inl ⟨by rfl, ?_⟩) ⟨HC0.out, HM0.out, (Below.refl W.heap.size W).drew⟩ ?_
      rotate_left
      · intro w hw
        try dsimp only at hw
        obtain ⟨q0, q1, q2⟩ := hw
        go_simp
        try with_reducible rfl
      try simp only [Act.put, List.setIfInBounds_toArray, List.set_cons_zero, List.set_cons_succ]
      refine takeL (i := 9) (v := ?_) rfl (by kernel_rfl) (by kernel_rfl) (by kernel_rfl) (fun _ _ _ h => h) (Or.inl ⟨by rfl, ?_⟩) ⟨HC0.out, HM0.out, (Below.refl W.heap.size W).drew⟩ ?_
      rotate_left
      · intro w hw
        try dsimp only at hw
        obtain ⟨q0, q1, q2⟩ := hw
        go_simp
        try with_reducible rfl
      try simp only [Act.put, List.setIfInBounds_toArray, List.set_cons_zero, List.set_cons_succ]
      refine takeL (i := 10) (v := ?_) rfl (by kernel_rfl) (by kernel_rfl) (by kernel_rfl) (fun _ _ _ h => h) (Or.inl ⟨by rfl, ?_⟩) ⟨HC0.out, HM0.out, (Below.refl W.heap.size W).drew⟩ ?_
      rotate_left
      · intro w hw
        try dsimp only at hw
        obtain ⟨q0, q1, q2⟩ := hw
        go_simp
        try with_reducible rfl
      try simp only [Act.put, List.setIfInBounds_toArray, List.set_cons_zero, List.set_cons_succ]
      refine takeL (i := 11) (v := .agg (bv y).toArray) rfl (by kernel_rfl) (by kernel_rfl) (by kernel_rfl) (fun _ _ _ h => h) (Or.inl ⟨by rfl, fun wz hwz => exec_load_at wz 78 (.tmp 15) rfl (a.add (q * 32)) (bv y) _ Tryz.underlying78 rfl HSY.out (fun j u hu => (hwz.2.2.cell (by rw [addr_block, addr_block]; exact HAB.out)).trans (HCA.out j u hu)) (by go_simp)⟩) ⟨HC0.out, HM0.out, (Below.refl W.heap.size W).drew⟩ ?_
      try simp only [Act.put, List.setIfInBounds_toArray, List.set_cons_zero, List.set_cons_succ]
      refine readyL (i := 12) rfl (by kernel_rfl) (by kernel_rfl) fun K hK => ?_
      go_simp
      refine (budget_ W.drew).mono ?_
      rintro e w1 ⟨rfl, hb1⟩
      have B1 := Lib.hid (show Below W.heap.size W w1 from ((Below.refl W.heap.size W).drew).trans hb1)
      have HC1 : Hid (w1.cell? ⟨w.heap.size, 0, none⟩ = some (.int .u8 q)) := Lib.hid ((hb1.cell (p := ⟨w.heap.size, 0, none⟩) HIB.out).trans HC0.out)
      have HM1 : Hid True := HM0
      clear hb1
      refine hK.out _ _ ⟨HC1.out, HM1.out, B1.out⟩ ?_
      clear hK K
      try simp only [Act.put, List.setIfInBounds_toArray, List.set_cons_zero, List.set_cons_succ]
      refine takeL (i := 13) (v := ?_) rfl (by kernel_rfl) (by kernel_rfl) (by kernel_rfl) (fun _ _ _ h => h) (Or.inl ⟨by rfl, ?_⟩) ⟨HC1.out, HM1.out, B1.out⟩ ?_
      rotate_left
      · intro w hw
        try dsimp only at hw
        obtain ⟨q0, q1, q2⟩ := hw
        go_simp
        try with_reducible rfl
      try simp only [Act.put, List.setIfInBounds_toArray, List.set_cons_zero, List.set_cons_succ]
      refine takeL (i := 14) (v := ?_) rfl (by kernel_rfl) (by kernel_rfl) (by kernel_rfl) (fun _ _ _ h => h) (Or.inl ⟨by rfl, ?_⟩) ⟨HC1.out, HM1.out, B1.out⟩ ?_
      rotate_left
      · intro w hw
        try dsimp only at hw
        obtain ⟨q0, q1, q2⟩ := hw
        go_simp
        try with_reducible rfl
      try simp only [Act.put, List.setIfInBounds_toArray, List.set_cons_zero, List.set_cons_succ]
      refine takeL (i := 15) (v := ?_) rfl (by kernel_rfl) (by kernel_rfl) (by kernel_rfl) (fun _ _ _ h => h) (Or.inl ⟨by rfl, ?_⟩) ⟨HC1.out, HM1.out, B1.out⟩ ?_
      rotate_left
      · intro w hw
        try dsimp only at hw
        obtain ⟨q0, q1, q2⟩ := hw
        go_simp
        try with_reducible rfl
      try simp only [Act.put, List.setIfInBounds_toArray, List.set_cons_zero, List.set_cons_succ]
      refine wpAnyH_done (by kernel_rfl) ?_ _
      go_wp2_with fail
      go_ret
      exact ⟨told_bool HQ.out.symm, HB0.out.trans (B1.out.mono HB0.out.size)⟩
    | false =>
      have HQ : Hid (isW keys q = false) := Lib.hid (by rw [HK.out, hyy])
      rw [hyy] at N3
      clear hyy HK
      go_enter Tryz.func69, Tryz.ntmps69
      go_upto_region 1 with fail
      rw [HWW.out]
      clear HWW
      go_wp2_with fail
      refine wp_region_held_drew (S := (fun V => V.cell? ⟨w.heap.size, 0, none⟩ = some (.int .u8 q) ∧ True ∧ Below W.heap.size W V)) (by kernel_rfl) ⟨HC0.out, HM0.out, (Below.refl W.heap.size W).drew⟩ (fun _ => ?_)
      refine takeL (i := 0) (v := ?_) rfl (by kernel_rfl) (by kernel_rfl) (by kernel_rfl) (fun _ _ _ h => h) (Or.inl ⟨by rfl, ?_⟩) ⟨HC0.out, HM0.out, (Below.refl W.heap.size W).drew⟩ ?_
      rotate_left
      · intro w hw
        try dsimp only at hw
        obtain ⟨q0, q1, q2⟩ := hw
        go_simp
        try with_reducible rfl
      try simp only [Act.put, List.setIfInBounds_toArray, List.set_cons_zero, List.set_cons_succ]
      refine takeL (i := 1) (v := ?_) rfl (by kernel_rfl) (by kernel_rfl) (by kernel_rfl) (fun _ _ _ h => h) (Or.inl ⟨by rfl, ?_⟩) ⟨HC0.out, HM0.out, (Below.refl W.heap.size W).drew⟩ ?_
      rotate_left
      · intro w hw
        try dsimp only at hw
        obtain ⟨q0, q1, q2⟩ := hw
        go_simp
        try with_reducible rfl
      try simp only [Act.put, List.setIfInBounds_toArray, List.set_cons_zero, List.set_cons_succ]
      refine takeL (i := 2) (v := ?_) rfl (by kernel_rfl) (by kernel_rfl) (by kernel_rfl) (fun _ _ _ h => h) (Or.inl ⟨by rfl, ?_⟩) ⟨HC0.out, HM0.out, (Below.refl W.heap.size W).drew⟩ ?_
      rotate_left
      · intro w hw
        try dsimp only at hw
        obtain ⟨q0, q1, q2⟩ := hw
        go_simp
        try with_reducible rfl
      try simp only [Act.put, List.setIfInBounds_toArray, List.set_cons_zero, List.set_cons_succ]
      refine takeL (i := 3) (v := ?_) rfl (by kernel_rfl) (by kernel_rfl) (by kernel_rfl) (fun _ _ _ h => h) (Or.inl ⟨by rfl, ?_⟩) ⟨HC0.out, HM0.out, (Below.refl W.heap.size W).drew⟩ ?_
      rotate_left
      · intro w hw
        try dsimp only at hw
        obtain ⟨q0, q1, q2⟩ := hw
        go_simp
        try with_reducible rfl
      try simp only [Act.put, List.setIfInBounds_toArray, List.set_cons_zero, List.set_cons_succ]
      refine takeL (i := 4) (v := ?_) rfl (by kernel_rfl) (by kernel_rfl) (by kernel_rfl) (fun _ _ _ h => h) (Or.inl ⟨by rfl, ?_⟩) ⟨HC0.out, HM0.out, (Below.refl W.heap.size W).drew⟩ ?_
      rotate_left
      · intro w hw
        try dsimp only at hw
        obtain ⟨q0, q1, q2⟩ := hw
        go_simp
        try with_reducible rfl
      try simp only [Act.put, List.setIfInBounds_toArray, List.set_cons_zero, List.set_cons_succ]
      refine takeL (i := 5) (v := ?_) rfl (by kernel_rfl) (by kernel_rfl) (by kernel_rfl) (fun _ _ _ h => h) (Or.inl ⟨by rfl, ?_⟩) ⟨HC0.out, HM0.out, (Below.refl W.heap.size W).drew⟩ ?_
      rotate_left
      · intro w hw
        try dsimp only at hw
        obtain ⟨q0, q1, q2⟩ := hw
        go_simp
        try with_reducible rfl
      try simp only [Act.put, List.setIfInBounds_toArray, List.set_cons_zero, List.set_cons_succ]
      refine takeL (i := 6) (v := ?_) rfl (by kernel_rfl) (by kernel_rfl) (by kernel_rfl) (fun _ _ _ h => h) (Or.inl ⟨by rfl, ?_⟩) ⟨HC0.out, HM0.out, (Below.refl W.heap.size W).drew⟩ ?_
      rotate_left
      · intro w hw
        try dsimp only at hw
        obtain ⟨q0, q1, q2⟩ := hw
        go_simp
        try with_reducible rfl
      try simp only [Act.put, List.setIfInBounds_toArray, List.set_cons_zero, List.set_cons_succ]
      refine takeL (i := 7) (v := ?_) rfl (by kernel_rfl) (by kernel_rfl) (by kernel_rfl) (fun _ _ _ h => h) (Or.inl ⟨by rfl, ?_⟩) ⟨HC0.out, HM0.out, (Below.refl W.heap.size W).drew⟩ ?_
      rotate_left
      · intro w hw
        try dsimp only at hw
        obtain ⟨q0, q1, q2⟩ := hw
        go_simp
        try with_reducible rfl
      try simp only [Act.put, List.setIfInBounds_toArray, List.set_cons_zero, List.set_cons_succ]
      refine takeL (i := 8) (v := ?_) rfl (by kernel_rfl) (by kernel_rfl) (by kernel_rfl) (fun _ _ _ h => h) (Or.inl ⟨by rfl, ?_⟩) ⟨HC0.out, HM0.out, (Below.refl W.heap.size W).drew⟩ ?_
      rotate_left
      · intro w hw
        try dsimp only at hw
        obtain ⟨q0, q1, q2⟩ := hw
        go_simp
        try with_reducible rfl
      try simp only [Act.put, List.setIfInBounds_toArray, List.set_cons_zero, List.set_cons_succ]
      refine takeL (i := 9) (v := ?_) rfl (by kernel_rfl) (by kernel_rfl) (by kernel_rfl) (fun _ _ _ h => h) (Or.inl ⟨by rfl, ?_⟩) ⟨HC0.out, HM0.out, (Below.refl W.heap.size W).drew⟩ ?_
      rotate_left
      · intro w hw
        try dsimp only at hw
        obtain ⟨q0, q1, q2⟩ := hw
        go_simp
        try with_reducible rfl
      try simp only [Act.put, List.setIfInBounds_toArray, List.set_cons_zero, List.set_cons_succ]
      refine takeL (i := 10) (v := ?_) rfl (by kernel_rfl) (by kernel_rfl) (by kernel_rfl) (fun _ _ _ h => h) (Or.inl ⟨by rfl, ?_⟩) ⟨HC0.out, HM0.out, (Below.refl W.heap.size W).drew⟩ ?_
      rotate_left
      · intro w hw
        try dsimp only at hw
        obtain ⟨q0, q1, q2⟩ := hw
        go_simp
        try with_reducible rfl
      try simp only [Act.put, List.setIfInBounds_toArray, List.set_cons_zero, List.set_cons_succ]
      refine takeL (i := 11) (v := .agg (bv y).toArray) rfl (by kernel_rfl) (by kernel_rfl) (by kernel_rfl) (fun _ _ _ h => h) (Or.inl ⟨by rfl, fun wz hwz => exec_load_at wz 78 (.tmp 15) rfl (a.add (q * 32)) (bv y) _ Tryz.underlying78 rfl HSY.out (fun j u hu => (hwz.2.2.cell (by rw [addr_block, addr_block]; exact HAB.out)).trans (HCA.out j u hu)) (by go_simp)⟩) ⟨HC0.out, HM0.out, (Below.refl W.heap.size W).drew⟩ ?_
      try simp only [Act.put, List.setIfInBounds_toArray, List.set_cons_zero, List.set_cons_succ]
      refine readyL (i := 12) rfl (by kernel_rfl) (by kernel_rfl) fun K hK => ?_
      go_simp
      refine (budget_ W.drew).mono ?_
      rintro e w1 ⟨rfl, hb1⟩
      have B1 := Lib.hid (show Below W.heap.size W w1 from ((Below.refl W.heap.size W).drew).trans hb1)
      have HC1 : Hid (w1.cell? ⟨w.heap.size, 0, none⟩ = some (.int .u8 q)) := Lib.hid ((hb1.cell (p := ⟨w.heap.size, 0, none⟩) HIB.out).trans HC0.out)
      have HM1 : Hid True := HM0
      clear hb1
      refine hK.out _ _ ⟨HC1.out, HM1.out, B1.out⟩ ?_
      clear hK K
      try simp only [Act.put, List.setIfInBounds_toArray, List.set_cons_zero, List.set_cons_succ]
      refine takeL (i := 13) (v := ?_) rfl (by kernel_rfl) (by kernel_rfl) (by kernel_rfl) (fun _ _ _ h => h) (Or.inl ⟨by rfl, ?_⟩) ⟨HC1.out, HM1.out, B1.out⟩ ?_
      rotate_left
      · intro w hw
        try dsimp only at hw
        obtain ⟨q0, q1, q2⟩ := hw
        go_simp
        try with_reducible rfl
      try simp only [Act.put, List.setIfInBounds_toArray, List.set_cons_zero, List.set_cons_succ]
      refine takeL (i := 14) (v := ?_) rfl (by kernel_rfl) (by kernel_rfl) (by kernel_rfl) (fun _ _ _ h => h) (Or.inl ⟨by rfl, ?_⟩) ⟨HC1.out, HM1.out, B1.out⟩ ?_
      rotate_left
      · intro w hw
        try dsimp only at hw
        obtain ⟨q0, q1, q2⟩ := hw
        go_simp
        try with_reducible rfl
      try simp only [Act.put, List.setIfInBounds_toArray, List.set_cons_zero, List.set_cons_succ]
      refine takeL (i := 15) (v := ?_) rfl (by kernel_rfl) (by kernel_rfl) (by kernel_rfl) (fun _ _ _ h => h) (Or.inl ⟨by rfl, ?_⟩) ⟨HC1.out, HM1.out, B1.out⟩ ?_
      rotate_left
      · intro w hw
        try dsimp only at hw
        obtain ⟨q0, q1, q2⟩ := hw
        go_simp
        try with_reducible rfl
      try simp only [Act.put, List.setIfInBounds_toArray, List.set_cons_zero, List.set_cons_succ]
      refine wpAnyH_done (by kernel_rfl) ?_ _
      go_wp2_with fail
      go_ret
      exact ⟨told_bool HQ.out.symm, HB0.out.trans (B1.out.mono HB0.out.size)⟩
  · have HQ : Hid (isW keys q = false) := Lib.hid (isW_no (by rw [hkl]; omega))
    have hlt : decide ((q : Int) < (kn : Int)) = false := decide_eq_false (by omega)
    have hlt2 : decide (q < kn) = false := decide_eq_false (by omega)
    have hlt3 : ¬ (q : Int) < (kn : Int) := by omega
    clear hk0
    go_enter Tryz.func69, Tryz.ntmps69
    go_upto_region 1 with fail
    rw [HWW.out]
    clear HWW
    go_wp2_with fail
    refine wp_region_held_drew (S := (fun V => V.cell? ⟨w.heap.size, 0, none⟩ = some (.int .u8 q) ∧ True ∧ Below W.heap.size W V)) (by kernel_rfl) ⟨HC0.out, HM0.out, (Below.refl W.heap.size W).drew⟩ (fun _ => ?_)
    refine takeL (i := 0) (v := ?_) rfl (by kernel_rfl) (by kernel_rfl) (by kernel_rfl) (fun _ _ _ h => h) (Or.inl ⟨by rfl, ?_⟩) ⟨HC0.out, HM0.out, (Below.refl W.heap.size W).drew⟩ ?_
    rotate_left
    · intro w hw
      try dsimp only at hw
      obtain ⟨q0, q1, q2⟩ := hw
      go_simp
      try with_reducible rfl
    try simp only [Act.put, List.setIfInBounds_toArray, List.set_cons_zero, List.set_cons_succ]
    refine takeL (i := 1) (v := ?_) rfl (by kernel_rfl) (by kernel_rfl) (by kernel_rfl) (fun _ _ _ h => h) (Or.inl ⟨by rfl, ?_⟩) ⟨HC0.out, HM0.out, (Below.refl W.heap.size W).drew⟩ ?_
    rotate_left
    · intro w hw
      try dsimp only at hw
      obtain ⟨q0, q1, q2⟩ := hw
      go_simp
      try with_reducible rfl
    try simp only [Act.put, List.setIfInBounds_toArray, List.set_cons_zero, List.set_cons_succ]
    refine takeL (i := 2) (v := ?_) rfl (by kernel_rfl) (by kernel_rfl) (by kernel_rfl) (fun _ _ _ h => h) (Or.inl ⟨by rfl, ?_⟩) ⟨HC0.out, HM0.out, (Below.refl W.heap.size W).drew⟩ ?_
    rotate_left
    · intro w hw
      try dsimp only at hw
      obtain ⟨q0, q1, q2⟩ := hw
      go_simp
      try with_reducible rfl
    try simp only [Act.put, List.setIfInBounds_toArray, List.set_cons_zero, List.set_cons_succ]
    refine takeL (i := 3) (v := ?_) rfl (by kernel_rfl) (by kernel_rfl) (by kernel_rfl) (fun _ _ _ h => h) (Or.inl ⟨by rfl, ?_⟩) ⟨HC0.out, HM0.out, (Below.refl W.heap.size W).drew⟩ ?_
    rotate_left
    · intro w hw
      try dsimp only at hw
      obtain ⟨q0, q1, q2⟩ := hw
      go_simp
      try with_reducible rfl
    try simp only [Act.put, List.setIfInBounds_toArray, List.set_cons_zero, List.set_cons_succ]
    refine takeL (i := 4) (v := ?_) rfl (by kernel_rfl) (by kernel_rfl) (by kernel_rfl) (fun _ _ _ h => h) (Or.inl ⟨by rfl, ?_⟩) ⟨HC0.out, HM0.out, (Below.refl W.heap.size W).drew⟩ ?_
    rotate_left
    · intro w hw
      try dsimp only at hw
      obtain ⟨q0, q1, q2⟩ := hw
      go_simp
      try with_reducible rfl
    try simp only [Act.put, List.setIfInBounds_toArray, List.set_cons_zero, List.set_cons_succ]
    refine takeL (i := 5) (v := ?_) rfl (by kernel_rfl) (by kernel_rfl) (by kernel_rfl) (fun _ _ _ h => h) (Or.inl ⟨by rfl, ?_⟩) ⟨HC0.out, HM0.out, (Below.refl W.heap.size W).drew⟩ ?_
    rotate_left
    · intro w hw
      try dsimp only at hw
      obtain ⟨q0, q1, q2⟩ := hw
      go_simp
      try with_reducible rfl
    try simp only [Act.put, List.setIfInBounds_toArray, List.set_cons_zero, List.set_cons_succ]
    refine takeL (i := 6) (v := ?_) rfl (by kernel_rfl) (by kernel_rfl) (by kernel_rfl) (fun _ _ _ h => h) (Or.inl ⟨by rfl, ?_⟩) ⟨HC0.out, HM0.out, (Below.refl W.heap.size W).drew⟩ ?_
    rotate_left
    · intro w hw
      try dsimp only at hw
      obtain ⟨q0, q1, q2⟩ := hw
      go_simp
      try with_reducible rfl
    try simp only [Act.put, List.setIfInBounds_toArray, List.set_cons_zero, List.set_cons_succ]
    refine takeL (i := 7) (v := undef) rfl (by kernel_rfl) (by kernel_rfl) (by kernel_rfl) (fun _ _ _ h => h) (Or.inr ⟨by rfl, rfl⟩) ⟨HC0.out, HM0.out, (Below.refl W.heap.size W).drew⟩ ?_
    try simp only [Act.put, List.setIfInBounds_toArray, List.set_cons_zero, List.set_cons_succ]
    refine takeL (i := 8) (v := undef) rfl (by kernel_rfl) (by kernel_rfl) (by kernel_rfl) (fun _ _ _ h => h) (Or.inr ⟨by rfl, rfl⟩) ⟨HC0.out, HM0.out, (Below.refl W.heap.size W).drew⟩ ?_
    try simp only [Act.put, List.setIfInBounds_toArray, List.set_cons_zero, List.set_cons_succ]
    refine takeL (i := 9) (v := undef) rfl (by kernel_rfl) (by kernel_rfl) (by kernel_rfl) (fun _ _ _ h => h) (Or.inr ⟨by rfl, rfl⟩) ⟨HC0.out, HM0.out, (Below.refl W.heap.size W).drew⟩ ?_
    try simp only [Act.put, List.setIfInBounds_toArray, List.set_cons_zero, List.set_cons_succ]
    refine takeL (i := 10) (v := undef) rfl (by kernel_rfl) (by kernel_rfl) (by kernel_rfl) (fun _ _ _ h => h) (Or.inr ⟨by rfl, rfl⟩) ⟨HC0.out, HM0.out, (Below.refl W.heap.size W).drew⟩ ?_
    try simp only [Act.put, List.setIfInBounds_toArray, List.set_cons_zero, List.set_cons_succ]
    refine takeL (i := 11) (v := undef) rfl (by kernel_rfl) (by kernel_rfl) (by kernel_rfl) (fun _ _ _ h => h) (Or.inr ⟨by rfl, rfl⟩) ⟨HC0.out, HM0.out, (Below.refl W.heap.size W).drew⟩ ?_
    try simp only [Act.put, List.setIfInBounds_toArray, List.set_cons_zero, List.set_cons_succ]
    refine takeL (i := 12) (v := undef) rfl (by kernel_rfl) (by kernel_rfl) (by kernel_rfl) (fun _ _ _ h => h) (Or.inr ⟨by rfl, rfl⟩) ⟨HC0.out, HM0.out, (Below.refl W.heap.size W).drew⟩ ?_
    try simp only [Act.put, List.setIfInBounds_toArray, List.set_cons_zero, List.set_cons_succ]
    refine takeL (i := 13) (v := undef) rfl (by kernel_rfl) (by kernel_rfl) (by kernel_rfl) (fun _ _ _ h => h) (Or.inr ⟨by rfl, rfl⟩) ⟨HC0.out, HM0.out, (Below.refl W.heap.size W).drew⟩ ?_
    try simp only [Act.put, List.setIfInBounds_toArray, List.set_cons_zero, List.set_cons_succ]
    refine takeL (i := 14) (v := ?_) rfl (by kernel_rfl) (by kernel_rfl) (by kernel_rfl) (fun _ _ _ h => h) (Or.inl ⟨by rfl, ?_⟩) ⟨HC0.out, HM0.out, (Below.refl W.heap.size W).drew⟩ ?_
    rotate_left
    · intro w hw
      try dsimp only at hw
      obtain ⟨q0, q1, q2⟩ := hw
      go_simp
      try with_reducible rfl
    try simp only [Act.put, List.setIfInBounds_toArray, List.set_cons_zero, List.set_cons_succ]
    refine takeL (i := 15) (v := ?_) rfl (by kernel_rfl) (by kernel_rfl) (by kernel_rfl) (fun _ _ _ h => h) (Or.inl ⟨by rfl, ?_⟩) ⟨HC0.out, HM0.out, (Below.refl W.heap.size W).drew⟩ ?_
    rotate_left
    · intro w hw
      try dsimp only at hw
      obtain ⟨q0, q1, q2⟩ := hw
      go_simp
      try with_reducible rfl
    try simp only [Act.put, List.setIfInBounds_toArray, List.set_cons_zero, List.set_cons_succ]
    refine wpAnyH_done (by kernel_rfl) ?_ _
    go_wp2_with fail
    go_ret
    exact ⟨told_bool HQ.out.symm, HB0.out.drew⟩
end Go.Proofs.YtdgbodljmdcagaaGreatDoor

/-
  Of part OfB8: what is needed here.
-/
namespace Go.Proofs.YtdgbodljmdcagaaGreatDoor
open Go.RowKit
set_option linter.unusedVariables false
set_option maxRecDepth 100000
theorem step_no {keys : List (List Int)} {k : Nat} {x : LIn} {s : BS} (h : isW keys x.p = false) : step8 keys k x s = ⟨s.u, s.p, s.o + 1, s.bad⟩ := by unfold step8; rw [if_pos h]
theorem step_late {keys : List (List Int)} {k : Nat} {x : LIn} {s : BS} (h : isW keys x.p = true) (hb : 0 ≤ s.bad) : step8 keys k x s = s := by unfold step8; rw [if_neg (by rw [h]; decide), if_pos hb]
theorem step_told {keys : List (List Int)} {k : Nat} {x : LIn} {s s' : BS} (h : isW keys x.p = true) (hb : ¬ 0 ≤ s.bad) (ht : tell x.dat s = some s') : step8 keys k x s = s' := by unfold step8; rw [if_neg (by rw [h]; decide), if_neg hb, ht]; rfl
theorem step_bad {keys : List (List Int)} {k : Nat} {x : LIn} {s : BS} (h : isW keys x.p = true) (hb : ¬ 0 ≤ s.bad) (ht : tell x.dat s = none) : step8 keys k x s = ⟨s.u, s.p, s.o, k⟩ := by unfold step8; rw [if_neg (by rw [h]; decide), if_neg hb, ht]; rfl
theorem built_bud (x y z : Int) : Tryz.prog.built 46 [(0, .int .u64 x), (1, .int .u64 y), (2, .int .i64 z)] = some ([.int .u64 x, .int .u64 y, .int .i64 z] : List Value).toArray := by kernel_rfl
theorem size_bud (x y z : Int) : (Tryz.prog.info? 46).map (·.size) = some ([.int .u64 x, .int .u64 y, .int .i64 z] : List Value).length := by kernel_rfl
theorem bud_one (x y z : Int) : ∀ u ∈ ([.int .u64 x, .int .u64 y, .int .i64 z] : List Value), u.oneCell' = true := by
  intro u hu
  simp only [List.mem_cons, List.not_mem_nil, or_false] at hu
  rcases hu with rfl | rfl | rfl <;> rfl
theorem ins_bytes {l : List LIn} (h : ∀ i ∈ l, IsByte i.p ∧ AllBytes i.dat) : ∀ i ∈ l, Bytes (i.dat.drop 1) := fun i hi => bytes_all (fun z hz => (h i hi).2 z (List.mem_of_mem_drop hz))
set_option maxRecDepth 100000 in
set_option maxHeartbeats 4000000 in
theorem ofB_ (q : Raw) (m : LMsg) (B : Nat) (w : World) (hm : MsgIn w B q m) (hB : B ≤ w.heap.size) (hi : ∀ i ∈ m.ins, IsByte i.p ∧ AllBytes i.dat) (hn : q.n ≤ 4000) (hl : LenAt w) :
    Calls Tryz.prog 27 #[.agg (q.cells m).toArray] w fun e w' => e = .returned (.agg (bud8 (all8 m.keys m.ins)).toArray) ∧ Below w.heap.size w w' := by
  obtain ⟨W, HX, hb0, hrm, hrb, hrw⟩ : ∃ W, Hid (∀ c1 c2, c1 = ([.int .u64 0, .int .u64 0, .int .i64 0] : List Value).toArray → c2 = (wcells BS.zero).toArray → ((w.alloc (.cells (q.cells m).toArray 40)).alloc (.cells c1 46)).alloc (.cells c2 129) = W) ∧
      Below w.heap.size w W ∧ Row W w.heap.size 40 (q.cells m) ∧ Row W (w.heap.size + 1) 46 [.int .u64 0, .int .u64 0, .int .i64 0] ∧ Row W (w.heap.size + 2) 129 (wcells BS.zero) := by
    refine ⟨_, Lib.hid fun c1 c2 h1 h2 => by rw [h1, h2], (((Below.refl w.heap.size w).alloc (Nat.le_refl _) _).alloc (by simp) _).alloc (by simp; omega) _, ((Row.new w 40 (q.cells m)).alloc _).alloc _, (Row.new' (w.alloc (.cells (q.cells m).toArray 40)) 46 _ (by simp)).alloc _, Row.new' _ 129 _ (by simp)⟩
  have hmr := hm.recent
  have c4 : W.cell? ⟨w.heap.size, 4, none⟩ = some (.slice q.KA q.kn q.kc) := (MsgRow.of hrm hmr).c4
  have c37 : W.cell? ⟨w.heap.size, 37, none⟩ = some (.slice q.IA q.n q.ic) := (MsgRow.of hrm hmr).c37
  have HOK := Lib.hid (fun k hk => run8_ok (keys := m.keys) (ins_bytes hi) k hk)
  have HI := Lib.hid hi
  obtain ⟨KA, kn, kc, IA, n, ic, LA, ln, lc⟩ := q
  dsimp only at *
  have hil := hm.ins.len
  have HIN := Lib.hid (hm.ins.below (hb0.mono hB))
  have HKN := Lib.hid (hm.keys.below (hb0.mono hB))
  have HKC := Lib.hid hm.kn
  have HL := Lib.hid (hl.below hb0 (Nat.lt_of_lt_of_le hl.pos (Nat.le_refl _)))
  have HLP := Lib.hid hl.pos
  have HBB := Lib.hid hB
  have HB0 := Lib.hid hb0
  have HRB := Lib.hid hrb
  have HRW := Lib.hid hrw
  have HWS : Hid (w.heap.size + 3 ≤ W.heap.size) := Lib.hid (by have := hrw.lt; omega)
  have hMC : ∀ (MC : List Value), MC = MC := fun _ => rfl
  generalize Raw.cells ⟨KA, kn, kc, IA, n, ic, LA, ln, lc⟩ m = MC at *
  have HIL := Lib.hid hil
  have HC4 := Lib.hid c4
  clear hm hB hi hl hb0 hrm hrb hrw hmr hil hMC c4
  unfold all8
  generalize m.keys = keys at *
  generalize m.ins = l at *
  go_enter Tryz.func27, Tryz.ntmps27
  go_upto_region 2 with fail
  rw [HX.out _ _ (by kernel_rfl) (by kernel_rfl)]
  clear HX
  go_wp2_with fail
  go_loopw [11, 4, 5] (fun i o b wr => ∃ (k : Nat) (s : BS), k ≤ n ∧ i = .int .i64 k ∧ run8 keys l k = s ∧ o = .int .u64 s.o ∧ b = .int .i64 s.bad ∧ Row wr (w.heap.size + 2) 129 (wcells s) ∧ Below (w.heap.size + 2) W wr) (fun i _ _ _ => n - (intOf i).toNat)
  case atStart => exact ⟨0, BS.zero, Nat.zero_le _, rfl, rfl, rfl, rfl, HRW.out, Below.refl _ _⟩
  case round =>
    obtain ⟨k, s, hk, rfl, hs, rfl, rfl, hrow, hbel⟩ := hrel
    have HS := Lib.hid hs
    have hok := HOK.out k (by rw [HIL.out]; exact hk)
    rw [hs] at hok
    have HO := Lib.hid hok
    have HR := Lib.hid hrow
    have HB := Lib.hid hbel
    have HC := Lib.hid ((hbel.cell (p := ⟨w.heap.size, 4, none⟩) (by show w.heap.size < w.heap.size + 2; omega)).trans HC4.out)
    clear hs hok hrow hbel
    by_cases hlt : k < n
    · obtain ⟨a, x, va, vd, rfl, hab, hx, hat⟩ := HIN.out.get hlt
      have hat := hat.keep hab fun p hp => HB.out.cell (p := p) (by have := HBB.out; omega)
      have HX := Lib.hid hx
      have HP := Lib.hid (HI.out x (List.mem_of_getElem? hx))
      have HAC := Lib.hid hat.cells
      obtain ⟨DA, dc, hvd, hds, hdn, hdm⟩ := hat.dat.is
      subst hvd
      have HD := Lib.hid hds
      have HDC := Lib.hid (And.intro hdn hdm)
      have HSI := Lib.hid (size_in x.p va (.slice DA x.dat.length dc))
      have HI1 := Lib.hid (inCells_one (p := x.p) hat.acc hat.dat)
      have HI3 : Hid ((inCells x.p va (.slice DA x.dat.length dc)).length = 3) := Lib.hid rfl
      have HI2 : Hid ((inCells x.p va (.slice DA x.dat.length dc))[2]? = some (.slice DA x.dat.length dc)) := Lib.hid rfl
      have HOB : Hid (∀ V : World, Below (w.heap.size + 2) W V → Calls Tryz.prog 69 #[.slice KA kn kc, .agg (inCells x.p va (.slice DA x.dat.length dc)).toArray] V fun e w' => e = .returned (.bool (isW keys x.p)) ∧ Below V.heap.size V w') := Lib.hid fun V hV => onBudget_ KA kn kc keys va _ x.p B V (HKN.out.below (hV.mono (by have := HBB.out; omega))) HKC.out (by have := HBB.out; have := hV.size; have := HWS.out; omega) HP.out.1
      have HSB := Lib.hid (HB.out.size)
      clear hat hab hx hds hdn hdm
      generalize inCells x.p va (.slice DA x.dat.length dc) = IC at *
      have HTK : Hid (∀ V : World, Row V (w.heap.size + 2) 129 (wcells s) → Below (w.heap.size + 2) wr V → Calls Tryz.prog 70 #[.pointer (some ⟨w.heap.size + 2, 0, none⟩), .slice DA x.dat.length dc] V (TakeDone V (w.heap.size + 2) x.dat s)) := Lib.hid fun V hV hb => take_ s x.dat DA x.dat.length dc B _ V hV (HD.out.below (hb.mono (by have := HBB.out; omega))) HP.out.2 HDC.out (HL.out.below (HB.out.trans hb) (by omega))
      by_cases hw : isW keys x.p = true
      · have HW := Lib.hid hw
        by_cases hb : 0 ≤ s.bad
        · have HST : Hid (run8 keys l (k + 1) = s) := Lib.hid ((run8_succ (keys := keys) HX.out).trans (by rw [HS.out]; exact step_late (k := k) HW.out hb))
          have hbd : ¬ s.bad < 0 := by omega
          clear hw HTK
          go_wp2_with (first
            | ((with_reducible show wpList _ _ _ ({ dst := some 15, op := Op.load _ _, type := _, pos := _, after := _, guard := _ } :: _) _ _); go_must (refine wpList_load_at rfl 131 (.tmp 14) rfl (a.add (k * 3)) IC _ Tryz.underlying131 rfl HSI.out HAC.out ?_ ?_; go_simp))
            | ((with_reducible show wpList _ _ _ ({ dst := none, op := Op.store 131 _ _, type := _, pos := _, after := _, guard := _ } :: _) _ _); go_must (refine wpList_store_new rfl 131 (.tmp 7) (.tmp 15) rfl IC HSI.out HI1.out (by rw [HI3.out]; rfl) ?_ ?_ ?_; go_simp; go_simp; intro w2 hr2 hb2 hz2; have R2 := Lib.hid hr2; have B2 := Lib.hid hb2; clear hr2 hb2 hz2; have d4 := (B2.out.cell (p := ⟨w.heap.size, 4, none⟩) (by show w.heap.size < wr.heap.size; have := HSB.out; have := HWS.out; omega)).trans HC.out))
            | ((with_reducible show wpList _ _ _ ({ dst := some 19, op := Op.load _ _, type := _, pos := _, after := _, guard := _ } :: _) _ _); go_must (refine wpList_load_whole rfl 131 (.tmp 7) rfl wr.heap.size 131 IC _ Tryz.underlying131 rfl HSI.out R2.out ?_ ?_; go_simp)))
          have HB2 : Hid (Below (w.heap.size + 2) wr w2) := Lib.hid (B2.out.mono (by have := HSB.out; have := HWS.out; omega))
          refine (HOB.out w2 (HB.out.trans HB2.out)).mono ?_
          rintro e w3 ⟨rfl, hb3⟩
          rw [HW.out]
          have HB3 : Hid (Below (w.heap.size + 2) wr w3) := Lib.hid (HB2.out.trans (hb3.mono (by have := B2.out.size; have := HSB.out; have := HWS.out; omega)))
          have HR3 : Hid (Row w3 (w.heap.size + 2) 129 (wcells s)) := Lib.hid ((HR.out.below B2.out (by have := HSB.out; have := HWS.out; omega)).below hb3 (by have := B2.out.size; have := HSB.out; have := HWS.out; omega))
          have d2 := ((R2.out.below hb3 R2.out.lt).cell 2).trans HI2.out
          clear hb3 HOB d4
          go_wp2_with fail
          go_roundw
          case rel => exact ⟨k + 1, s, by omega, by go_num, HST.out, rfl, rfl, HR3.out, HB.out.trans HB3.out⟩
          case measure => simp [intOf]; omega
        · have hbd : s.bad < 0 := by omega
          cases ht : tell x.dat s with
          | none =>
            have HST : Hid (run8 keys l (k + 1) = ⟨s.u, s.p, s.o, k⟩) := Lib.hid ((run8_succ (keys := keys) HX.out).trans (by rw [HS.out]; exact step_bad (k := k) HW.out hb ht))
            have HT := Lib.hid ht
            clear hw hb ht
            go_wp2_with (first
              | ((with_reducible show wpList _ _ _ ({ dst := some 15, op := Op.load _ _, type := _, pos := _, after := _, guard := _ } :: _) _ _); go_must (refine wpList_load_at rfl 131 (.tmp 14) rfl (a.add (k * 3)) IC _ Tryz.underlying131 rfl HSI.out HAC.out ?_ ?_; go_simp))
              | ((with_reducible show wpList _ _ _ ({ dst := none, op := Op.store 131 _ _, type := _, pos := _, after := _, guard := _ } :: _) _ _); go_must (refine wpList_store_new rfl 131 (.tmp 7) (.tmp 15) rfl IC HSI.out HI1.out (by rw [HI3.out]; rfl) ?_ ?_ ?_; go_simp; go_simp; intro w2 hr2 hb2 hz2; have R2 := Lib.hid hr2; have B2 := Lib.hid hb2; clear hr2 hb2 hz2; have d4 := (B2.out.cell (p := ⟨w.heap.size, 4, none⟩) (by show w.heap.size < wr.heap.size; have := HSB.out; have := HWS.out; omega)).trans HC.out))
              | ((with_reducible show wpList _ _ _ ({ dst := some 19, op := Op.load _ _, type := _, pos := _, after := _, guard := _ } :: _) _ _); go_must (refine wpList_load_whole rfl 131 (.tmp 7) rfl wr.heap.size 131 IC _ Tryz.underlying131 rfl HSI.out R2.out ?_ ?_; go_simp)))
            have HB2 : Hid (Below (w.heap.size + 2) wr w2) := Lib.hid (B2.out.mono (by have := HSB.out; have := HWS.out; omega))
            refine (HOB.out w2 (HB.out.trans HB2.out)).mono ?_
            rintro e w3 ⟨rfl, hb3⟩
            rw [HW.out]
            have HB3 : Hid (Below (w.heap.size + 2) wr w3) := Lib.hid (HB2.out.trans (hb3.mono (by have := B2.out.size; have := HSB.out; have := HWS.out; omega)))
            have HR3 : Hid (Row w3 (w.heap.size + 2) 129 (wcells s)) := Lib.hid ((HR.out.below B2.out (by have := HSB.out; have := HWS.out; omega)).below hb3 (by have := B2.out.size; have := HSB.out; have := HWS.out; omega))
            have d2 := ((R2.out.below hb3 R2.out.lt).cell 2).trans HI2.out
            clear hb3 HOB d4
            go_wp2_with fail
            refine (HTK.out w3 HR3.out HB3.out).mono ?_
            rintro e w4 ⟨rfl, hr4, hb4⟩
            rw [HT.out] at hr4 ⊢
            simp only [Option.isSome_none, Option.getD_none] at hr4 ⊢
            have HR4 := Lib.hid hr4
            have HB4 := Lib.hid hb4
            clear hr4 hb4
            go_wp2_with fail
            go_roundw
            case rel => exact ⟨k + 1, _, by omega, by go_num, HST.out, rfl, rfl, HR4.out, (HB.out.trans HB3.out).trans HB4.out⟩
            case measure => simp [intOf]; omega
          | some s' =>
            have HST : Hid (run8 keys l (k + 1) = s') := Lib.hid ((run8_succ (keys := keys) HX.out).trans (by rw [HS.out]; exact step_told (k := k) HW.out hb ht))
            have HT := Lib.hid ht
            have HK2 := Lib.hid (tell_kept ht)
            clear hw hb ht
            go_wp2_with (first
              | ((with_reducible show wpList _ _ _ ({ dst := some 15, op := Op.load _ _, type := _, pos := _, after := _, guard := _ } :: _) _ _); go_must (refine wpList_load_at rfl 131 (.tmp 14) rfl (a.add (k * 3)) IC _ Tryz.underlying131 rfl HSI.out HAC.out ?_ ?_; go_simp))
              | ((with_reducible show wpList _ _ _ ({ dst := none, op := Op.store 131 _ _, type := _, pos := _, after := _, guard := _ } :: _) _ _); go_must (refine wpList_store_new rfl 131 (.tmp 7) (.tmp 15) rfl IC HSI.out HI1.out (by rw [HI3.out]; rfl) ?_ ?_ ?_; go_simp; go_simp; intro w2 hr2 hb2 hz2; have R2 := Lib.hid hr2; have B2 := Lib.hid hb2; clear hr2 hb2 hz2; have d4 := (B2.out.cell (p := ⟨w.heap.size, 4, none⟩) (by show w.heap.size < wr.heap.size; have := HSB.out; have := HWS.out; omega)).trans HC.out))
              | ((with_reducible show wpList _ _ _ ({ dst := some 19, op := Op.load _ _, type := _, pos := _, after := _, guard := _ } :: _) _ _); go_must (refine wpList_load_whole rfl 131 (.tmp 7) rfl wr.heap.size 131 IC _ Tryz.underlying131 rfl HSI.out R2.out ?_ ?_; go_simp)))
            have HB2 : Hid (Below (w.heap.size + 2) wr w2) := Lib.hid (B2.out.mono (by have := HSB.out; have := HWS.out; omega))
            refine (HOB.out w2 (HB.out.trans HB2.out)).mono ?_
            rintro e w3 ⟨rfl, hb3⟩
            rw [HW.out]
            have HB3 : Hid (Below (w.heap.size + 2) wr w3) := Lib.hid (HB2.out.trans (hb3.mono (by have := B2.out.size; have := HSB.out; have := HWS.out; omega)))
            have HR3 : Hid (Row w3 (w.heap.size + 2) 129 (wcells s)) := Lib.hid ((HR.out.below B2.out (by have := HSB.out; have := HWS.out; omega)).below hb3 (by have := B2.out.size; have := HSB.out; have := HWS.out; omega))
            have d2 := ((R2.out.below hb3 R2.out.lt).cell 2).trans HI2.out
            clear hb3 HOB d4
            go_wp2_with fail
            refine (HTK.out w3 HR3.out HB3.out).mono ?_
            rintro e w4 ⟨rfl, hr4, hb4⟩
            rw [HT.out] at hr4 ⊢
            simp only [Option.isSome_some, Option.getD_some] at hr4 ⊢
            have HR4 := Lib.hid hr4
            have HB4 := Lib.hid hb4
            clear hr4 hb4
            go_wp2_with fail
            go_roundw
            case rel => exact ⟨k + 1, s', by omega, by go_num, HST.out, by rw [HK2.out.1], by rw [HK2.out.2], HR4.out, (HB.out.trans HB3.out).trans HB4.out⟩
            case measure => simp [intOf]; omega
      · have hw : isW keys x.p = false := by simpa using hw
        have HW := Lib.hid hw
        have HST : Hid (run8 keys l (k + 1) = ⟨s.u, s.p, s.o + 1, s.bad⟩) := Lib.hid ((run8_succ (keys := keys) HX.out).trans (by rw [HS.out]; exact step_no (k := k) HW.out))
        have hso : s.o ≤ k := HO.out.o
        clear hw HTK
        go_wp2_with (first
          | ((with_reducible show wpList _ _ _ ({ dst := some 15, op := Op.load _ _, type := _, pos := _, after := _, guard := _ } :: _) _ _); go_must (refine wpList_load_at rfl 131 (.tmp 14) rfl (a.add (k * 3)) IC _ Tryz.underlying131 rfl HSI.out HAC.out ?_ ?_; go_simp))
          | ((with_reducible show wpList _ _ _ ({ dst := none, op := Op.store 131 _ _, type := _, pos := _, after := _, guard := _ } :: _) _ _); go_must (refine wpList_store_new rfl 131 (.tmp 7) (.tmp 15) rfl IC HSI.out HI1.out (by rw [HI3.out]; rfl) ?_ ?_ ?_; go_simp; go_simp; intro w2 hr2 hb2 hz2; have R2 := Lib.hid hr2; have B2 := Lib.hid hb2; clear hr2 hb2 hz2; have d4 := (B2.out.cell (p := ⟨w.heap.size, 4, none⟩) (by show w.heap.size < wr.heap.size; have := HSB.out; have := HWS.out; omega)).trans HC.out))
          | ((with_reducible show wpList _ _ _ ({ dst := some 19, op := Op.load _ _, type := _, pos := _, after := _, guard := _ } :: _) _ _); go_must (refine wpList_load_whole rfl 131 (.tmp 7) rfl wr.heap.size 131 IC _ Tryz.underlying131 rfl HSI.out R2.out ?_ ?_; go_simp)))
        have HB2 : Hid (Below (w.heap.size + 2) wr w2) := Lib.hid (B2.out.mono (by have := HSB.out; have := HWS.out; omega))
        refine (HOB.out w2 (HB.out.trans HB2.out)).mono ?_
        rintro e w3 ⟨rfl, hb3⟩
        rw [HW.out]
        have HB3 : Hid (Below (w.heap.size + 2) wr w3) := Lib.hid (HB2.out.trans (hb3.mono (by have := B2.out.size; have := HSB.out; have := HWS.out; omega)))
        have HR3 : Hid (Row w3 (w.heap.size + 2) 129 (wcells s)) := Lib.hid ((HR.out.below B2.out (by have := HSB.out; have := HWS.out; omega)).below hb3 (by have := B2.out.size; have := HSB.out; have := HWS.out; omega))
        have d2 := ((R2.out.below hb3 R2.out.lt).cell 2).trans HI2.out
        clear hb3 HOB d4
        go_wp2_with fail
        go_roundw
        case rel => exact ⟨k + 1, _, by omega, by go_num, HST.out, by go_num, rfl, HR3.out, HB.out.trans HB3.out⟩
        case measure => simp [intOf]; omega
    · obtain rfl : k = n := by omega
      have HP : Hid (wr.drew.cell? ⟨w.heap.size + 2, 6, none⟩ = some (.int .u64 (s.p.getD 0))) := Lib.hid (HR.out.drew.cell 6)
      have HRB2 : Hid (Row wr.drew (w.heap.size + 1) 46 [.int .u64 0, .int .u64 0, .int .i64 0]) := Lib.hid (HRB.out.below HB.out (by omega)).drew
      have HRU := Lib.hid HR.out.drew
      have HUN := Lib.hid (units_ s (w.heap.size + 2) wr.drew HR.out.drew (by have := HO.out.o; omega))
      have HBD : Hid (Below w.heap.size w wr.drew) := Lib.hid (HB0.out.trans (HB.out.drew.mono (by omega)))
      have HBU : Hid (bud8 s = [.int .u64 (units8 s), .int .u64 (s.p.getD 0), .int .i64 s.bad]) := Lib.hid rfl
      clear HO HOK HIN HKN HRW HR
      go_upto_region 12 with fail
      refine wp_region_held_drew (S := (fun V => V.cell? ⟨w.heap.size + 2, 6, none⟩ = some (.int .u64 (s.p.getD 0)))) (by kernel_rfl) HP.out (fun _ => ?_)
      refine takeL (i := 0) (v := ?_) rfl (by kernel_rfl) (by kernel_rfl) (by kernel_rfl) (fun _ _ _ h => h) (Or.inl ⟨by rfl, ?_⟩) HP.out ?_
      rotate_left
      · intro w hw
        try dsimp only at hw
        go_simp
        try with_reducible rfl
      try simp only [Act.put, List.setIfInBounds_toArray, List.set_cons_zero, List.set_cons_succ]
      refine takeL (i := 2) (v := ?_) rfl (by kernel_rfl) (by kernel_rfl) (by kernel_rfl) (fun _ _ _ h => h) (Or.inl ⟨by rfl, ?_⟩) HP.out ?_
      rotate_left
      · intro w hw
        try dsimp only at hw
        go_simp
        try with_reducible rfl
      try simp only [Act.put, List.setIfInBounds_toArray, List.set_cons_zero, List.set_cons_succ]
      refine takeL (i := 3) (v := ?_) rfl (by kernel_rfl) (by kernel_rfl) (by kernel_rfl) (fun _ _ _ h => h) (Or.inl ⟨by rfl, ?_⟩) HP.out ?_
      rotate_left
      · intro w hw
        try dsimp only at hw
        go_simp
        try with_reducible rfl
      try simp only [Act.put, List.setIfInBounds_toArray, List.set_cons_zero, List.set_cons_succ]
      refine takeL (i := 4) (v := ?_) rfl (by kernel_rfl) (by kernel_rfl) (by kernel_rfl) (fun _ _ _ h => h) (Or.inl ⟨by rfl, ?_⟩) HP.out ?_
      rotate_left
      · intro w hw
        try dsimp only at hw
        go_simp
        try with_reducible rfl
      try simp only [Act.put, List.setIfInBounds_toArray, List.set_cons_zero, List.set_cons_succ]
      refine takeL (i := 5) (v := ?_) rfl (by kernel_rfl) (by kernel_rfl) (by kernel_rfl) (fun _ _ _ h => h) (Or.inl ⟨by rfl, ?_⟩) HP.out ?_
      rotate_left
      · intro w hw
        try dsimp only at hw
        go_simp
        try with_reducible rfl
      try simp only [Act.put, List.setIfInBounds_toArray, List.set_cons_zero, List.set_cons_succ]
      refine readyL (i := 1) rfl (by kernel_rfl) (by kernel_rfl) fun K hK => ?_
      go_simp
      refine HUN.out.mono ?_
      rintro e w1 ⟨rfl, rfl⟩
      refine hK.out _ _ HP.out ?_
      clear hK K
      try simp only [Act.put, List.setIfInBounds_toArray, List.set_cons_zero, List.set_cons_succ]
      refine takeL (i := 6) (v := .agg ([.int .u64 (units8 s), .int .u64 (s.p.getD 0), .int .i64 s.bad] : List Value).toArray) rfl (by kernel_rfl) (by kernel_rfl) (by kernel_rfl) (fun _ _ _ h => h) (Or.inl ⟨by rfl, fun wz hwz => exec_built wz _ _ _ rfl (by simp only [List.map_toArray, List.map_cons, List.map_nil]; exact built_bud _ _ _)⟩) HP.out ?_
      try simp only [Act.put, List.setIfInBounds_toArray, List.set_cons_zero, List.set_cons_succ]
      refine readyL (i := 7) rfl (by kernel_rfl) (by kernel_rfl) fun K hK => ?_
      refine wp_store_whole 46 (.tmp 2) (.tmp 41) rfl (w.heap.size + 1) _ [.int .u64 (units8 s), .int .u64 (s.p.getD 0), .int .i64 s.bad] HRB2.out (size_bud _ _ _) rfl (bud_one _ _ _) (by go_simp) (by go_simp) ?_
      intro w5 hr5 ht5
      have R5 := Lib.hid hr5
      have B5 := Lib.hid (HBD.out.trans (ht5.below (by omega)))
      have C5 : Hid (w5.cell? ⟨w.heap.size + 2, 6, none⟩ = some (.int .u64 (s.p.getD 0))) := Lib.hid ((ht5.row HRU.out (by omega)).cell 6)
      clear hr5 ht5
      refine hK.out _ _ C5.out ?_
      clear hK K
      try simp only [Act.put]
      refine wpAnyH_done (by kernel_rfl) ?_ _
      go_wp2_with fail
      refine bodyPost_ret (results_cell_row (h := rfl) _ w5 (w.heap.size + 1) 46 _ (0, 0) _ (by rfl) R5.out.is Tryz.underlying46 rfl (size_bud _ _ _)) rfl ?_
      exact ⟨by rw [HIL.out, HS.out, HBU.out], B5.out⟩
end Go.Proofs.YtdgbodljmdcagaaGreatDoor

/-
  Of part Lives7: what is needed here.
-/
namespace Go.Proofs.YtdgbodljmdcagaaGreatDoor
open Go.RowKit
set_option linter.unusedVariables false
set_option maxRecDepth 100000
def xq (a : Int) : List Int := a :: List.replicate 31 0
def e7 : List LRole := [⟨xq 1, true, true⟩, ⟨xq 2, true, false⟩, ⟨xq 4, false, true⟩, ⟨k0, false, false⟩]
end Go.Proofs.YtdgbodljmdcagaaGreatDoor

/-
  Of part With8: what is needed here.
-/
namespace Go.Proofs.YtdgbodljmdcagaaGreatDoor
open Go.RowKit
set_option linter.unusedVariables false
set_option maxRecDepth 100000
/-- the keys of such a message; its instructions -/
def keys8 : List (List Int) := [xq 7, k3, xq 8]
def m8 (ins : List LIn) : LMsg := ⟨false, 0, 0, 0, keys8, List.replicate 32 0, ins, []⟩
def q8 (g : Nat) (A : Option Addr) (n c : Nat) : Raw := ⟨some ⟨g, 0, none⟩, 3, 3, A, n, c, none, 0, 0⟩
theorem cells_8 (g : Nat) (A A' : Option Addr) (n n' c c' : Nat) (ins ins' : List LIn) : ((q8 g A n c).cells (m8 ins)).set 37 (.slice A' n' c') = (q8 g A' n' c').cells (m8 ins') := rfl
theorem keys8_len : ∀ k ∈ keys8, k.length = 32 := by
  intro k hk
  simp only [keys8, List.mem_cons, List.not_mem_nil, or_false] at hk
  rcases hk with rfl | rfl | rfl <;> rfl
theorem own_apart {w : World} {base g : Nat} {e t : TypeId} {size n : Nat} {v : Value} {xs ys : List Value} (h : w.ownsRow base e size v n xs) (hr : Row w g t ys) (hne : e ≠ t) : some g ≠ v.ownBlock := fun e1 => by
  obtain ⟨cur, hc⟩ := own_is h e1.symm
  rw [hr.is] at hc
  injection (Option.some.inj hc) with _ h3 _
  exact hne h3.symm
/-- a message in a block of its own, its instructions a row of the call's own -/
structure W8 (B lo : Nat) (w : World) (gk gm : Nat) (A : Option Addr) (n c : Nat) (ins : List LIn) : Prop where
  rk : Row w gk 78 (bv (xq 7) ++ (bv k3 ++ bv (xq 8)))
  rm : Row w gm 40 ((q8 gk A n c).cells (m8 ins))
  own : ∃ news, w.ownsRow lo 131 3 (.slice A n c) n news ∧ InsCells w B ins news
  hk : lo ≤ gk
  hm : lo ≤ gm
  len : ins.length = n
  bl : B ≤ lo
section
variable {B lo : Nat} {w w' : World} {gk gm : Nat} {A : Option Addr} {n c : Nat} {ins : List LIn}
theorem W8.size (h : W8 B lo w gk gm A n c ins) : lo < w.heap.size := by have := h.rm.lt; have := h.hm; omega
theorem W8.below (h : W8 B lo w gk gm A n c ins) (hb : Below w.heap.size w w') : W8 B lo w' gk gm A n c ins := by
  obtain ⟨news, ho, hi⟩ := h.own
  exact ⟨h.rk.below hb h.rk.lt, h.rm.below hb h.rm.lt, ⟨news, own_below ho hb, hi.below (hb.mono (by have := h.size; have := h.bl; omega))⟩, h.hk, h.hm, h.len, h.bl⟩
theorem W8.drew (h : W8 B lo w gk gm A n c ins) : W8 B lo w.drew gk gm A n c ins := h.below (Below.refl _ _).drew
theorem W8.in_ (h : W8 B lo w gk gm A n c ins) : MsgIn w w.heap.size (q8 gk A n c) (m8 ins) := by
  obtain ⟨news, ho, hi⟩ := h.own
  obtain ⟨A', c', he, hs, h1, h2, _⟩ := own_form2 ho
  injection he with e1 e2 e3
  subst e1 e3
  exact ⟨rfl, keys_row (l := keys8) (ys := []) (by rw [List.append_nil]; exact h.rk) rfl keys8_len h.rk.lt, (hi.more (by have := h.size; have := h.bl; omega)).in_ hs h.len, ⟨rfl, by simp [m8]⟩, ⟨Nat.le_refl _, by show 3 ≤ maxLen; unfold maxLen; omega⟩, ⟨h1, h2⟩, ⟨Nat.le_refl _, Nat.zero_le _⟩⟩
theorem W8.grow {A' : Option Addr} {n' c' : Nat} {ins2 : List LIn} {news news' : List Value} (h : W8 B lo w gk gm A n c ins) (ho : w.ownsRow lo 131 3 (.slice A n c) n news) (hg : Grew w w' (.slice A n c) (.slice A' n' c')) (ho' : w'.ownsRow lo 131 3 (.slice A' n' c') n' news') (hi' : InsCells w B (ins ++ ins2) news') (hn : n + ins2.length = n') :
    W8 B lo (w'.setCell ⟨gm, 37, none⟩ (.slice A' n' c')) gk gm A' n' c' (ins ++ ins2) := by
  have hb : Below lo w w' := (Below.refl lo w).grown hg.grown (Nat.le_of_lt h.size) fun k hk => (ho.lt k hk).1
  have hrm : Row w' gm 40 ((q8 gk A n c).cells (m8 ins)) := h.rm.grown hg.grown (own_apart ho h.rm (by decide))
  have hrk : Row w' gk 78 (bv (xq 7) ++ (bv k3 ++ bv (xq 8))) := h.rk.grown hg.grown (own_apart ho h.rk (by decide))
  have hne : gk ≠ gm := fun e => by
    have h1 := h.rk.is
    rw [e, h.rm.is] at h1
    injection (Option.some.inj h1) with _ h3 _
    exact absurd h3 (by decide)
  have hb2 : Below lo w (w'.setCell ⟨gm, 37, none⟩ (.slice A' n' c')) := hb.setCell (p := ⟨gm, 37, none⟩) h.hm _
  refine ⟨hrk.far (p := ⟨gm, 37, none⟩) hne _, ?_, ⟨news', own_turned ho' hrm (by decide) (turned_setCell w' ⟨gm, 37, none⟩ _), hi'.below (hb2.mono h.bl)⟩, h.hk, h.hm, by rw [List.length_append, h.len, hn], h.bl⟩
  have := hrm.set_ 37 (.slice A' n' c')
  rwa [cells_8 gk A A' n n' c c' ins (ins ++ ins2)] at this
end
theorem W8.turned {B lo : Nat} {w w' : World} {gk gm g : Nat} {A : Option Addr} {n c : Nat} {ins : List LIn} (h : W8 B lo w gk gm A n c ins) (ht : Turned w w' g) (hB : B ≤ g) (hg : g < lo) : W8 B lo w' gk gm A n c ins := by
  obtain ⟨news, ho, hi⟩ := h.own
  have h1 := h.hk
  have h2 := h.hm
  exact ⟨ht.row h.rk (by omega), ht.row h.rm (by omega), ⟨news, own_keep ho fun k hk => ht.block k (by have := (ho.lt k hk).1; omega), hi.below (ht.below hB)⟩, h1, h2, h.len, h.bl⟩
end Go.Proofs.YtdgbodljmdcagaaGreatDoor

/-
  Of part Lives9: what is needed here.
-/
namespace Go.Proofs.YtdgbodljmdcagaaGreatDoor
open Go.RowKit
set_option linter.unusedVariables false
set_option maxRecDepth 100000
/-- a transaction as a value: so many signatures, these instructions, below block B -/
structure CX (w : World) (B : Nat) (cs : List Value) (ns : Nat) (l : List LIn) : Prop where
  len : cs.length = 40
  c0 : ∃ SA sc, cs[0]? = some (.slice SA ns sc)
  c38 : ∃ A n c, cs[38]? = some (.slice A n c) ∧ InsIn w B A n l
  one : ∀ u ∈ cs, u.oneCell' = true
theorem CX.below {w w' : World} {B : Nat} {cs : List Value} {ns : Nat} {l : List LIn} (h : CX w B cs ns l) (hb : Below B w w') : CX w' B cs ns l := by
  obtain ⟨A, n, c, h1, h2⟩ := h.c38
  exact ⟨h.len, h.c0, ⟨A, n, c, h1, h2.below hb⟩, h.one⟩
theorem CX.more {w : World} {B B' : Nat} {cs : List Value} {ns : Nat} {l : List LIn} (h : CX w B cs ns l) (hB : B ≤ B') : CX w B' cs ns l := by
  obtain ⟨A, n, c, h1, h2⟩ := h.c38
  exact ⟨h.len, h.c0, ⟨A, n, c, h1, h2.more hB⟩, h.one⟩
/-- costs.Of of it -/
theorem CX.cost {w : World} {B : Nat} {cs : List Value} {ns : Nat} {l : List LIn} (h : CX w B cs ns l) (hB : B ≤ w.heap.size) (h1 : ns ≤ 4000) (h2 : l.length ≤ 4000) (h3 : dat9 l ≤ 4000) (wr u : Int) (h4 : -9223372036854775808 ≤ wr) (h5 : wr < 9223372036854775808) (h6 : Word u) :
    Calls Tryz.prog 29 #[.agg cs.toArray, .int .i64 wr, .int .u64 u] w fun e w' => e = .returned (.int .u64 (cost9 ns (dat9 l) wr u)) ∧ Below w.heap.size w w' := by
  obtain ⟨A, n, c, hc, hin⟩ := h.c38
  obtain ⟨SA, sc, h0⟩ := h.c0
  exact cost_ cs ns n SA A sc c B l wr u w h.len h0 hc hin hB h1 (by rw [← hin.len]; exact h2) h3 h4 h5 h6
/-- out of a transaction -/
theorem CX.of {w : World} {B : Nat} {s : TRaw} {x : LTx} (h : TxIn w B s x) : CX w B (s.cells x) x.sigs.length x.m.ins :=
  ⟨tcells_len h.m.recent, ⟨s.SA, s.sc, by rw [h.sigs.len]; rfl⟩, ⟨s.q.IA, s.q.n, s.q.ic, (tcells_m 37).trans (cells_37 h.m.recent), h.m.ins⟩, tcells_one⟩
theorem CX.zero (w : World) (B : Nat) : CX w B tzero 0 [] := CX.of (zTx_in w B)
/-- signatures of its own -/
theorem CX.sigs {w : World} {B : Nat} {cs : List Value} {ns : Nat} {l : List LIn} (h : CX w B cs ns l) (A : Option Addr) (n c : Nat) : CX w B (cs.set 0 (.slice A n c)) n l := by
  obtain ⟨A', n', c', h1, h2⟩ := h.c38
  refine ⟨by simp [h.len], ⟨A, c, by simp [h.len]⟩, ⟨A', n', c', by simpa using h1, h2⟩, fun u hu => ?_⟩
  rcases List.mem_or_eq_of_mem_set hu with hu | rfl
  · exact h.one u hu
  · rfl
/-- instructions of its own -/
theorem CX.ins {w : World} {B : Nat} {cs : List Value} {ns : Nat} {l l' : List LIn} (h : CX w B cs ns l) {A : Option Addr} {n c : Nat} (hi : InsIn w B A n l') : CX w B (cs.set 38 (.slice A n c)) ns l' := by
  obtain ⟨SA, sc, h0⟩ := h.c0
  refine ⟨by simp [h.len], ⟨SA, sc, by simpa using h0⟩, ⟨A, n, c, by simp [h.len], hi⟩, fun u hu => ?_⟩
  rcases List.mem_or_eq_of_mem_set hu with hu | rfl
  · exact h.one u hu
  · rfl
end Go.Proofs.YtdgbodljmdcagaaGreatDoor

/-
  Of part RefWide: what is needed here.
-/
namespace Go.Proofs.YtdgbodljmdcagaaGreatDoor
open Go.RowKit
set_option linter.unusedVariables false
set_option maxRecDepth 100000
/-- the number of digits to the base 65536, the lowest first -/
def val : List Int → Int
  | [] => 0
  | a :: t => a + 65536 * val t
/-- the sum of one round -/
def round (x y o : List Int) (i k : Nat) (c : Int) : Int := o.getD (i + k) 0 + x.getD i 0 * y.getD k 0 + c
end Go.Proofs.YtdgbodljmdcagaaGreatDoor

/-
  Of part SumsWalk: what is needed here.
-/
namespace Go.Proofs.YtdgbodljmdcagaaGreatDoor
open Go.RowKit
set_option linter.unusedVariables false
set_option maxRecDepth 100000
theorem Sees.drop {w : World} {B n : Nat} {A : Option Addr} {xs : List Value} (h : Sees w B A n xs) {a : Addr} (hA : A = some a) (k : Nat) : Sees w B (some (a.add k)) (n - k) (xs.drop k) :=
  ⟨by have := h.len; simp; omega, fun i u hu => by
    rw [List.getElem?_drop] at hu
    obtain ⟨a', e, hb, hc⟩ := h.cell _ u hu
    rw [hA] at e
    cases e
    exact ⟨_, rfl, by rw [addr_block]; exact hb, by rw [addr_add]; exact hc⟩⟩
theorem Sees.take {w : World} {B n : Nat} {A : Option Addr} {xs : List Value} (h : Sees w B A n xs) (k : Nat) (hk : k ≤ n) : Sees w B A k (xs.take k) :=
  ⟨by have := h.len; simp; omega, fun i u hu => by
    rw [List.getElem?_take] at hu
    split at hu
    · exact h.cell i u hu
    · cases hu⟩
end Go.Proofs.YtdgbodljmdcagaaGreatDoor

/-
  Of part OfWalk9: what is needed here.
-/
namespace Go.Proofs.YtdgbodljmdcagaaGreatDoor
open Go.RowKit
set_option linter.unusedVariables false
set_option maxRecDepth 100000
theorem dat9_le : ∀ (l : List LIn), dat9 l ≤ inSize l
  | [] => Nat.le_refl _
  | x :: r => by
    have := dat9_le r
    unfold dat9 inSize at *
    simp only [List.map_cons, List.sum_cons]
    omega
end Go.Proofs.YtdgbodljmdcagaaGreatDoor
