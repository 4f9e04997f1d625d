/-
  Parts joined: Take8 Word8.
-/
import Derived.Below
import Derived.Laws.OwnMore
import Derived.Deep.AppendLies
import Derived.Deep.Draws
import Derived.Lib.Hide
import Derived.Laws.MakeOwn
import Derived.Laws.CopyOwn
import Derived.Laws.Rows
import Derived.Maps.AppendAt
import Derived.OwnWalk
import Derived.Laws.BitsAllLaws
import Derived.WalkKit
import Derived.Test.YtdeadehcnellpaaDoorRows
import Derived.WalkSpells
import Derived.WalkLawsBesides
import Derived.IntWalk
import Derived.Deep.MidRow
import Derived.Deep.WholeRow
import Derived.Great.BuildSlice
import Derived.Recover
import Derived.Deep.RegionHeld
import Derived.Deep.QuietTactic
import Derived.BigQuiet
import Derived.ChangeKeysEq
import Derived.Deep.RegionHeld2
import Derived.Deep.CutBlock
import Derived.Laws.Tables
import Derived.ProofKit
import Derived.OpenShut
import Derived.ShutString
import Derived.ChangeOld
import Derived.Lib.SmallJoins
import Derived.Deep.Slices
import Derived.Deep.Strs
import Derived.SizedLaws
import Derived.Laws.StructEq
import Derived.Deep.DeepCutAuto
import Derived.Laws.Slices
import Derived.Laws.EntriesVeiled
import Derived.Deep.RegionHeld3
import Derived.Maps.OwnSet
import Derived.DeepKeys4
import Derived.WideKeyArr
import Derived.WideKeyEntry
import Derived.Shelf.SlMaps.Clone
import Derived.LaidMore
import Derived.Test.YtdeadehcnellpaaDoorA1
import Derived.Test.YtdeadehcnellpaaDoorA2
import Derived.Test.YtdeadehcnellpaaDoorA3
import Derived.Test.YtdeadehcnellpaaDoorA4
/-
  Of part Take8: what is needed here.
-/
namespace Go.Proofs.YtdeadehcnellpaaDoor
open Go.RowKit
set_option linter.unusedVariables false
theorem bytes_all {l : List Int} (h : AllBytes l) : Bytes l := fun i => by
  rcases Nat.lt_or_ge i l.length with hi | hi
  · rw [List.getD_eq_getElem?_getD, List.getElem?_eq_getElem hi]; exact h _ (List.getElem_mem hi)
  · rw [List.getD_eq_getElem?_getD, List.getElem?_eq_none hi]; exact ⟨Int.le_refl _, by decide⟩
theorem size_b8 : (Tryd.prog.info? 5).map (·.size) = some 1 := by kernel_rfl
theorem size_told (x : Int) (b : Bool) : (Tryd.prog.info? 56).map (·.size) = some ([.int .u64 x, .bool b] : List Value).length := by kernel_rfl
theorem built_told (x : Int) (b : Bool) : Tryd.prog.built 56 [(0, .int .u64 x), (1, .bool b)] = some ([.int .u64 x, .bool b] : List Value).toArray := by kernel_rfl
theorem told_one (x : Int) (b : Bool) : ∀ u ∈ ([.int .u64 x, .bool b] : List Value), u.oneCell' = true := by
  intro u hu
  simp only [List.mem_cons, List.not_mem_nil, or_false] at hu
  rcases hu with rfl | rfl <;> rfl
set_option maxRecDepth 100000 in
set_option maxHeartbeats 400000 in
theorem units_ (s : BS) (g : Nat) (w : World) (hr : Row w g 58 (wcells s)) (ho : s.o ≤ 100000) :
    Calls Tryd.prog 20 #[.pointer (some ⟨g, 0, none⟩), .int .u64 s.o] w fun e w' => e = .returned (.int .u64 (units8 s)) ∧ w = w' := by
  have c4 : w.cell? ⟨g, 4, none⟩ = some (.int .u64 (s.u.getD 0)) := hr.cell 4
  have c5 : w.cell? ⟨g, 5, none⟩ = some (.bool s.u.isSome) := hr.cell 5
  obtain ⟨u, p, o, bad⟩ := s
  clear hr
  dsimp only at *
  have hw : IntKind.u64.wrap ((o : Int) * 200000) = (o : Int) * 200000 := u64_in _ (by omega) (by omega)
  cases u with
  | none =>
    simp only [Option.getD_none, Option.isSome_none] at c4 c5
    rcases (show 1400000 < (o : Int) * 200000 ∨ (o : Int) * 200000 ≤ 1400000 by omega) with h | h
    · have HU : Hid (units8 ⟨none, p, o, bad⟩ = 1400000) := Lib.hid (by unfold units8; show (if (1400000 : Int) < (o : Int) * 200000 then (1400000 : Int) else (o : Int) * 200000) = 1400000; rw [if_pos h])
      go_enter Tryd.func20, Tryd.ntmps20
      go_wp2
      go_ret
      exact ⟨by rw [HU.out]; rfl, rfl⟩
    · have HU : Hid (units8 ⟨none, p, o, bad⟩ = (o : Int) * 200000) := Lib.hid (by unfold units8; show (if (1400000 : Int) < (o : Int) * 200000 then (1400000 : Int) else (o : Int) * 200000) = (o : Int) * 200000; rw [if_neg (by omega)])
      go_enter Tryd.func20, Tryd.ntmps20
      go_wp2
      go_ret
      exact ⟨by rw [HU.out]; rfl, rfl⟩
  | some v =>
    simp only [Option.getD_some, Option.isSome_some] at c4 c5
    rcases (show 1400000 < v ∨ v ≤ 1400000 by omega) with h | h
    · have HU : Hid (units8 ⟨some v, p, o, bad⟩ = 1400000) := Lib.hid (by unfold units8; show (if (1400000 : Int) < v then (1400000 : Int) else v) = 1400000; rw [if_pos h])
      go_enter Tryd.func20, Tryd.ntmps20
      go_wp2
      go_ret
      exact ⟨by rw [HU.out]; rfl, rfl⟩
    · have HU : Hid (units8 ⟨some v, p, o, bad⟩ = v) := Lib.hid (by unfold units8; show (if (1400000 : Int) < v then (1400000 : Int) else v) = v; rw [if_neg (by omega)])
      go_enter Tryd.func20, Tryd.ntmps20
      go_wp2
      go_ret
      exact ⟨by rw [HU.out]; rfl, rfl⟩
/-- what take leaves -/
def TakeDone (w : World) (g : Nat) (d : List Int) (s : BS) (e : Ending) (w' : World) : Prop :=
  e = .returned (.bool (tell d s).isSome) ∧ Row w' g 58 (wcells ((tell d s).getD s)) ∧ Below g w w'
set_option maxRecDepth 100000 in
set_option maxHeartbeats 4000000 in
theorem take_ (s : BS) (d : List Int) (A : Option Addr) (n c B g : Nat) (w : World) (hr : Row w g 58 (wcells s)) (hs : Sees w B A n (bv d)) (hd : AllBytes d) (hn : n ≤ c ∧ c ≤ maxLen) (hl : LenAt w) :
    Calls Tryd.prog 19 #[.pointer (some ⟨g, 0, none⟩), .slice A n c] w (TakeDone w g d s) := by
  unfold TakeDone
  have hdl : d.length = n := by have := hs.len; rwa [bv_length] at this
  have HR := Lib.hid hr
  have HL : Hid (LenAt w.drew) := Lib.hid (hl.keep fun _ _ => rfl)
  clear hr hl
  cases d with
  | nil =>
    obtain rfl : n = 0 := hdl.symm
    have HT : Hid (tell [] s = none) := Lib.hid (by unfold tell; rw [if_neg (fun h => absurd h.1 (by decide)), if_neg (fun h => absurd h.1 (by decide))])
    clear hs hd hdl hn
    go_enter Tryd.func19, Tryd.ntmps19
    go_wp2
    go_ret
    exact ⟨by rw [HT.out]; rfl, by rw [HT.out]; exact HR.out, Below.refl g w⟩
  | cons z r =>
    obtain ⟨N, hN1⟩ : ∃ N, n = N + 1 := ⟨r.length, by rw [← hdl]; rfl⟩
    have HN1 : Hid (n - 1 = N) := Lib.hid (by omega)
    have HRL : Hid (r.length = N) := Lib.hid (by rw [List.length_cons] at hdl; omega)
    have HBR := Lib.hid (bytes_all (fun y hy => hd y (List.mem_cons_of_mem _ hy)))
    have HTS : Hid (Sees w B (tailAt A c 1) N (bv r)) := Lib.hid (by have h := hs.tail (k := 1) (by omega) hn.1; rw [HN1.out] at h; exact h)
    obtain ⟨hz0, hz1⟩ := hd z (List.mem_cons_self ..)
    obtain ⟨a, rfl, hab, hc⟩ := hs.byte (k := 0) (by omega)
    have ea : a.add 0 = a := by simp [Addr.add]
    have c0 : w.cell? a = some (.int .u8 z) := by rw [ea] at hc; exact hc
    have HNC := Lib.hid hn.1
    have HCM := Lib.hid hn.2
    have HNM : Hid (N + 1 ≤ maxLen) := Lib.hid (hN1 ▸ Nat.le_trans hn.1 hn.2)
    have C0 := Lib.hid (show w.drew.cell? a = some (.int .u8 z) from c0)
    have en : ((n : Int) == 0) = false := by simp only [beq_eq_false_iff_ne]; omega
    have en2 : (n == 0) = false := by simp only [beq_eq_false_iff_ne]; omega
    have hnp : 0 < n := by omega
    have HN2 := Lib.hid hN1
    clear hs hd hdl hn hab ea hN1
    by_cases h4 : 4 ≤ z
    · have HT : Hid (tell (z :: r) s = none) := Lib.hid (by
        unfold tell
        rw [if_neg (fun h => by have h2 : z = 2 := h.2.1; omega), if_neg (fun h => by have h2 : z = 3 := h.2.1; omega)])
      have h4' : decide (4 ≤ z) = true := decide_eq_true h4
      clear HTS
      go_enter Tryd.func19, Tryd.ntmps19
      go_wp2
      go_ret
      exact ⟨by rw [HT.out]; rfl, by rw [HT.out]; exact HR.out, Below.refl g w⟩
    · rcases (show z = 0 ∨ z = 1 ∨ z = 2 ∨ z = 3 by omega) with rfl | rfl | rfl | rfl
      · clear h4 hz0 hz1
        have L8 : w.drew.cell? ⟨0, 0, none⟩ = some (.int .i64 0) := HL.out.c0
        have ci : w.drew.cell? ⟨g, 1, none⟩ = some (.bool false) := HR.out.drew.cell 1
        have HT : Hid (tell (0 :: r) s = none) := Lib.hid (by unfold tell; rw [if_neg (fun h => absurd (show (0 : Int) = 2 from h.2.1) (by decide)), if_neg (fun h => absurd (show (0 : Int) = 3 from h.2.1) (by decide))])
        by_cases hN : N = 0
        · subst hN
          have HG : Hid (Calls Tryd.prog 29 #[.slice (tailAt (some a) c 1) 0 (c - 1), .int .i64 0] w.drew fun e w' => e = .returned (.tuple #[.int .u64 0, .int .i64 1]) ∧ w.drew = w') := Lib.hid (getMany _ 0 _ r 0 _ _ HTS.out.drew (Nat.le_trans (by omega) HNM.out) HBR.out)
          clear HTS
          go_enter Tryd.func19, Tryd.ntmps19
          go_upto_region 3 with fail
          refine wp_region_held_drew (S := (fun V => V.cell? a = some (.int .u8 0) ∧ True)) (by kernel_rfl) ⟨C0.out, trivial⟩ (fun _ => ?_)
          refine takeL (i := 0) (v := ?_) rfl (by kernel_rfl) (by kernel_rfl) (by kernel_rfl) (fun _ _ _ h => h) (Or.inl ⟨by rfl, ?_⟩) ⟨C0.out, trivial⟩ ?_
          rotate_left
          · intro w hw
            try dsimp only at hw
            obtain ⟨q0, q1⟩ := hw
            go_simp
            try with_reducible rfl
          try simp only [Act.put, List.setIfInBounds_toArray, List.set_cons_zero, List.set_cons_succ]
          refine takeL (i := 1) (v := ?_) rfl (by kernel_rfl) (by kernel_rfl) (by kernel_rfl) (fun _ _ _ h => h) (Or.inl ⟨by rfl, ?_⟩) ⟨C0.out, trivial⟩ ?_
          rotate_left
          · intro w hw
            try dsimp only at hw
            obtain ⟨q0, q1⟩ := hw
            go_simp
            try with_reducible rfl
          try simp only [Act.put, List.setIfInBounds_toArray, List.set_cons_zero, List.set_cons_succ]
          refine takeL (i := 2) (v := ?_) rfl (by kernel_rfl) (by kernel_rfl) (by kernel_rfl) (fun _ _ _ h => h) (Or.inl ⟨by rfl, ?_⟩) ⟨C0.out, trivial⟩ ?_
          rotate_left
          · intro w hw
            try dsimp only at hw
            obtain ⟨q0, q1⟩ := hw
            go_simp
            try with_reducible rfl
          try simp only [Act.put, List.setIfInBounds_toArray, List.set_cons_zero, List.set_cons_succ]
          refine takeL (i := 3) (v := ?_) rfl (by kernel_rfl) (by kernel_rfl) (by kernel_rfl) (fun _ _ _ h => h) (Or.inl ⟨by rfl, ?_⟩) ⟨C0.out, trivial⟩ ?_
          rotate_left
          · intro w hw
            try dsimp only at hw
            obtain ⟨q0, q1⟩ := hw
            go_simp
            try with_reducible rfl
          try simp only [Act.put, List.setIfInBounds_toArray, List.set_cons_zero, List.set_cons_succ]
          refine takeL (i := 4) (v := .slice (tailAt (some a) c 1) (n - 1) (c - 1)) rfl (by kernel_rfl) (by kernel_rfl) (by kernel_rfl) (fun _ _ _ h => h) (Or.inl ⟨by rfl, fun wz hwz => run_tail 40 5 (.tmp 21) (.const (.int .i64 1)) rfl Tryd.underlying40 size_b8 (some a) n c 1 (by go_simp) (by go_simp) (by have := HN2.out; omega) HNC.out HCM.out⟩) ⟨C0.out, trivial⟩ ?_
          try simp only [Act.put, List.setIfInBounds_toArray, List.set_cons_zero, List.set_cons_succ]
          simp only [HN1.out]
          refine takeL (i := 5) (v := ?_) rfl (by kernel_rfl) (by kernel_rfl) (by kernel_rfl) (fun _ _ _ h => h) (Or.inl ⟨by rfl, ?_⟩) ⟨C0.out, trivial⟩ ?_
          rotate_left
          · intro w hw
            try dsimp only at hw
            obtain ⟨q0, q1⟩ := hw
            go_simp
            try with_reducible rfl
          try simp only [Act.put, List.setIfInBounds_toArray, List.set_cons_zero, List.set_cons_succ]
          refine takeL (i := 6) (v := ?_) rfl (by kernel_rfl) (by kernel_rfl) (by kernel_rfl) (fun _ _ _ h => h) (Or.inl ⟨by rfl, ?_⟩) ⟨C0.out, trivial⟩ ?_
          rotate_left
          · intro w hw
            try dsimp only at hw
            obtain ⟨q0, q1⟩ := hw
            go_simp
            try with_reducible rfl
          try simp only [Act.put, List.setIfInBounds_toArray, List.set_cons_zero, List.set_cons_succ]
          refine wpAnyH_done (by kernel_rfl) ?_ _
          go_wp2_with fail
          refine HG.out.mono ?_
          rintro e w1 ⟨rfl, rfl⟩
          go_wp2_with (first
            | ((with_reducible show wpList _ _ _ ({ dst := some 50, op := Op.build _ _, type := _, pos := _, after := _, guard := _ } :: _) _ _); go_must (refine wpList_plain rfl fun K hK => wp_built _ _ _ rfl (by simp only [List.map_toArray, List.map_cons, List.map_nil]; exact built_told 0 false) (hK _ _ ?_)))
            | ((with_reducible show wpList _ _ _ ({ dst := none, op := Op.store 56 _ _, type := _, pos := _, after := _, guard := _ } :: _) _ _); go_must (refine wpList_store_part rfl 56 (.tmp 52) (.tmp 50) rfl g 58 0 _ [.int .u64 0, .bool false] HR.out.drew (size_told _ _) (by show 0 + 2 ≤ 8; omega) (told_one _ _) ?_ ?_ ?_; go_simp; go_simp; intro w2 hr2 ht2; have HR2 := Lib.hid hr2; have HT2 := Lib.hid ht2; have cn : w2.cell? ⟨g, 1, none⟩ = some (.bool false) := hr2.cell 1; clear hr2 ht2)))
          go_ret
          exact ⟨by rw [HT.out]; rfl, by rw [HT.out]; exact HR2.out, (Below.refl g w).drew.trans (HT2.out.below (Nat.le_refl g))⟩
        · have eN : ¬ (N : Int) = 0 := by omega
          clear HTS
          go_enter Tryd.func19, Tryd.ntmps19
          go_upto_region 3 with fail
          refine wp_region_held_drew (S := (fun V => V.cell? a = some (.int .u8 0) ∧ True)) (by kernel_rfl) ⟨C0.out, trivial⟩ (fun _ => ?_)
          refine takeL (i := 0) (v := ?_) rfl (by kernel_rfl) (by kernel_rfl) (by kernel_rfl) (fun _ _ _ h => h) (Or.inl ⟨by rfl, ?_⟩) ⟨C0.out, trivial⟩ ?_
          rotate_left
          · intro w hw
            try dsimp only at hw
            obtain ⟨q0, q1⟩ := hw
            go_simp
            try with_reducible rfl
          try simp only [Act.put, List.setIfInBounds_toArray, List.set_cons_zero, List.set_cons_succ]
          refine takeL (i := 1) (v := ?_) rfl (by kernel_rfl) (by kernel_rfl) (by kernel_rfl) (fun _ _ _ h => h) (Or.inl ⟨by rfl, ?_⟩) ⟨C0.out, trivial⟩ ?_
          rotate_left
          · intro w hw
            try dsimp only at hw
            obtain ⟨q0, q1⟩ := hw
            go_simp
            try with_reducible rfl
          try simp only [Act.put, List.setIfInBounds_toArray, List.set_cons_zero, List.set_cons_succ]
          refine takeL (i := 2) (v := ?_) rfl (by kernel_rfl) (by kernel_rfl) (by kernel_rfl) (fun _ _ _ h => h) (Or.inl ⟨by rfl, ?_⟩) ⟨C0.out, trivial⟩ ?_
          rotate_left
          · intro w hw
            try dsimp only at hw
            obtain ⟨q0, q1⟩ := hw
            go_simp
            try with_reducible rfl
          try simp only [Act.put, List.setIfInBounds_toArray, List.set_cons_zero, List.set_cons_succ]
          refine takeL (i := 3) (v := ?_) rfl (by kernel_rfl) (by kernel_rfl) (by kernel_rfl) (fun _ _ _ h => h) (Or.inl ⟨by rfl, ?_⟩) ⟨C0.out, trivial⟩ ?_
          rotate_left
          · intro w hw
            try dsimp only at hw
            obtain ⟨q0, q1⟩ := hw
            go_simp
            try with_reducible rfl
          try simp only [Act.put, List.setIfInBounds_toArray, List.set_cons_zero, List.set_cons_succ]
          refine takeL (i := 4) (v := .slice (tailAt (some a) c 1) (n - 1) (c - 1)) rfl (by kernel_rfl) (by kernel_rfl) (by kernel_rfl) (fun _ _ _ h => h) (Or.inl ⟨by rfl, fun wz hwz => run_tail 40 5 (.tmp 21) (.const (.int .i64 1)) rfl Tryd.underlying40 size_b8 (some a) n c 1 (by go_simp) (by go_simp) (by have := HN2.out; omega) HNC.out HCM.out⟩) ⟨C0.out, trivial⟩ ?_
          try simp only [Act.put, List.setIfInBounds_toArray, List.set_cons_zero, List.set_cons_succ]
          simp only [HN1.out]
          refine takeL (i := 5) (v := ?_) rfl (by kernel_rfl) (by kernel_rfl) (by kernel_rfl) (fun _ _ _ h => h) (Or.inl ⟨by rfl, ?_⟩) ⟨C0.out, trivial⟩ ?_
          rotate_left
          · intro w hw
            try dsimp only at hw
            obtain ⟨q0, q1⟩ := hw
            go_simp
            try with_reducible rfl
          try simp only [Act.put, List.setIfInBounds_toArray, List.set_cons_zero, List.set_cons_succ]
          refine takeL (i := 6) (v := ?_) rfl (by kernel_rfl) (by kernel_rfl) (by kernel_rfl) (fun _ _ _ h => h) (Or.inl ⟨by rfl, ?_⟩) ⟨C0.out, trivial⟩ ?_
          rotate_left
          · intro w hw
            try dsimp only at hw
            obtain ⟨q0, q1⟩ := hw
            go_simp
            try with_reducible rfl
          try simp only [Act.put, List.setIfInBounds_toArray, List.set_cons_zero, List.set_cons_succ]
          refine wpAnyH_done (by kernel_rfl) ?_ _
          go_wp2_with fail
          go_ret
          exact ⟨by rw [HT.out]; rfl, by rw [HT.out]; exact HR.out.drew, (Below.refl g w).drew⟩
      · clear h4 hz0 hz1
        have L8 : w.drew.cell? ⟨0, 1, none⟩ = some (.int .i64 0) := HL.out.c1
        have ci : w.drew.cell? ⟨g, 3, none⟩ = some (.bool false) := HR.out.drew.cell 3
        have HT : Hid (tell (1 :: r) s = none) := Lib.hid (by unfold tell; rw [if_neg (fun h => absurd (show (1 : Int) = 2 from h.2.1) (by decide)), if_neg (fun h => absurd (show (1 : Int) = 3 from h.2.1) (by decide))])
        by_cases hN : N = 0
        · subst hN
          have HG : Hid (Calls Tryd.prog 29 #[.slice (tailAt (some a) c 1) 0 (c - 1), .int .i64 0] w.drew fun e w' => e = .returned (.tuple #[.int .u64 0, .int .i64 1]) ∧ w.drew = w') := Lib.hid (getMany _ 0 _ r 0 _ _ HTS.out.drew (Nat.le_trans (by omega) HNM.out) HBR.out)
          clear HTS
          go_enter Tryd.func19, Tryd.ntmps19
          go_upto_region 3 with fail
          refine wp_region_held_drew (S := (fun V => V.cell? a = some (.int .u8 1) ∧ True)) (by kernel_rfl) ⟨C0.out, trivial⟩ (fun _ => ?_)
          refine takeL (i := 0) (v := ?_) rfl (by kernel_rfl) (by kernel_rfl) (by kernel_rfl) (fun _ _ _ h => h) (Or.inl ⟨by rfl, ?_⟩) ⟨C0.out, trivial⟩ ?_
          rotate_left
          · intro w hw
            try dsimp only at hw
            obtain ⟨q0, q1⟩ := hw
            go_simp
            try with_reducible rfl
          try simp only [Act.put, List.setIfInBounds_toArray, List.set_cons_zero, List.set_cons_succ]
          refine takeL (i := 1) (v := ?_) rfl (by kernel_rfl) (by kernel_rfl) (by kernel_rfl) (fun _ _ _ h => h) (Or.inl ⟨by rfl, ?_⟩) ⟨C0.out, trivial⟩ ?_
          rotate_left
          · intro w hw
            try dsimp only at hw
            obtain ⟨q0, q1⟩ := hw
            go_simp
            try with_reducible rfl
          try simp only [Act.put, List.setIfInBounds_toArray, List.set_cons_zero, List.set_cons_succ]
          refine takeL (i := 2) (v := ?_) rfl (by kernel_rfl) (by kernel_rfl) (by kernel_rfl) (fun _ _ _ h => h) (Or.inl ⟨by rfl, ?_⟩) ⟨C0.out, trivial⟩ ?_
          rotate_left
          · intro w hw
            try dsimp only at hw
            obtain ⟨q0, q1⟩ := hw
            go_simp
            try with_reducible rfl
          try simp only [Act.put, List.setIfInBounds_toArray, List.set_cons_zero, List.set_cons_succ]
          refine takeL (i := 3) (v := ?_) rfl (by kernel_rfl) (by kernel_rfl) (by kernel_rfl) (fun _ _ _ h => h) (Or.inl ⟨by rfl, ?_⟩) ⟨C0.out, trivial⟩ ?_
          rotate_left
          · intro w hw
            try dsimp only at hw
            obtain ⟨q0, q1⟩ := hw
            go_simp
            try with_reducible rfl
          try simp only [Act.put, List.setIfInBounds_toArray, List.set_cons_zero, List.set_cons_succ]
          refine takeL (i := 4) (v := .slice (tailAt (some a) c 1) (n - 1) (c - 1)) rfl (by kernel_rfl) (by kernel_rfl) (by kernel_rfl) (fun _ _ _ h => h) (Or.inl ⟨by rfl, fun wz hwz => run_tail 40 5 (.tmp 21) (.const (.int .i64 1)) rfl Tryd.underlying40 size_b8 (some a) n c 1 (by go_simp) (by go_simp) (by have := HN2.out; omega) HNC.out HCM.out⟩) ⟨C0.out, trivial⟩ ?_
          try simp only [Act.put, List.setIfInBounds_toArray, List.set_cons_zero, List.set_cons_succ]
          simp only [HN1.out]
          refine takeL (i := 5) (v := ?_) rfl (by kernel_rfl) (by kernel_rfl) (by kernel_rfl) (fun _ _ _ h => h) (Or.inl ⟨by rfl, ?_⟩) ⟨C0.out, trivial⟩ ?_
          rotate_left
          · intro w hw
            try dsimp only at hw
            obtain ⟨q0, q1⟩ := hw
            go_simp
            try with_reducible rfl
          try simp only [Act.put, List.setIfInBounds_toArray, List.set_cons_zero, List.set_cons_succ]
          refine takeL (i := 6) (v := ?_) rfl (by kernel_rfl) (by kernel_rfl) (by kernel_rfl) (fun _ _ _ h => h) (Or.inl ⟨by rfl, ?_⟩) ⟨C0.out, trivial⟩ ?_
          rotate_left
          · intro w hw
            try dsimp only at hw
            obtain ⟨q0, q1⟩ := hw
            go_simp
            try with_reducible rfl
          try simp only [Act.put, List.setIfInBounds_toArray, List.set_cons_zero, List.set_cons_succ]
          refine wpAnyH_done (by kernel_rfl) ?_ _
          go_wp2_with fail
          refine HG.out.mono ?_
          rintro e w1 ⟨rfl, rfl⟩
          go_wp2_with (first
            | ((with_reducible show wpList _ _ _ ({ dst := some 50, op := Op.build _ _, type := _, pos := _, after := _, guard := _ } :: _) _ _); go_must (refine wpList_plain rfl fun K hK => wp_built _ _ _ rfl (by simp only [List.map_toArray, List.map_cons, List.map_nil]; exact built_told 0 false) (hK _ _ ?_)))
            | ((with_reducible show wpList _ _ _ ({ dst := none, op := Op.store 56 _ _, type := _, pos := _, after := _, guard := _ } :: _) _ _); go_must (refine wpList_store_part rfl 56 (.tmp 52) (.tmp 50) rfl g 58 2 _ [.int .u64 0, .bool false] HR.out.drew (size_told _ _) (by show 2 + 2 ≤ 8; omega) (told_one _ _) ?_ ?_ ?_; go_simp; go_simp; intro w2 hr2 ht2; have HR2 := Lib.hid hr2; have HT2 := Lib.hid ht2; have cn : w2.cell? ⟨g, 3, none⟩ = some (.bool false) := hr2.cell 3; clear hr2 ht2)))
          go_ret
          exact ⟨by rw [HT.out]; rfl, by rw [HT.out]; exact HR2.out, (Below.refl g w).drew.trans (HT2.out.below (Nat.le_refl g))⟩
        · have eN : ¬ (N : Int) = 0 := by omega
          clear HTS
          go_enter Tryd.func19, Tryd.ntmps19
          go_upto_region 3 with fail
          refine wp_region_held_drew (S := (fun V => V.cell? a = some (.int .u8 1) ∧ True)) (by kernel_rfl) ⟨C0.out, trivial⟩ (fun _ => ?_)
          refine takeL (i := 0) (v := ?_) rfl (by kernel_rfl) (by kernel_rfl) (by kernel_rfl) (fun _ _ _ h => h) (Or.inl ⟨by rfl, ?_⟩) ⟨C0.out, trivial⟩ ?_
          rotate_left
          · intro w hw
            try dsimp only at hw
            obtain ⟨q0, q1⟩ := hw
            go_simp
            try with_reducible rfl
          try simp only [Act.put, List.setIfInBounds_toArray, List.set_cons_zero, List.set_cons_succ]
          refine takeL (i := 1) (v := ?_) rfl (by kernel_rfl) (by kernel_rfl) (by kernel_rfl) (fun _ _ _ h => h) (Or.inl ⟨by rfl, ?_⟩) ⟨C0.out, trivial⟩ ?_
          rotate_left
          · intro w hw
            try dsimp only at hw
            obtain ⟨q0, q1⟩ := hw
            go_simp
            try with_reducible rfl
          try simp only [Act.put, List.setIfInBounds_toArray, List.set_cons_zero, List.set_cons_succ]
          refine takeL (i := 2) (v := ?_) rfl (by kernel_rfl) (by kernel_rfl) (by kernel_rfl) (fun _ _ _ h => h) (Or.inl ⟨by rfl, ?_⟩) ⟨C0.out, trivial⟩ ?_
          rotate_left
          · intro w hw
            try dsimp only at hw
            obtain ⟨q0, q1⟩ := hw
            go_simp
            try with_reducible rfl
          try simp only [Act.put, List.setIfInBounds_toArray, List.set_cons_zero, List.set_cons_succ]
          refine takeL (i := 3) (v := ?_) rfl (by kernel_rfl) (by kernel_rfl) (by kernel_rfl) (fun _ _ _ h => h) (Or.inl ⟨by rfl, ?_⟩) ⟨C0.out, trivial⟩ ?_
          rotate_left
          · intro w hw
            try dsimp only at hw
            obtain ⟨q0, q1⟩ := hw
            go_simp
            try with_reducible rfl
          try simp only [Act.put, List.setIfInBounds_toArray, List.set_cons_zero, List.set_cons_succ]
          refine takeL (i := 4) (v := .slice (tailAt (some a) c 1) (n - 1) (c - 1)) rfl (by kernel_rfl) (by kernel_rfl) (by kernel_rfl) (fun _ _ _ h => h) (Or.inl ⟨by rfl, fun wz hwz => run_tail 40 5 (.tmp 21) (.const (.int .i64 1)) rfl Tryd.underlying40 size_b8 (some a) n c 1 (by go_simp) (by go_simp) (by have := HN2.out; omega) HNC.out HCM.out⟩) ⟨C0.out, trivial⟩ ?_
          try simp only [Act.put, List.setIfInBounds_toArray, List.set_cons_zero, List.set_cons_succ]
          simp only [HN1.out]
          refine takeL (i := 5) (v := ?_) rfl (by kernel_rfl) (by kernel_rfl) (by kernel_rfl) (fun _ _ _ h => h) (Or.inl ⟨by rfl, ?_⟩) ⟨C0.out, trivial⟩ ?_
          rotate_left
          · intro w hw
            try dsimp only at hw
            obtain ⟨q0, q1⟩ := hw
            go_simp
            try with_reducible rfl
          try simp only [Act.put, List.setIfInBounds_toArray, List.set_cons_zero, List.set_cons_succ]
          refine takeL (i := 6) (v := ?_) rfl (by kernel_rfl) (by kernel_rfl) (by kernel_rfl) (fun _ _ _ h => h) (Or.inl ⟨by rfl, ?_⟩) ⟨C0.out, trivial⟩ ?_
          rotate_left
          · intro w hw
            try dsimp only at hw
            obtain ⟨q0, q1⟩ := hw
            go_simp
            try with_reducible rfl
          try simp only [Act.put, List.setIfInBounds_toArray, List.set_cons_zero, List.set_cons_succ]
          refine wpAnyH_done (by kernel_rfl) ?_ _
          go_wp2_with fail
          go_ret
          exact ⟨by rw [HT.out]; rfl, by rw [HT.out]; exact HR.out.drew, (Below.refl g w).drew⟩
      · clear h4 hz0 hz1
        have L8 : w.drew.cell? ⟨0, 2, none⟩ = some (.int .i64 4) := HL.out.c2
        have ci : w.drew.cell? ⟨g, 5, none⟩ = some (.bool s.u.isSome) := HR.out.drew.cell 5
        by_cases hN : N = 4
        · subst hN
          cases hu : s.u with
          | some v =>
            have HT : Hid (tell (2 :: r) s = none) := Lib.hid (by unfold tell; rw [if_neg (fun h => by rw [hu] at h; exact absurd h.2.2 (by simp)), if_neg (fun h => absurd (show (2 : Int) = 3 from h.2.1) (by decide))])
            have cb : w.drew.cell? ⟨g, 5, none⟩ = some (.bool true) := by rw [ci, hu]; rfl
            clear ci HTS hu
            go_enter Tryd.func19, Tryd.ntmps19
            go_upto_region 3 with fail
            refine wp_region_held_drew (S := (fun V => V.cell? a = some (.int .u8 2) ∧ True)) (by kernel_rfl) ⟨C0.out, trivial⟩ (fun _ => ?_)
            refine takeL (i := 0) (v := ?_) rfl (by kernel_rfl) (by kernel_rfl) (by kernel_rfl) (fun _ _ _ h => h) (Or.inl ⟨by rfl, ?_⟩) ⟨C0.out, trivial⟩ ?_
            rotate_left
            · intro w hw
              try dsimp only at hw
              obtain ⟨q0, q1⟩ := hw
              go_simp
              try with_reducible rfl
            try simp only [Act.put, List.setIfInBounds_toArray, List.set_cons_zero, List.set_cons_succ]
            refine takeL (i := 1) (v := ?_) rfl (by kernel_rfl) (by kernel_rfl) (by kernel_rfl) (fun _ _ _ h => h) (Or.inl ⟨by rfl, ?_⟩) ⟨C0.out, trivial⟩ ?_
            rotate_left
            · intro w hw
              try dsimp only at hw
              obtain ⟨q0, q1⟩ := hw
              go_simp
              try with_reducible rfl
            try simp only [Act.put, List.setIfInBounds_toArray, List.set_cons_zero, List.set_cons_succ]
            refine takeL (i := 2) (v := ?_) rfl (by kernel_rfl) (by kernel_rfl) (by kernel_rfl) (fun _ _ _ h => h) (Or.inl ⟨by rfl, ?_⟩) ⟨C0.out, trivial⟩ ?_
            rotate_left
            · intro w hw
              try dsimp only at hw
              obtain ⟨q0, q1⟩ := hw
              go_simp
              try with_reducible rfl
            try simp only [Act.put, List.setIfInBounds_toArray, List.set_cons_zero, List.set_cons_succ]
            refine takeL (i := 3) (v := ?_) rfl (by kernel_rfl) (by kernel_rfl) (by kernel_rfl) (fun _ _ _ h => h) (Or.inl ⟨by rfl, ?_⟩) ⟨C0.out, trivial⟩ ?_
            rotate_left
            · intro w hw
              try dsimp only at hw
              obtain ⟨q0, q1⟩ := hw
              go_simp
              try with_reducible rfl
            try simp only [Act.put, List.setIfInBounds_toArray, List.set_cons_zero, List.set_cons_succ]
            refine takeL (i := 4) (v := .slice (tailAt (some a) c 1) (n - 1) (c - 1)) rfl (by kernel_rfl) (by kernel_rfl) (by kernel_rfl) (fun _ _ _ h => h) (Or.inl ⟨by rfl, fun wz hwz => run_tail 40 5 (.tmp 21) (.const (.int .i64 1)) rfl Tryd.underlying40 size_b8 (some a) n c 1 (by go_simp) (by go_simp) (by have := HN2.out; omega) HNC.out HCM.out⟩) ⟨C0.out, trivial⟩ ?_
            try simp only [Act.put, List.setIfInBounds_toArray, List.set_cons_zero, List.set_cons_succ]
            simp only [HN1.out]
            refine takeL (i := 5) (v := ?_) rfl (by kernel_rfl) (by kernel_rfl) (by kernel_rfl) (fun _ _ _ h => h) (Or.inl ⟨by rfl, ?_⟩) ⟨C0.out, trivial⟩ ?_
            rotate_left
            · intro w hw
              try dsimp only at hw
              obtain ⟨q0, q1⟩ := hw
              go_simp
              try with_reducible rfl
            try simp only [Act.put, List.setIfInBounds_toArray, List.set_cons_zero, List.set_cons_succ]
            refine takeL (i := 6) (v := ?_) rfl (by kernel_rfl) (by kernel_rfl) (by kernel_rfl) (fun _ _ _ h => h) (Or.inl ⟨by rfl, ?_⟩) ⟨C0.out, trivial⟩ ?_
            rotate_left
            · intro w hw
              try dsimp only at hw
              obtain ⟨q0, q1⟩ := hw
              go_simp
              try with_reducible rfl
            try simp only [Act.put, List.setIfInBounds_toArray, List.set_cons_zero, List.set_cons_succ]
            refine wpAnyH_done (by kernel_rfl) ?_ _
            go_wp2_with fail
            go_ret
            exact ⟨by rw [HT.out]; rfl, by rw [HT.out]; exact HR.out.drew, (Below.refl g w).drew⟩
          | none =>
            have HU := Lib.hid hu
            have HT : Hid (tell (2 :: r) s = some ⟨some (num r 4), s.p, s.o, s.bad⟩) := Lib.hid (by unfold tell; rw [if_pos ⟨by rw [List.length_cons, HRL.out], rfl, HU.out⟩]; rfl)
            have cb : w.drew.cell? ⟨g, 5, none⟩ = some (.bool false) := by rw [ci, hu]; rfl
            have HG : Hid (Calls Tryd.prog 29 #[.slice (tailAt (some a) c 1) 4 (c - 1), .int .i64 4] w.drew fun e w' => e = .returned (.tuple #[.int .u64 (num r 4), .int .i64 0]) ∧ w.drew = w') := Lib.hid (by
              have h := getMany (tailAt (some a) c 1) 4 (c - 1) r 4 w.drew B HTS.out.drew (Nat.le_trans (by omega) HNM.out) HBR.out
              have e : getN r 4 = (num r 4, 0) := by unfold getN; rw [if_neg (by omega), if_neg (by rw [HRL.out]; omega)]; rfl
              rw [e] at h
              exact h)
            clear ci HTS hu
            go_enter Tryd.func19, Tryd.ntmps19
            go_upto_region 3 with fail
            refine wp_region_held_drew (S := (fun V => V.cell? a = some (.int .u8 2) ∧ True)) (by kernel_rfl) ⟨C0.out, trivial⟩ (fun _ => ?_)
            refine takeL (i := 0) (v := ?_) rfl (by kernel_rfl) (by kernel_rfl) (by kernel_rfl) (fun _ _ _ h => h) (Or.inl ⟨by rfl, ?_⟩) ⟨C0.out, trivial⟩ ?_
            rotate_left
            · intro w hw
              try dsimp only at hw
              obtain ⟨q0, q1⟩ := hw
              go_simp
              try with_reducible rfl
            try simp only [Act.put, List.setIfInBounds_toArray, List.set_cons_zero, List.set_cons_succ]
            refine takeL (i := 1) (v := ?_) rfl (by kernel_rfl) (by kernel_rfl) (by kernel_rfl) (fun _ _ _ h => h) (Or.inl ⟨by rfl, ?_⟩) ⟨C0.out, trivial⟩ ?_
            rotate_left
            · intro w hw
              try dsimp only at hw
              obtain ⟨q0, q1⟩ := hw
              go_simp
              try with_reducible rfl
            try simp only [Act.put, List.setIfInBounds_toArray, List.set_cons_zero, List.set_cons_succ]
            refine takeL (i := 2) (v := ?_) rfl (by kernel_rfl) (by kernel_rfl) (by kernel_rfl) (fun _ _ _ h => h) (Or.inl ⟨by rfl, ?_⟩) ⟨C0.out, trivial⟩ ?_
            rotate_left
            · intro w hw
              try dsimp only at hw
              obtain ⟨q0, q1⟩ := hw
              go_simp
              try with_reducible rfl
            try simp only [Act.put, List.setIfInBounds_toArray, List.set_cons_zero, List.set_cons_succ]
            refine takeL (i := 3) (v := ?_) rfl (by kernel_rfl) (by kernel_rfl) (by kernel_rfl) (fun _ _ _ h => h) (Or.inl ⟨by rfl, ?_⟩) ⟨C0.out, trivial⟩ ?_
            rotate_left
            · intro w hw
              try dsimp only at hw
              obtain ⟨q0, q1⟩ := hw
              go_simp
              try with_reducible rfl
            try simp only [Act.put, List.setIfInBounds_toArray, List.set_cons_zero, List.set_cons_succ]
            refine takeL (i := 4) (v := .slice (tailAt (some a) c 1) (n - 1) (c - 1)) rfl (by kernel_rfl) (by kernel_rfl) (by kernel_rfl) (fun _ _ _ h => h) (Or.inl ⟨by rfl, fun wz hwz => run_tail 40 5 (.tmp 21) (.const (.int .i64 1)) rfl Tryd.underlying40 size_b8 (some a) n c 1 (by go_simp) (by go_simp) (by have := HN2.out; omega) HNC.out HCM.out⟩) ⟨C0.out, trivial⟩ ?_
            try simp only [Act.put, List.setIfInBounds_toArray, List.set_cons_zero, List.set_cons_succ]
            simp only [HN1.out]
            refine takeL (i := 5) (v := ?_) rfl (by kernel_rfl) (by kernel_rfl) (by kernel_rfl) (fun _ _ _ h => h) (Or.inl ⟨by rfl, ?_⟩) ⟨C0.out, trivial⟩ ?_
            rotate_left
            · intro w hw
              try dsimp only at hw
              obtain ⟨q0, q1⟩ := hw
              go_simp
              try with_reducible rfl
            try simp only [Act.put, List.setIfInBounds_toArray, List.set_cons_zero, List.set_cons_succ]
            refine takeL (i := 6) (v := ?_) rfl (by kernel_rfl) (by kernel_rfl) (by kernel_rfl) (fun _ _ _ h => h) (Or.inl ⟨by rfl, ?_⟩) ⟨C0.out, trivial⟩ ?_
            rotate_left
            · intro w hw
              try dsimp only at hw
              obtain ⟨q0, q1⟩ := hw
              go_simp
              try with_reducible rfl
            try simp only [Act.put, List.setIfInBounds_toArray, List.set_cons_zero, List.set_cons_succ]
            refine wpAnyH_done (by kernel_rfl) ?_ _
            go_wp2_with fail
            refine HG.out.mono ?_
            rintro e w1 ⟨rfl, rfl⟩
            go_wp2_with (first
              | ((with_reducible show wpList _ _ _ ({ dst := some 50, op := Op.build _ _, type := _, pos := _, after := _, guard := _ } :: _) _ _); go_must (refine wpList_plain rfl fun K hK => wp_built _ _ _ rfl (by simp only [List.map_toArray, List.map_cons, List.map_nil]; exact built_told (num r 4) true) (hK _ _ ?_)))
              | ((with_reducible show wpList _ _ _ ({ dst := none, op := Op.store 56 _ _, type := _, pos := _, after := _, guard := _ } :: _) _ _); go_must (refine wpList_store_part rfl 56 (.tmp 52) (.tmp 50) rfl g 58 4 _ [.int .u64 (num r 4), .bool true] HR.out.drew (size_told _ _) (by show 4 + 2 ≤ 8; omega) (told_one _ _) ?_ ?_ ?_; go_simp; go_simp; intro w2 hr2 ht2; have HR2 := Lib.hid hr2; have HT2 := Lib.hid ht2; have cn : w2.cell? ⟨g, 5, none⟩ = some (.bool true) := hr2.cell 5; clear hr2 ht2)))
            go_ret
            exact ⟨by rw [HT.out]; rfl, by rw [HT.out]; exact HR2.out, (Below.refl g w).drew.trans (HT2.out.below (Nat.le_refl g))⟩
        · have eN : ¬ (N : Int) = 4 := by omega
          have HT : Hid (tell (2 :: r) s = none) := Lib.hid (by unfold tell; rw [if_neg (fun h => by have := h.1; rw [List.length_cons, HRL.out] at this; omega), if_neg (fun h => absurd (show (2 : Int) = 3 from h.2.1) (by decide))])
          clear HTS hN
          go_enter Tryd.func19, Tryd.ntmps19
          go_upto_region 3 with fail
          refine wp_region_held_drew (S := (fun V => V.cell? a = some (.int .u8 2) ∧ True)) (by kernel_rfl) ⟨C0.out, trivial⟩ (fun _ => ?_)
          refine takeL (i := 0) (v := ?_) rfl (by kernel_rfl) (by kernel_rfl) (by kernel_rfl) (fun _ _ _ h => h) (Or.inl ⟨by rfl, ?_⟩) ⟨C0.out, trivial⟩ ?_
          rotate_left
          · intro w hw
            try dsimp only at hw
            obtain ⟨q0, q1⟩ := hw
            go_simp
            try with_reducible rfl
          try simp only [Act.put, List.setIfInBounds_toArray, List.set_cons_zero, List.set_cons_succ]
          refine takeL (i := 1) (v := ?_) rfl (by kernel_rfl) (by kernel_rfl) (by kernel_rfl) (fun _ _ _ h => h) (Or.inl ⟨by rfl, ?_⟩) ⟨C0.out, trivial⟩ ?_
          rotate_left
          · intro w hw
            try dsimp only at hw
            obtain ⟨q0, q1⟩ := hw
            go_simp
            try with_reducible rfl
          try simp only [Act.put, List.setIfInBounds_toArray, List.set_cons_zero, List.set_cons_succ]
          refine takeL (i := 2) (v := ?_) rfl (by kernel_rfl) (by kernel_rfl) (by kernel_rfl) (fun _ _ _ h => h) (Or.inl ⟨by rfl, ?_⟩) ⟨C0.out, trivial⟩ ?_
          rotate_left
          · intro w hw
            try dsimp only at hw
            obtain ⟨q0, q1⟩ := hw
            go_simp
            try with_reducible rfl
          try simp only [Act.put, List.setIfInBounds_toArray, List.set_cons_zero, List.set_cons_succ]
          refine takeL (i := 3) (v := ?_) rfl (by kernel_rfl) (by kernel_rfl) (by kernel_rfl) (fun _ _ _ h => h) (Or.inl ⟨by rfl, ?_⟩) ⟨C0.out, trivial⟩ ?_
          rotate_left
          · intro w hw
            try dsimp only at hw
            obtain ⟨q0, q1⟩ := hw
            go_simp
            try with_reducible rfl
          try simp only [Act.put, List.setIfInBounds_toArray, List.set_cons_zero, List.set_cons_succ]
          refine takeL (i := 4) (v := .slice (tailAt (some a) c 1) (n - 1) (c - 1)) rfl (by kernel_rfl) (by kernel_rfl) (by kernel_rfl) (fun _ _ _ h => h) (Or.inl ⟨by rfl, fun wz hwz => run_tail 40 5 (.tmp 21) (.const (.int .i64 1)) rfl Tryd.underlying40 size_b8 (some a) n c 1 (by go_simp) (by go_simp) (by have := HN2.out; omega) HNC.out HCM.out⟩) ⟨C0.out, trivial⟩ ?_
          try simp only [Act.put, List.setIfInBounds_toArray, List.set_cons_zero, List.set_cons_succ]
          simp only [HN1.out]
          refine takeL (i := 5) (v := ?_) rfl (by kernel_rfl) (by kernel_rfl) (by kernel_rfl) (fun _ _ _ h => h) (Or.inl ⟨by rfl, ?_⟩) ⟨C0.out, trivial⟩ ?_
          rotate_left
          · intro w hw
            try dsimp only at hw
            obtain ⟨q0, q1⟩ := hw
            go_simp
            try with_reducible rfl
          try simp only [Act.put, List.setIfInBounds_toArray, List.set_cons_zero, List.set_cons_succ]
          refine takeL (i := 6) (v := ?_) rfl (by kernel_rfl) (by kernel_rfl) (by kernel_rfl) (fun _ _ _ h => h) (Or.inl ⟨by rfl, ?_⟩) ⟨C0.out, trivial⟩ ?_
          rotate_left
          · intro w hw
            try dsimp only at hw
            obtain ⟨q0, q1⟩ := hw
            go_simp
            try with_reducible rfl
          try simp only [Act.put, List.setIfInBounds_toArray, List.set_cons_zero, List.set_cons_succ]
          refine wpAnyH_done (by kernel_rfl) ?_ _
          go_wp2_with fail
          go_ret
          exact ⟨by rw [HT.out]; rfl, by rw [HT.out]; exact HR.out.drew, (Below.refl g w).drew⟩
      · clear h4 hz0 hz1
        have L8 : w.drew.cell? ⟨0, 3, none⟩ = some (.int .i64 8) := HL.out.c3
        have ci : w.drew.cell? ⟨g, 7, none⟩ = some (.bool s.p.isSome) := HR.out.drew.cell 7
        by_cases hN : N = 8
        · subst hN
          cases hu : s.p with
          | some v =>
            have HT : Hid (tell (3 :: r) s = none) := Lib.hid (by unfold tell; rw [if_neg (fun h => absurd (show (3 : Int) = 2 from h.2.1) (by decide)), if_neg (fun h => by rw [hu] at h; exact absurd h.2.2 (by simp))])
            have cb : w.drew.cell? ⟨g, 7, none⟩ = some (.bool true) := by rw [ci, hu]; rfl
            clear ci HTS hu
            go_enter Tryd.func19, Tryd.ntmps19
            go_upto_region 3 with fail
            refine wp_region_held_drew (S := (fun V => V.cell? a = some (.int .u8 3) ∧ True)) (by kernel_rfl) ⟨C0.out, trivial⟩ (fun _ => ?_)
            refine takeL (i := 0) (v := ?_) rfl (by kernel_rfl) (by kernel_rfl) (by kernel_rfl) (fun _ _ _ h => h) (Or.inl ⟨by rfl, ?_⟩) ⟨C0.out, trivial⟩ ?_
            rotate_left
            · intro w hw
              try dsimp only at hw
              obtain ⟨q0, q1⟩ := hw
              go_simp
              try with_reducible rfl
            try simp only [Act.put, List.setIfInBounds_toArray, List.set_cons_zero, List.set_cons_succ]
            refine takeL (i := 1) (v := ?_) rfl (by kernel_rfl) (by kernel_rfl) (by kernel_rfl) (fun _ _ _ h => h) (Or.inl ⟨by rfl, ?_⟩) ⟨C0.out, trivial⟩ ?_
            rotate_left
            · intro w hw
              try dsimp only at hw
              obtain ⟨q0, q1⟩ := hw
              go_simp
              try with_reducible rfl
            try simp only [Act.put, List.setIfInBounds_toArray, List.set_cons_zero, List.set_cons_succ]
            refine takeL (i := 2) (v := ?_) rfl (by kernel_rfl) (by kernel_rfl) (by kernel_rfl) (fun _ _ _ h => h) (Or.inl ⟨by rfl, ?_⟩) ⟨C0.out, trivial⟩ ?_
            rotate_left
            · intro w hw
              try dsimp only at hw
              obtain ⟨q0, q1⟩ := hw
              go_simp
              try with_reducible rfl
            try simp only [Act.put, List.setIfInBounds_toArray, List.set_cons_zero, List.set_cons_succ]
            refine takeL (i := 3) (v := ?_) rfl (by kernel_rfl) (by kernel_rfl) (by kernel_rfl) (fun _ _ _ h => h) (Or.inl ⟨by rfl, ?_⟩) ⟨C0.out, trivial⟩ ?_
            rotate_left
            · intro w hw
              try dsimp only at hw
              obtain ⟨q0, q1⟩ := hw
              go_simp
              try with_reducible rfl
            try simp only [Act.put, List.setIfInBounds_toArray, List.set_cons_zero, List.set_cons_succ]
            refine takeL (i := 4) (v := .slice (tailAt (some a) c 1) (n - 1) (c - 1)) rfl (by kernel_rfl) (by kernel_rfl) (by kernel_rfl) (fun _ _ _ h => h) (Or.inl ⟨by rfl, fun wz hwz => run_tail 40 5 (.tmp 21) (.const (.int .i64 1)) rfl Tryd.underlying40 size_b8 (some a) n c 1 (by go_simp) (by go_simp) (by have := HN2.out; omega) HNC.out HCM.out⟩) ⟨C0.out, trivial⟩ ?_
            try simp only [Act.put, List.setIfInBounds_toArray, List.set_cons_zero, List.set_cons_succ]
            simp only [HN1.out]
            refine takeL (i := 5) (v := ?_) rfl (by kernel_rfl) (by kernel_rfl) (by kernel_rfl) (fun _ _ _ h => h) (Or.inl ⟨by rfl, ?_⟩) ⟨C0.out, trivial⟩ ?_
            rotate_left
            · intro w hw
              try dsimp only at hw
              obtain ⟨q0, q1⟩ := hw
              go_simp
              try with_reducible rfl
            try simp only [Act.put, List.setIfInBounds_toArray, List.set_cons_zero, List.set_cons_succ]
            refine takeL (i := 6) (v := ?_) rfl (by kernel_rfl) (by kernel_rfl) (by kernel_rfl) (fun _ _ _ h => h) (Or.inl ⟨by rfl, ?_⟩) ⟨C0.out, trivial⟩ ?_
            rotate_left
            · intro w hw
              try dsimp only at hw
              obtain ⟨q0, q1⟩ := hw
              go_simp
              try with_reducible rfl
            try simp only [Act.put, List.setIfInBounds_toArray, List.set_cons_zero, List.set_cons_succ]
            refine wpAnyH_done (by kernel_rfl) ?_ _
            go_wp2_with fail
            go_ret
            exact ⟨by rw [HT.out]; rfl, by rw [HT.out]; exact HR.out.drew, (Below.refl g w).drew⟩
          | none =>
            have HU := Lib.hid hu
            have HT : Hid (tell (3 :: r) s = some ⟨s.u, some (num r 8), s.o, s.bad⟩) := Lib.hid (by unfold tell; rw [if_neg (fun h => absurd (show (3 : Int) = 2 from h.2.1) (by decide)), if_pos ⟨by rw [List.length_cons, HRL.out], rfl, HU.out⟩]; rfl)
            have cb : w.drew.cell? ⟨g, 7, none⟩ = some (.bool false) := by rw [ci, hu]; rfl
            have HG : Hid (Calls Tryd.prog 29 #[.slice (tailAt (some a) c 1) 8 (c - 1), .int .i64 8] w.drew fun e w' => e = .returned (.tuple #[.int .u64 (num r 8), .int .i64 0]) ∧ w.drew = w') := Lib.hid (by
              have h := getMany (tailAt (some a) c 1) 8 (c - 1) r 8 w.drew B HTS.out.drew (Nat.le_trans (by omega) HNM.out) HBR.out
              have e : getN r 8 = (num r 8, 0) := by unfold getN; rw [if_neg (by omega), if_neg (by rw [HRL.out]; omega)]; rfl
              rw [e] at h
              exact h)
            clear ci HTS hu
            go_enter Tryd.func19, Tryd.ntmps19
            go_upto_region 3 with fail
            refine wp_region_held_drew (S := (fun V => V.cell? a = some (.int .u8 3) ∧ True)) (by kernel_rfl) ⟨C0.out, trivial⟩ (fun _ => ?_)
            refine takeL (i := 0) (v := ?_) rfl (by kernel_rfl) (by kernel_rfl) (by kernel_rfl) (fun _ _ _ h => h) (Or.inl ⟨by rfl, ?_⟩) ⟨C0.out, trivial⟩ ?_
            rotate_left
            · intro w hw
              try dsimp only at hw
              obtain ⟨q0, q1⟩ := hw
              go_simp
              try with_reducible rfl
            try simp only [Act.put, List.setIfInBounds_toArray, List.set_cons_zero, List.set_cons_succ]
            refine takeL (i := 1) (v := ?_) rfl (by kernel_rfl) (by kernel_rfl) (by kernel_rfl) (fun _ _ _ h => h) (Or.inl ⟨by rfl, ?_⟩) ⟨C0.out, trivial⟩ ?_
            rotate_left
            · intro w hw
              try dsimp only at hw
              obtain ⟨q0, q1⟩ := hw
              go_simp
              try with_reducible rfl
            try simp only [Act.put, List.setIfInBounds_toArray, List.set_cons_zero, List.set_cons_succ]
            refine takeL (i := 2) (v := ?_) rfl (by kernel_rfl) (by kernel_rfl) (by kernel_rfl) (fun _ _ _ h => h) (Or.inl ⟨by rfl, ?_⟩) ⟨C0.out, trivial⟩ ?_
            rotate_left
            · intro w hw
              try dsimp only at hw
              obtain ⟨q0, q1⟩ := hw
              go_simp
              try with_reducible rfl
            try simp only [Act.put, List.setIfInBounds_toArray, List.set_cons_zero, List.set_cons_succ]
            refine takeL (i := 3) (v := ?_) rfl (by kernel_rfl) (by kernel_rfl) (by kernel_rfl) (fun _ _ _ h => h) (Or.inl ⟨by rfl, ?_⟩) ⟨C0.out, trivial⟩ ?_
            rotate_left
            · intro w hw
              try dsimp only at hw
              obtain ⟨q0, q1⟩ := hw
              go_simp
              try with_reducible rfl
            try simp only [Act.put, List.setIfInBounds_toArray, List.set_cons_zero, List.set_cons_succ]
            refine takeL (i := 4) (v := .slice (tailAt (some a) c 1) (n - 1) (c - 1)) rfl (by kernel_rfl) (by kernel_rfl) (by kernel_rfl) (fun _ _ _ h => h) (Or.inl ⟨by rfl, fun wz hwz => run_tail 40 5 (.tmp 21) (.const (.int .i64 1)) rfl Tryd.underlying40 size_b8 (some a) n c 1 (by go_simp) (by go_simp) (by have := HN2.out; omega) HNC.out HCM.out⟩) ⟨C0.out, trivial⟩ ?_
            try simp only [Act.put, List.setIfInBounds_toArray, List.set_cons_zero, List.set_cons_succ]
            simp only [HN1.out]
            refine takeL (i := 5) (v := ?_) rfl (by kernel_rfl) (by kernel_rfl) (by kernel_rfl) (fun _ _ _ h => h) (Or.inl ⟨by rfl, ?_⟩) ⟨C0.out, trivial⟩ ?_
            rotate_left
            · intro w hw
              try dsimp only at hw
              obtain ⟨q0, q1⟩ := hw
              go_simp
              try with_reducible rfl
            try simp only [Act.put, List.setIfInBounds_toArray, List.set_cons_zero, List.set_cons_succ]
            refine takeL (i := 6) (v := ?_) rfl (by kernel_rfl) (by kernel_rfl) (by kernel_rfl) (fun _ _ _ h => h) (Or.inl ⟨by rfl, ?_⟩) ⟨C0.out, trivial⟩ ?_
            rotate_left
            · intro w hw
              try dsimp only at hw
              obtain ⟨q0, q1⟩ := hw
              go_simp
              try with_reducible rfl
            try simp only [Act.put, List.setIfInBounds_toArray, List.set_cons_zero, List.set_cons_succ]
            refine wpAnyH_done (by kernel_rfl) ?_ _
            go_wp2_with fail
            refine HG.out.mono ?_
            rintro e w1 ⟨rfl, rfl⟩
            go_wp2_with (first
              | ((with_reducible show wpList _ _ _ ({ dst := some 50, op := Op.build _ _, type := _, pos := _, after := _, guard := _ } :: _) _ _); go_must (refine wpList_plain rfl fun K hK => wp_built _ _ _ rfl (by simp only [List.map_toArray, List.map_cons, List.map_nil]; exact built_told (num r 8) true) (hK _ _ ?_)))
              | ((with_reducible show wpList _ _ _ ({ dst := none, op := Op.store 56 _ _, type := _, pos := _, after := _, guard := _ } :: _) _ _); go_must (refine wpList_store_part rfl 56 (.tmp 52) (.tmp 50) rfl g 58 6 _ [.int .u64 (num r 8), .bool true] HR.out.drew (size_told _ _) (by show 6 + 2 ≤ 8; omega) (told_one _ _) ?_ ?_ ?_; go_simp; go_simp; intro w2 hr2 ht2; have HR2 := Lib.hid hr2; have HT2 := Lib.hid ht2; have cn : w2.cell? ⟨g, 7, none⟩ = some (.bool true) := hr2.cell 7; clear hr2 ht2)))
            go_ret
            exact ⟨by rw [HT.out]; rfl, by rw [HT.out]; exact HR2.out, (Below.refl g w).drew.trans (HT2.out.below (Nat.le_refl g))⟩
        · have eN : ¬ (N : Int) = 8 := by omega
          have HT : Hid (tell (3 :: r) s = none) := Lib.hid (by unfold tell; rw [if_neg (fun h => absurd (show (3 : Int) = 2 from h.2.1) (by decide)), if_neg (fun h => by have := h.1; rw [List.length_cons, HRL.out] at this; omega)])
          clear HTS hN
          go_enter Tryd.func19, Tryd.ntmps19
          go_upto_region 3 with fail
          refine wp_region_held_drew (S := (fun V => V.cell? a = some (.int .u8 3) ∧ True)) (by kernel_rfl) ⟨C0.out, trivial⟩ (fun _ => ?_)
          refine takeL (i := 0) (v := ?_) rfl (by kernel_rfl) (by kernel_rfl) (by kernel_rfl) (fun _ _ _ h => h) (Or.inl ⟨by rfl, ?_⟩) ⟨C0.out, trivial⟩ ?_
          rotate_left
          · intro w hw
            try dsimp only at hw
            obtain ⟨q0, q1⟩ := hw
            go_simp
            try with_reducible rfl
          try simp only [Act.put, List.setIfInBounds_toArray, List.set_cons_zero, List.set_cons_succ]
          refine takeL (i := 1) (v := ?_) rfl (by kernel_rfl) (by kernel_rfl) (by kernel_rfl) (fun _ _ _ h => h) (Or.inl ⟨by rfl, ?_⟩) ⟨C0.out, trivial⟩ ?_
          rotate_left
          · intro w hw
            try dsimp only at hw
            obtain ⟨q0, q1⟩ := hw
            go_simp
            try with_reducible rfl
          try simp only [Act.put, List.setIfInBounds_toArray, List.set_cons_zero, List.set_cons_succ]
          refine takeL (i := 2) (v := ?_) rfl (by kernel_rfl) (by kernel_rfl) (by kernel_rfl) (fun _ _ _ h => h) (Or.inl ⟨by rfl, ?_⟩) ⟨C0.out, trivial⟩ ?_
          rotate_left
          · intro w hw
            try dsimp only at hw
            obtain ⟨q0, q1⟩ := hw
            go_simp
            try with_reducible rfl
          try simp only [Act.put, List.setIfInBounds_toArray, List.set_cons_zero, List.set_cons_succ]
          refine takeL (i := 3) (v := ?_) rfl (by kernel_rfl) (by kernel_rfl) (by kernel_rfl) (fun _ _ _ h => h) (Or.inl ⟨by rfl, ?_⟩) ⟨C0.out, trivial⟩ ?_
          rotate_left
          · intro w hw
            try dsimp only at hw
            obtain ⟨q0, q1⟩ := hw
            go_simp
            try with_reducible rfl
          try simp only [Act.put, List.setIfInBounds_toArray, List.set_cons_zero, List.set_cons_succ]
          refine takeL (i := 4) (v := .slice (tailAt (some a) c 1) (n - 1) (c - 1)) rfl (by kernel_rfl) (by kernel_rfl) (by kernel_rfl) (fun _ _ _ h => h) (Or.inl ⟨by rfl, fun wz hwz => run_tail 40 5 (.tmp 21) (.const (.int .i64 1)) rfl Tryd.underlying40 size_b8 (some a) n c 1 (by go_simp) (by go_simp) (by have := HN2.out; omega) HNC.out HCM.out⟩) ⟨C0.out, trivial⟩ ?_
          try simp only [Act.put, List.setIfInBounds_toArray, List.set_cons_zero, List.set_cons_succ]
          simp only [HN1.out]
          refine takeL (i := 5) (v := ?_) rfl (by kernel_rfl) (by kernel_rfl) (by kernel_rfl) (fun _ _ _ h => h) (Or.inl ⟨by rfl, ?_⟩) ⟨C0.out, trivial⟩ ?_
          rotate_left
          · intro w hw
            try dsimp only at hw
            obtain ⟨q0, q1⟩ := hw
            go_simp
            try with_reducible rfl
          try simp only [Act.put, List.setIfInBounds_toArray, List.set_cons_zero, List.set_cons_succ]
          refine takeL (i := 6) (v := ?_) rfl (by kernel_rfl) (by kernel_rfl) (by kernel_rfl) (fun _ _ _ h => h) (Or.inl ⟨by rfl, ?_⟩) ⟨C0.out, trivial⟩ ?_
          rotate_left
          · intro w hw
            try dsimp only at hw
            obtain ⟨q0, q1⟩ := hw
            go_simp
            try with_reducible rfl
          try simp only [Act.put, List.setIfInBounds_toArray, List.set_cons_zero, List.set_cons_succ]
          refine wpAnyH_done (by kernel_rfl) ?_ _
          go_wp2_with fail
          go_ret
          exact ⟨by rw [HT.out]; rfl, by rw [HT.out]; exact HR.out.drew, (Below.refl g w).drew⟩
end Go.Proofs.YtdeadehcnellpaaDoor

/-
  Of part Word8: what is needed here.
-/
namespace Go.Proofs.YtdeadehcnellpaaDoor
open Go.RowKit
set_option linter.unusedVariables false
set_option maxRecDepth 100000 in
set_option maxHeartbeats 400000 in
theorem refBudget_ (w : World) : Calls Tryd.prog 30 #[] w fun e w' => e = .returned (.agg (bv k3).toArray) ∧ Below w.heap.size w w' := by
  go_enter Tryd.func30, Tryd.ntmps30
  go_wp2_with (first
    | ((with_reducible show wpList _ _ _ ({ dst := some 1, op := Op.build _ _, type := _, pos := _, after := _, guard := _ } :: _) _ _); go_must (refine wpList_plain rfl fun K hK => wp_built _ _ _ rfl (by simp only [List.map_toArray, List.map_cons, List.map_nil]; exact built_k3) (hK _ _ ?_)))
    | ((with_reducible show wpList _ _ _ ({ dst := none, op := Op.store 48 _ _, type := _, pos := _, after := _, guard := _ } :: _) _ _); go_must (refine wpList_store_new rfl 48 (.tmp 0) (.tmp 1) rfl (bv k3) size_key (bv_one _) rfl ?_ ?_ ?_; go_simp; go_simp; intro w1 hr1 hb1 hz1; have HR1 := Lib.hid hr1; have HB1 := Lib.hid hb1; clear hr1 hb1)))
  refine bodyPost_ret (results_cell_row (h := rfl) _ w1 w.heap.size 48 _ (0, 0) _ (by rfl) HR1.out.is Tryd.underlying48 rfl size_key) rfl ?_
  exact ⟨rfl, HB1.out⟩
theorem isW_no {keys : List (List Int)} {p : Int} (h : ¬ p < keys.length) : isW keys p = false := by unfold isW; rw [decide_eq_false h]; rfl
theorem isW_at {keys : List (List Int)} {q : Nat} {y : List Int} (h : keys[q]? = some y) : isW keys (q : Int) = decide (y = k3) := by
  unfold isW
  have hq := (List.getElem?_eq_some_iff.1 h).1
  rw [decide_eq_true (by omega), Bool.true_and, Int.toNat_natCast, List.getD_eq_getElem?_getD, h]
  rfl
set_option maxRecDepth 100000 in
set_option maxHeartbeats 2000000 in
theorem onBudget_ (KA : Option Addr) (kn kc : Nat) (keys : List (List Int)) (va vd : Value) (p : Int) (B : Nat) (w : World) (hk : KeysIn w B KA kn keys) (hkn : kn ≤ kc ∧ kc ≤ maxLen) (hB : B ≤ w.heap.size) (hp : IsByte p) :
    Calls Tryd.prog 18 #[.slice KA kn kc, .agg (inCells p va vd).toArray] w fun e w' => e = .returned (.bool (isW keys p)) ∧ Below w.heap.size w w' := by
  obtain ⟨W, hW0⟩ : ∃ V, V = w.alloc (.cells (inCells p va vd).toArray 45) := ⟨_, rfl⟩
  have hb0 : Below w.heap.size w W := hW0 ▸ (Below.refl w.heap.size w).alloc (Nat.le_refl _) _
  have hri : Row W (w.heap.size) 45 (inCells p va vd) := by rw [hW0]; exact Row.new w 45 (inCells p va vd)
  have HM0 : Hid True := Lib.hid trivial
  have HC0 : Hid (W.drew.cell? ⟨w.heap.size, 0, none⟩ = some (.int .u8 p)) := Lib.hid (hri.drew.cell 0)
  have HIB : Hid (w.heap.size < W.drew.heap.size) := Lib.hid hri.drew.lt
  have hk0 := hk.below (hb0.mono hB)
  have HB0 := Lib.hid hb0
  have HWW := Lib.hid hW0.symm
  have hkl := hk.len
  clear hri hb0 hk hW0
  obtain ⟨h0, h1⟩ := hp
  obtain ⟨q, rfl⟩ := Int.eq_ofNat_of_zero_le h0
  obtain ⟨hkn, hkc⟩ := hkn
  unfold maxLen at hkc
  have hwq : IntKind.i64.wrap (q : Int) = (q : Int) := IntWalk.i64_in _ (by omega)
  have HBB := Lib.hid hB
  generalize inCells (q : Int) va vd = IC at *
  rcases Nat.lt_or_ge q kn with hq | hq
  · obtain ⟨a, y, rfl, hab, hx, hat⟩ := hk0.get hq
    have HAB : Hid (a.block < W.heap.size) := Lib.hid (Nat.lt_of_lt_of_le hab (Nat.le_trans HBB.out HB0.out.size))
    have HCA := Lib.hid hat.cells
    have HSY := Lib.hid (show (Tryd.prog.info? 48).map (·.size) = some (bv y).length by rw [size_key, bv_length, hat.len])
    have N3 := fun w => key_eql hat.len k3_len w
    have HK := Lib.hid (isW_at hx)
    have hlt : decide ((q : Int) < (kn : Int)) = true := decide_eq_true (by omega)
    clear hat hk0 hx hab
    cases hyy : decide (y = k3) with
    | true =>
      have HQ : Hid (isW keys q = true) := Lib.hid (by rw [HK.out, hyy])
      rw [hyy] at N3
      clear hyy HK
      go_enter Tryd.func18, Tryd.ntmps18
      go_upto_region 1 with fail
      rw [HWW.out]
      clear HWW
      go_wp2_with fail
      refine wp_region_held_drew (S := (fun V => V.cell? ⟨w.heap.size, 0, none⟩ = some (.int .u8 q) ∧ True ∧ Below W.heap.size W V)) (by kernel_rfl) ⟨HC0.out, HM0.out, (Below.refl W.heap.size W).drew⟩ (fun _ => ?_)
      refine takeL (i := 0) (v := ?_) rfl (by kernel_rfl) (by kernel_rfl) (by kernel_rfl) (fun _ _ _ h => h) (Or.inl ⟨by rfl, ?_⟩) ⟨HC0.out, HM0.out, (Below.refl W.heap.size W).drew⟩ ?_
      rotate_left
      · intro w hw
        try dsimp only at hw
        obtain ⟨q0, q1, q2⟩ := hw
        go_simp
        try with_reducible rfl
      try simp only [Act.put, List.setIfInBounds_toArray, List.set_cons_zero, List.set_cons_succ]
      refine takeL (i := 1) (v := ?_) rfl (by kernel_rfl) (by kernel_rfl) (by kernel_rfl) (fun _ _ _ h => h) (Or.inl ⟨by rfl, ?_⟩) ⟨HC0.out, HM0.out, (Below.refl W.heap.size W).drew⟩ ?_
      rotate_left
      · intro w hw
        try dsimp only at hw
        obtain ⟨q0, q1, q2⟩ := hw
        go_simp
        try with_reducible rfl
      try simp only [Act.put, List.setIfInBounds_toArray, List.set_cons_zero, List.set_cons_succ]
      refine takeL (i := 2) (v := ?_) rfl (by kernel_rfl) (by kernel_rfl) (by kernel_rfl) (fun _ _ _ h => h) (Or.inl ⟨by rfl, ?_⟩) ⟨HC0.out, HM0.out, (Below.refl W.heap.size W).drew⟩ ?_
      rotate_left
      · intro w hw
        try dsimp only at hw
        obtain ⟨q0, q1, q2⟩ := hw
        go_simp
        try with_reducible rfl
      try simp only [Act.put, List.setIfInBounds_toArray, List.set_cons_zero, List.set_cons_succ]
      refine takeL (i := 3) (v := ?_) rfl (by kernel_rfl) (by kernel_rfl) (by kernel_rfl) (fun _ _ _ h => h) (Or.inl ⟨by rfl, ?_⟩) ⟨HC0.out, HM0.out, (Below.refl W.heap.size W).drew⟩ ?_
      rotate_left
      · intro w hw
        try dsimp only at hw
        obtain ⟨q0, q1, q2⟩ := hw
        go_simp
        try with_reducible rfl
      try simp only [Act.put, List.setIfInBounds_toArray, List.set_cons_zero, List.set_cons_succ]
      refine takeL (i := 4) (v := ?_) rfl (by kernel_rfl) (by kernel_rfl) (by kernel_rfl) (fun _ _ _ h => h) (Or.inl ⟨by rfl, ?_⟩) ⟨HC0.out, HM0.out, (Below.refl W.heap.size W).drew⟩ ?_
      rotate_left
      · intro w hw
        try dsimp only at hw
        obtain ⟨q0, q1, q2⟩ := hw
        go_simp
        try with_reducible rfl
      try simp only [Act.put, List.setIfInBounds_toArray, List.set_cons_zero, List.set_cons_succ]
      refine takeL (i := 5) (v := ?_) rfl (by kernel_rfl) (by kernel_rfl) (by kernel_rfl) (fun _ _ _ h => h) (Or.inl ⟨by rfl, ?_⟩) ⟨HC0.out, HM0.out, (Below.refl W.heap.size W).drew⟩ ?_
      rotate_left
      · intro w hw
        try dsimp only at hw
        obtain ⟨q0, q1, q2⟩ := hw
        go_simp
        try with_reducible rfl
      try simp only [Act.put, List.setIfInBounds_toArray, List.set_cons_zero, List.set_cons_succ]
      refine takeL (i := 6) (v := ?_) rfl (by kernel_rfl) (by kernel_rfl) (by kernel_rfl) (fun _ _ _ h => h) (Or.inl ⟨by rfl, ?_⟩) ⟨HC0.out, HM0.out, (Below.refl W.heap.size W).drew⟩ ?_
      rotate_left
      · intro w hw
        try dsimp only at hw
        obtain ⟨q0, q1, q2⟩ := hw
        go_simp
        try with_reducible rfl
      try simp only [Act.put, List.setIfInBounds_toArray, List.set_cons_zero, List.set_cons_succ]
      refine takeL (i := 7) (v := ?_) rfl (by kernel_rfl) (by kernel_rfl) (by kernel_rfl) (fun _ _ _ h => h) (Or.inl ⟨by rfl, ?_⟩) ⟨HC0.out, HM0.out, (Below.refl W.heap.size W).drew⟩ ?_
      rotate_left
      · intro w hw
        try dsimp only at hw
        obtain ⟨q0, q1, q2⟩ := hw
        go_simp
        try with_reducible rfl
      try simp only [Act.put, List.setIfInBounds_toArray, List.set_cons_zero, List.set_cons_succ]
      refine takeL (i := 8) (v := ?_) rfl (by kernel_rfl) (by kernel_rfl) (by kernel_rfl) (fun _ _ _ h => h) (Or.inl ⟨by rfl, ?_⟩) ⟨HC0.out, HM0.out, (Below.refl W.heap.size W).drew⟩ ?_
      rotate_left
      · intro w hw
        try dsimp only at hw
        obtain ⟨q0, q1, q2⟩ := hw
        go_simp
        try with_reducible rfl
      try simp only [Act.put, List.setIfInBounds_toArray, List.set_cons_zero, List.set_cons_succ]
      refine takeL (i := 9) (v := ?_) rfl (by kernel_rfl) (by kernel_rfl) (by kernel_rfl) (fun _ _ _ h => h) (Or.inl ⟨by rfl, ?_⟩) ⟨HC0.out, HM0.out, (Below.refl W.heap.size W).drew⟩ ?_
      rotate_left
      · intro w hw
        try dsimp only at hw
        obtain ⟨q0, q1, q2⟩ := hw
        go_simp
        try with_reducible rfl
      try simp only [Act.put, List.setIfInBounds_toArray, List.set_cons_zero, List.set_cons_succ]
      refine takeL (i := 10) (v := ?_) rfl (by kernel_rfl) (by kernel_rfl) (by kernel_rfl) (fun _ _ _ h => h) (Or.inl ⟨by rfl, ?_⟩) ⟨HC0.out, HM0.out, (Below.refl W.heap.size W).drew⟩ ?_
      rotate_left
      · intro w hw
        try dsimp only at hw
        obtain ⟨q0, q1, q2⟩ := hw
        go_simp
        try with_reducible rfl
      try simp only [Act.put, List.setIfInBounds_toArray, List.set_cons_zero, List.set_cons_succ]
      refine takeL (i := 11) (v := .agg (bv y).toArray) rfl (by kernel_rfl) (by kernel_rfl) (by kernel_rfl) (fun _ _ _ h => h) (Or.inl ⟨by rfl, fun wz hwz => exec_load_at wz 48 (.tmp 15) rfl (a.add (q * 32)) (bv y) _ Tryd.underlying48 rfl HSY.out (fun j u hu => (hwz.2.2.cell (by rw [addr_block, addr_block]; exact HAB.out)).trans (HCA.out j u hu)) (by go_simp)⟩) ⟨HC0.out, HM0.out, (Below.refl W.heap.size W).drew⟩ ?_
      try simp only [Act.put, List.setIfInBounds_toArray, List.set_cons_zero, List.set_cons_succ]
      refine readyL (i := 12) rfl (by kernel_rfl) (by kernel_rfl) fun K hK => ?_
      go_simp
      refine (budget_ W.drew).mono ?_
      rintro e w1 ⟨rfl, hb1⟩
      have B1 := Lib.hid (show Below W.heap.size W w1 from ((Below.refl W.heap.size W).drew).trans hb1)
      have HC1 : Hid (w1.cell? ⟨w.heap.size, 0, none⟩ = some (.int .u8 q)) := Lib.hid ((hb1.cell (p := ⟨w.heap.size, 0, none⟩) HIB.out).trans HC0.out)
      have HM1 : Hid True := HM0
      clear hb1
      refine hK.out _ _ ⟨HC1.out, HM1.out, B1.out⟩ ?_
      clear hK K
      try simp only [Act.put, List.setIfInBounds_toArray, List.set_cons_zero, List.set_cons_succ]
      refine takeL (i := 13) (v := ?_) rfl (by kernel_rfl) (by kernel_rfl) (by kernel_rfl) (fun _ _ _ h => h) (Or.inl ⟨by rfl, ?_⟩) ⟨HC1.out, HM1.out, B1.out⟩ ?_
      rotate_left
      · intro w hw
        try dsimp only at hw
        obtain ⟨q0, q1, q2⟩ := hw
        go_simp
        try with_reducible rfl
      try simp only [Act.put, List.setIfInBounds_toArray, List.set_cons_zero, List.set_cons_succ]
      refine takeL (i := 14) (v := ?_) rfl (by kernel_rfl) (by kernel_rfl) (by kernel_rfl) (fun _ _ _ h => h) (Or.inl ⟨by rfl, ?_⟩) ⟨HC1.out, HM1.out, B1.out⟩ ?_
      rotate_left
      · intro w hw
        try dsimp only at hw
        obtain ⟨q0, q1, q2⟩ := hw
        go_simp
        try with_reducible rfl
      try simp only [Act.put, List.setIfInBounds_toArray, List.set_cons_zero, List.set_cons_succ]
      refine takeL (i := 15) (v := ?_) rfl (by kernel_rfl) (by kernel_rfl) (by kernel_rfl) (fun _ _ _ h => h) (Or.inl ⟨by rfl, ?_⟩) ⟨HC1.out, HM1.out, B1.out⟩ ?_
      rotate_left
      · intro w hw
        try dsimp only at hw
        obtain ⟨q0, q1, q2⟩ := hw
        go_simp
        try with_reducible rfl
      try simp only [Act.put, List.setIfInBounds_toArray, List.set_cons_zero, List.set_cons_succ]
      refine wpAnyH_done (by kernel_rfl) ?_ _
      go_wp2_with fail
      go_ret
      exact ⟨told_bool HQ.out.symm, HB0.out.trans (B1.out.mono HB0.out.size)⟩
    | false =>
      have HQ : Hid (isW keys q = false) := Lib.hid (by rw [HK.out, hyy])
      rw [hyy] at N3
      clear hyy HK
      go_enter Tryd.func18, Tryd.ntmps18
      go_upto_region 1 with fail
      rw [HWW.out]
      clear HWW
      go_wp2_with fail
      refine wp_region_held_drew (S := (fun V => V.cell? ⟨w.heap.size, 0, none⟩ = some (.int .u8 q) ∧ True ∧ Below W.heap.size W V)) (by kernel_rfl) ⟨HC0.out, HM0.out, (Below.refl W.heap.size W).drew⟩ (fun _ => ?_)
      refine takeL (i := 0) (v := ?_) rfl (by kernel_rfl) (by kernel_rfl) (by kernel_rfl) (fun _ _ _ h => h) (Or.inl ⟨by rfl, ?_⟩) ⟨HC0.out, HM0.out, (Below.refl W.heap.size W).drew⟩ ?_
      rotate_left
      · intro w hw
        try dsimp only at hw
        obtain ⟨q0, q1, q2⟩ := hw
        go_simp
        try with_reducible rfl
      try simp only [Act.put, List.setIfInBounds_toArray, List.set_cons_zero, List.set_cons_succ]
      refine takeL (i := 1) (v := ?_) rfl (by kernel_rfl) (by kernel_rfl) (by kernel_rfl) (fun _ _ _ h => h) (Or.inl ⟨by rfl, ?_⟩) ⟨HC0.out, HM0.out, (Below.refl W.heap.size W).drew⟩ ?_
      rotate_left
      · intro w hw
        try dsimp only at hw
        obtain ⟨q0, q1, q2⟩ := hw
        go_simp
        try with_reducible rfl
      try simp only [Act.put, List.setIfInBounds_toArray, List.set_cons_zero, List.set_cons_succ]
      refine takeL (i := 2) (v := ?_) rfl (by kernel_rfl) (by kernel_rfl) (by kernel_rfl) (fun _ _ _ h => h) (Or.inl ⟨by rfl, ?_⟩) ⟨HC0.out, HM0.out, (Below.refl W.heap.size W).drew⟩ ?_
      rotate_left
      · intro w hw
        try dsimp only at hw
        obtain ⟨q0, q1, q2⟩ := hw
        go_simp
        try with_reducible rfl
      try simp only [Act.put, List.setIfInBounds_toArray, List.set_cons_zero, List.set_cons_succ]
      refine takeL (i := 3) (v := ?_) rfl (by kernel_rfl) (by kernel_rfl) (by kernel_rfl) (fun _ _ _ h => h) (Or.inl ⟨by rfl, ?_⟩) ⟨HC0.out, HM0.out, (Below.refl W.heap.size W).drew⟩ ?_
      rotate_left
      · intro w hw
        try dsimp only at hw
        obtain ⟨q0, q1, q2⟩ := hw
        go_simp
        try with_reducible rfl
      try simp only [Act.put, List.setIfInBounds_toArray, List.set_cons_zero, List.set_cons_succ]
      refine takeL (i := 4) (v := ?_) rfl (by kernel_rfl) (by kernel_rfl) (by kernel_rfl) (fun _ _ _ h => h) (Or.inl ⟨by rfl, ?_⟩) ⟨HC0.out, HM0.out, (Below.refl W.heap.size W).drew⟩ ?_
      rotate_left
      · intro w hw
        try dsimp only at hw
        obtain ⟨q0, q1, q2⟩ := hw
        go_simp
        try with_reducible rfl
      try simp only [Act.put, List.setIfInBounds_toArray, List.set_cons_zero, List.set_cons_succ]
      refine takeL (i := 5) (v := ?_) rfl (by kernel_rfl) (by kernel_rfl) (by kernel_rfl) (fun _ _ _ h => h) (Or.inl ⟨by rfl, ?_⟩) ⟨HC0.out, HM0.out, (Below.refl W.heap.size W).drew⟩ ?_
      rotate_left
      · intro w hw
        try dsimp only at hw
        obtain ⟨q0, q1, q2⟩ := hw
        go_simp
        try with_reducible rfl
      try simp only [Act.put, List.setIfInBounds_toArray, List.set_cons_zero, List.set_cons_succ]
      refine takeL (i := 6) (v := ?_) rfl (by kernel_rfl) (by kernel_rfl) (by kernel_rfl) (fun _ _ _ h => h) (Or.inl ⟨by rfl, ?_⟩) ⟨HC0.out, HM0.out, (Below.refl W.heap.size W).drew⟩ ?_
      rotate_left
      · intro w hw
        try dsimp only at hw
        obtain ⟨q0, q1, q2⟩ := hw
        go_simp
        try with_reducible rfl
      try simp only [Act.put, List.setIfInBounds_toArray, List.set_cons_zero, List.set_cons_succ]
      refine takeL (i := 7) (v := ?_) rfl (by kernel_rfl) (by kernel_rfl) (by kernel_rfl) (fun _ _ _ h => h) (Or.inl ⟨by rfl, ?_⟩) ⟨HC0.out, HM0.out, (Below.refl W.heap.size W).drew⟩ ?_
      rotate_left
      · intro w hw
        try dsimp only at hw
        obtain ⟨q0, q1, q2⟩ := hw
        go_simp
        try with_reducible rfl
      try simp only [Act.put, List.setIfInBounds_toArray, List.set_cons_zero, List.set_cons_succ]
      refine takeL (i := 8) (v := ?_) rfl (by kernel_rfl) (by kernel_rfl) (by kernel_rfl) (fun _ _ _ h => h) (Or.inl ⟨by rfl, ?_⟩) ⟨HC0.out, HM0.out, (Below.refl W.heap.size W).drew⟩ ?_
      rotate_left
      · intro w hw
        try dsimp only at hw
        obtain ⟨q0, q1, q2⟩ := hw
        go_simp
        try with_reducible rfl
      try simp only [Act.put, List.setIfInBounds_toArray, List.set_cons_zero, List.set_cons_succ]
      refine takeL (i := 9) (v := ?_) rfl (by kernel_rfl) (by kernel_rfl) (by kernel_rfl) (fun _ _ _ h => h) (Or.inl ⟨by rfl, ?_⟩) ⟨HC0.out, HM0.out, (Below.refl W.heap.size W).drew⟩ ?_
      rotate_left
      · intro w hw
        try dsimp only at hw
        obtain ⟨q0, q1, q2⟩ := hw
        go_simp
        try with_reducible rfl
      try simp only [Act.put, List.setIfInBounds_toArray, List.set_cons_zero, List.set_cons_succ]
      refine takeL (i := 10) (v := ?_) rfl (by kernel_rfl) (by kernel_rfl) (by kernel_rfl) (fun _ _ _ h => h) (Or.inl ⟨by rfl, ?_⟩) ⟨HC0.out, HM0.out, (Below.refl W.heap.size W).drew⟩ ?_
      rotate_left
      · intro w hw
        try dsimp only at hw
        obtain ⟨q0, q1, q2⟩ := hw
        go_simp
        try with_reducible rfl
      try simp only [Act.put, List.setIfInBounds_toArray, List.set_cons_zero, List.set_cons_succ]
      refine takeL (i := 11) (v := .agg (bv y).toArray) rfl (by kernel_rfl) (by kernel_rfl) (by kernel_rfl) (fun _ _ _ h => h) (Or.inl ⟨by rfl, fun wz hwz => exec_load_at wz 48 (.tmp 15) rfl (a.add (q * 32)) (bv y) _ Tryd.underlying48 rfl HSY.out (fun j u hu => (hwz.2.2.cell (by rw [addr_block, addr_block]; exact HAB.out)).trans (HCA.out j u hu)) (by go_simp)⟩) ⟨HC0.out, HM0.out, (Below.refl W.heap.size W).drew⟩ ?_
      try simp only [Act.put, List.setIfInBounds_toArray, List.set_cons_zero, List.set_cons_succ]
      refine readyL (i := 12) rfl (by kernel_rfl) (by kernel_rfl) fun K hK => ?_
      go_simp
      refine (budget_ W.drew).mono ?_
      rintro e w1 ⟨rfl, hb1⟩
      have B1 := Lib.hid (show Below W.heap.size W w1 from ((Below.refl W.heap.size W).drew).trans hb1)
      have HC1 : Hid (w1.cell? ⟨w.heap.size, 0, none⟩ = some (.int .u8 q)) := Lib.hid ((hb1.cell (p := ⟨w.heap.size, 0, none⟩) HIB.out).trans HC0.out)
      have HM1 : Hid True := HM0
      clear hb1
      refine hK.out _ _ ⟨HC1.out, HM1.out, B1.out⟩ ?_
      clear hK K
      try simp only [Act.put, List.setIfInBounds_toArray, List.set_cons_zero, List.set_cons_succ]
      refine takeL (i := 13) (v := ?_) rfl (by kernel_rfl) (by kernel_rfl) (by kernel_rfl) (fun _ _ _ h => h) (Or.inl ⟨by rfl, ?_⟩) ⟨HC1.out, HM1.out, B1.out⟩ ?_
      rotate_left
      · intro w hw
        try dsimp only at hw
        obtain ⟨q0, q1, q2⟩ := hw
        go_simp
        try with_reducible rfl
      try simp only [Act.put, List.setIfInBounds_toArray, List.set_cons_zero, List.set_cons_succ]
      refine takeL (i := 14) (v := ?_) rfl (by kernel_rfl) (by kernel_rfl) (by kernel_rfl) (fun _ _ _ h => h) (Or.inl ⟨by rfl, ?_⟩) ⟨HC1.out, HM1.out, B1.out⟩ ?_
      rotate_left
      · intro w hw
        try dsimp only at hw
        obtain ⟨q0, q1, q2⟩ := hw
        go_simp
        try with_reducible rfl
      try simp only [Act.put, List.setIfInBounds_toArray, List.set_cons_zero, List.set_cons_succ]
      refine takeL (i := 15) (v := ?_) rfl (by kernel_rfl) (by kernel_rfl) (by kernel_rfl) (fun _ _ _ h => h) (Or.inl ⟨by rfl, ?_⟩) ⟨HC1.out, HM1.out, B1.out⟩ ?_
      rotate_left
      · intro w hw
        try dsimp only at hw
        obtain ⟨q0, q1, q2⟩ := hw
        go_simp
        try with_reducible rfl
      try simp only [Act.put, List.setIfInBounds_toArray, List.set_cons_zero, List.set_cons_succ]
      refine wpAnyH_done (by kernel_rfl) ?_ _
      go_wp2_with fail
      go_ret
      exact ⟨told_bool HQ.out.symm, HB0.out.trans (B1.out.mono HB0.out.size)⟩
  · have HQ : Hid (isW keys q = false) := Lib.hid (isW_no (by rw [hkl]; omega))
    have hlt : decide ((q : Int) < (kn : Int)) = false := decide_eq_false (by omega)
    have hlt2 : decide (q < kn) = false := decide_eq_false (by omega)
    have hlt3 : ¬ (q : Int) < (kn : Int) := by omega
    clear hk0
    go_enter Tryd.func18, Tryd.ntmps18
    go_upto_region 1 with fail
    rw [HWW.out]
    clear HWW
    go_wp2_with fail
    refine wp_region_held_drew (S := (fun V => V.cell? ⟨w.heap.size, 0, none⟩ = some (.int .u8 q) ∧ True ∧ Below W.heap.size W V)) (by kernel_rfl) ⟨HC0.out, HM0.out, (Below.refl W.heap.size W).drew⟩ (fun _ => ?_)
    refine takeL (i := 0) (v := ?_) rfl (by kernel_rfl) (by kernel_rfl) (by kernel_rfl) (fun _ _ _ h => h) (Or.inl ⟨by rfl, ?_⟩) ⟨HC0.out, HM0.out, (Below.refl W.heap.size W).drew⟩ ?_
    rotate_left
    · intro w hw
      try dsimp only at hw
      obtain ⟨q0, q1, q2⟩ := hw
      go_simp
      try with_reducible rfl
    try simp only [Act.put, List.setIfInBounds_toArray, List.set_cons_zero, List.set_cons_succ]
    refine takeL (i := 1) (v := ?_) rfl (by kernel_rfl) (by kernel_rfl) (by kernel_rfl) (fun _ _ _ h => h) (Or.inl ⟨by rfl, ?_⟩) ⟨HC0.out, HM0.out, (Below.refl W.heap.size W).drew⟩ ?_
    rotate_left
    · intro w hw
      try dsimp only at hw
      obtain ⟨q0, q1, q2⟩ := hw
      go_simp
      try with_reducible rfl
    try simp only [Act.put, List.setIfInBounds_toArray, List.set_cons_zero, List.set_cons_succ]
    refine takeL (i := 2) (v := ?_) rfl (by kernel_rfl) (by kernel_rfl) (by kernel_rfl) (fun _ _ _ h => h) (Or.inl ⟨by rfl, ?_⟩) ⟨HC0.out, HM0.out, (Below.refl W.heap.size W).drew⟩ ?_
    rotate_left
    · intro w hw
      try dsimp only at hw
      obtain ⟨q0, q1, q2⟩ := hw
      go_simp
      try with_reducible rfl
    try simp only [Act.put, List.setIfInBounds_toArray, List.set_cons_zero, List.set_cons_succ]
    refine takeL (i := 3) (v := ?_) rfl (by kernel_rfl) (by kernel_rfl) (by kernel_rfl) (fun _ _ _ h => h) (Or.inl ⟨by rfl, ?_⟩) ⟨HC0.out, HM0.out, (Below.refl W.heap.size W).drew⟩ ?_
    rotate_left
    · intro w hw
      try dsimp only at hw
      obtain ⟨q0, q1, q2⟩ := hw
      go_simp
      try with_reducible rfl
    try simp only [Act.put, List.setIfInBounds_toArray, List.set_cons_zero, List.set_cons_succ]
    refine takeL (i := 4) (v := ?_) rfl (by kernel_rfl) (by kernel_rfl) (by kernel_rfl) (fun _ _ _ h => h) (Or.inl ⟨by rfl, ?_⟩) ⟨HC0.out, HM0.out, (Below.refl W.heap.size W).drew⟩ ?_
    rotate_left
    · intro w hw
      try dsimp only at hw
      obtain ⟨q0, q1, q2⟩ := hw
      go_simp
      try with_reducible rfl
    try simp only [Act.put, List.setIfInBounds_toArray, List.set_cons_zero, List.set_cons_succ]
    refine takeL (i := 5) (v := ?_) rfl (by kernel_rfl) (by kernel_rfl) (by kernel_rfl) (fun _ _ _ h => h) (Or.inl ⟨by rfl, ?_⟩) ⟨HC0.out, HM0.out, (Below.refl W.heap.size W).drew⟩ ?_
    rotate_left
    · intro w hw
      try dsimp only at hw
      obtain ⟨q0, q1, q2⟩ := hw
      go_simp
      try with_reducible rfl
    try simp only [Act.put, List.setIfInBounds_toArray, List.set_cons_zero, List.set_cons_succ]
    refine takeL (i := 6) (v := ?_) rfl (by kernel_rfl) (by kernel_rfl) (by kernel_rfl) (fun _ _ _ h => h) (Or.inl ⟨by rfl, ?_⟩) ⟨HC0.out, HM0.out, (Below.refl W.heap.size W).drew⟩ ?_
    rotate_left
    · intro w hw
      try dsimp only at hw
      obtain ⟨q0, q1, q2⟩ := hw
      go_simp
      try with_reducible rfl
    try simp only [Act.put, List.setIfInBounds_toArray, List.set_cons_zero, List.set_cons_succ]
    refine takeL (i := 7) (v := undef) rfl (by kernel_rfl) (by kernel_rfl) (by kernel_rfl) (fun _ _ _ h => h) (Or.inr ⟨by rfl, rfl⟩) ⟨HC0.out, HM0.out, (Below.refl W.heap.size W).drew⟩ ?_
    try simp only [Act.put, List.setIfInBounds_toArray, List.set_cons_zero, List.set_cons_succ]
    refine takeL (i := 8) (v := undef) rfl (by kernel_rfl) (by kernel_rfl) (by kernel_rfl) (fun _ _ _ h => h) (Or.inr ⟨by rfl, rfl⟩) ⟨HC0.out, HM0.out, (Below.refl W.heap.size W).drew⟩ ?_
    try simp only [Act.put, List.setIfInBounds_toArray, List.set_cons_zero, List.set_cons_succ]
    refine takeL (i := 9) (v := undef) rfl (by kernel_rfl) (by kernel_rfl) (by kernel_rfl) (fun _ _ _ h => h) (Or.inr ⟨by rfl, rfl⟩) ⟨HC0.out, HM0.out, (Below.refl W.heap.size W).drew⟩ ?_
    try simp only [Act.put, List.setIfInBounds_toArray, List.set_cons_zero, List.set_cons_succ]
    refine takeL (i := 10) (v := undef) rfl (by kernel_rfl) (by kernel_rfl) (by kernel_rfl) (fun _ _ _ h => h) (Or.inr ⟨by rfl, rfl⟩) ⟨HC0.out, HM0.out, (Below.refl W.heap.size W).drew⟩ ?_
    try simp only [Act.put, List.setIfInBounds_toArray, List.set_cons_zero, List.set_cons_succ]
    refine takeL (i := 11) (v := undef) rfl (by kernel_rfl) (by kernel_rfl) (by kernel_rfl) (fun _ _ _ h => h) (Or.inr ⟨by rfl, rfl⟩) ⟨HC0.out, HM0.out, (Below.refl W.heap.size W).drew⟩ ?_
    try simp only [Act.put, List.setIfInBounds_toArray, List.set_cons_zero, List.set_cons_succ]
    refine takeL (i := 12) (v := undef) rfl (by kernel_rfl) (by kernel_rfl) (by kernel_rfl) (fun _ _ _ h => h) (Or.inr ⟨by rfl, rfl⟩) ⟨HC0.out, HM0.out, (Below.refl W.heap.size W).drew⟩ ?_
    try simp only [Act.put, List.setIfInBounds_toArray, List.set_cons_zero, List.set_cons_succ]
    refine takeL (i := 13) (v := undef) rfl (by kernel_rfl) (by kernel_rfl) (by kernel_rfl) (fun _ _ _ h => h) (Or.inr ⟨by rfl, rfl⟩) ⟨HC0.out, HM0.out, (Below.refl W.heap.size W).drew⟩ ?_
    try simp only [Act.put, List.setIfInBounds_toArray, List.set_cons_zero, List.set_cons_succ]
    refine takeL (i := 14) (v := ?_) rfl (by kernel_rfl) (by kernel_rfl) (by kernel_rfl) (fun _ _ _ h => h) (Or.inl ⟨by rfl, ?_⟩) ⟨HC0.out, HM0.out, (Below.refl W.heap.size W).drew⟩ ?_
    rotate_left
    · intro w hw
      try dsimp only at hw
      obtain ⟨q0, q1, q2⟩ := hw
      go_simp
      try with_reducible rfl
    try simp only [Act.put, List.setIfInBounds_toArray, List.set_cons_zero, List.set_cons_succ]
    refine takeL (i := 15) (v := ?_) rfl (by kernel_rfl) (by kernel_rfl) (by kernel_rfl) (fun _ _ _ h => h) (Or.inl ⟨by rfl, ?_⟩) ⟨HC0.out, HM0.out, (Below.refl W.heap.size W).drew⟩ ?_
    rotate_left
    · intro w hw
      try dsimp only at hw
      obtain ⟨q0, q1, q2⟩ := hw
      go_simp
      try with_reducible rfl
    try simp only [Act.put, List.setIfInBounds_toArray, List.set_cons_zero, List.set_cons_succ]
    refine wpAnyH_done (by kernel_rfl) ?_ _
    go_wp2_with fail
    go_ret
    exact ⟨told_bool HQ.out.symm, HB0.out.drew⟩
set_option maxRecDepth 100000 in
set_option maxHeartbeats 2000000 in
theorem refWord_ (r : Raw) (m : LMsg) (va vd : Value) (p : Int) (B : Nat) (w : World) (hm : MsgIn w B r m) (hB : B ≤ w.heap.size) (hp : IsByte p) :
    Calls Tryd.prog 21 #[.agg (r.cells m).toArray, .agg (inCells p va vd).toArray] w fun e w' => e = .returned (.bool (isW m.keys p)) ∧ Below w.heap.size w w' := by
  have hk := hm.keys
  obtain ⟨KA, kn, kc, IA, n, ic, LA, ln, lc⟩ := r
  have hkn := hm.kn
  dsimp only at hk hkn
  have hc4 : (Raw.cells ⟨KA, kn, kc, IA, n, ic, LA, ln, lc⟩ m)[4]? = some (.slice KA kn kc) := rfl
  clear hm
  generalize Raw.cells ⟨KA, kn, kc, IA, n, ic, LA, ln, lc⟩ m = MC at *
  generalize m.keys = keys at *
  obtain ⟨W, hW0⟩ : ∃ V, V = (w.alloc (.cells MC.toArray 30)).alloc (.cells (inCells p va vd).toArray 45) := ⟨_, rfl⟩
  have hb0 : Below w.heap.size w W := hW0 ▸ ((Below.refl w.heap.size w).alloc (Nat.le_refl _) (.cells MC.toArray 30)).alloc (by simp) _
  have hri : Row W (w.heap.size + 1) 45 (inCells p va vd) := by rw [hW0]; exact Row.new' (w.alloc (.cells MC.toArray 30)) 45 (inCells p va vd) (show (w.alloc (.cells MC.toArray 30)).heap.size = w.heap.size + 1 by simp)
  have hmi : Row W w.heap.size 30 MC := by rw [hW0]; exact (Row.new w 30 MC).alloc _
  have HM0 : Hid (W.drew.cell? ⟨w.heap.size, 4, none⟩ = some (.slice KA kn kc)) := Lib.hid ((hmi.drew.cell 4).trans hc4)
  have HMB : Hid (w.heap.size < W.drew.heap.size) := Lib.hid hmi.drew.lt
  have HC0 : Hid (W.drew.cell? ⟨w.heap.size + 1, 0, none⟩ = some (.int .u8 p)) := Lib.hid (hri.drew.cell 0)
  have HIB : Hid (w.heap.size + 1 < W.drew.heap.size) := Lib.hid hri.drew.lt
  have hk0 := hk.below (hb0.mono hB)
  have HB0 := Lib.hid hb0
  have HWW := Lib.hid hW0.symm
  have hkl := hk.len
  clear hri hb0 hk hW0 hmi
  obtain ⟨h0, h1⟩ := hp
  obtain ⟨q, rfl⟩ := Int.eq_ofNat_of_zero_le h0
  obtain ⟨hkn, hkc⟩ := hkn
  unfold maxLen at hkc
  have hwq : IntKind.i64.wrap (q : Int) = (q : Int) := IntWalk.i64_in _ (by omega)
  have HBB := Lib.hid hB
  generalize inCells (q : Int) va vd = IC at *
  rcases Nat.lt_or_ge q kn with hq | hq
  · obtain ⟨a, y, rfl, hab, hx, hat⟩ := hk0.get hq
    have HAB : Hid (a.block < W.heap.size) := Lib.hid (Nat.lt_of_lt_of_le hab (Nat.le_trans HBB.out HB0.out.size))
    have HCA := Lib.hid hat.cells
    have HSY := Lib.hid (show (Tryd.prog.info? 48).map (·.size) = some (bv y).length by rw [size_key, bv_length, hat.len])
    have N3 := fun w => key_eql hat.len k3_len w
    have HK := Lib.hid (isW_at hx)
    have hlt : decide ((q : Int) < (kn : Int)) = true := decide_eq_true (by omega)
    clear hat hk0 hx hab
    cases hyy : decide (y = k3) with
    | true =>
      have HQ : Hid (isW keys q = true) := Lib.hid (by rw [HK.out, hyy])
      rw [hyy] at N3
      clear hyy HK
      go_enter Tryd.func21, Tryd.ntmps21
      go_upto_region 1 with fail
      rw [HWW.out]
      clear HWW
      go_wp2_with fail
      refine wp_region_held_drew (S := (fun V => V.cell? ⟨w.heap.size + 1, 0, none⟩ = some (.int .u8 q) ∧ V.cell? ⟨w.heap.size, 4, none⟩ = some (.slice (some a) kn kc) ∧ Below W.heap.size W V)) (by kernel_rfl) ⟨HC0.out, HM0.out, (Below.refl W.heap.size W).drew⟩ (fun _ => ?_)
      refine takeL (i := 0) (v := ?_) rfl (by kernel_rfl) (by kernel_rfl) (by kernel_rfl) (fun _ _ _ h => h) (Or.inl ⟨by rfl, ?_⟩) ⟨HC0.out, HM0.out, (Below.refl W.heap.size W).drew⟩ ?_
      rotate_left
      · intro w hw
        try dsimp only at hw
        obtain ⟨q0, q1, q2⟩ := hw
        go_simp
        try with_reducible rfl
      try simp only [Act.put, List.setIfInBounds_toArray, List.set_cons_zero, List.set_cons_succ]
      refine takeL (i := 1) (v := ?_) rfl (by kernel_rfl) (by kernel_rfl) (by kernel_rfl) (fun _ _ _ h => h) (Or.inl ⟨by rfl, ?_⟩) ⟨HC0.out, HM0.out, (Below.refl W.heap.size W).drew⟩ ?_
      rotate_left
      · intro w hw
        try dsimp only at hw
        obtain ⟨q0, q1, q2⟩ := hw
        go_simp
        try with_reducible rfl
      try simp only [Act.put, List.setIfInBounds_toArray, List.set_cons_zero, List.set_cons_succ]
      refine takeL (i := 2) (v := ?_) rfl (by kernel_rfl) (by kernel_rfl) (by kernel_rfl) (fun _ _ _ h => h) (Or.inl ⟨by rfl, ?_⟩) ⟨HC0.out, HM0.out, (Below.refl W.heap.size W).drew⟩ ?_
      rotate_left
      · intro w hw
        try dsimp only at hw
        obtain ⟨q0, q1, q2⟩ := hw
        go_simp
        try with_reducible rfl
      try simp only [Act.put, List.setIfInBounds_toArray, List.set_cons_zero, List.set_cons_succ]
      refine takeL (i := 3) (v := ?_) rfl (by kernel_rfl) (by kernel_rfl) (by kernel_rfl) (fun _ _ _ h => h) (Or.inl ⟨by rfl, ?_⟩) ⟨HC0.out, HM0.out, (Below.refl W.heap.size W).drew⟩ ?_
      rotate_left
      · intro w hw
        try dsimp only at hw
        obtain ⟨q0, q1, q2⟩ := hw
        go_simp
        try with_reducible rfl
      try simp only [Act.put, List.setIfInBounds_toArray, List.set_cons_zero, List.set_cons_succ]
      refine takeL (i := 4) (v := ?_) rfl (by kernel_rfl) (by kernel_rfl) (by kernel_rfl) (fun _ _ _ h => h) (Or.inl ⟨by rfl, ?_⟩) ⟨HC0.out, HM0.out, (Below.refl W.heap.size W).drew⟩ ?_
      rotate_left
      · intro w hw
        try dsimp only at hw
        obtain ⟨q0, q1, q2⟩ := hw
        go_simp
        try with_reducible rfl
      try simp only [Act.put, List.setIfInBounds_toArray, List.set_cons_zero, List.set_cons_succ]
      refine takeL (i := 5) (v := ?_) rfl (by kernel_rfl) (by kernel_rfl) (by kernel_rfl) (fun _ _ _ h => h) (Or.inl ⟨by rfl, ?_⟩) ⟨HC0.out, HM0.out, (Below.refl W.heap.size W).drew⟩ ?_
      rotate_left
      · intro w hw
        try dsimp only at hw
        obtain ⟨q0, q1, q2⟩ := hw
        go_simp
        try with_reducible rfl
      try simp only [Act.put, List.setIfInBounds_toArray, List.set_cons_zero, List.set_cons_succ]
      refine takeL (i := 6) (v := ?_) rfl (by kernel_rfl) (by kernel_rfl) (by kernel_rfl) (fun _ _ _ h => h) (Or.inl ⟨by rfl, ?_⟩) ⟨HC0.out, HM0.out, (Below.refl W.heap.size W).drew⟩ ?_
      rotate_left
      · intro w hw
        try dsimp only at hw
        obtain ⟨q0, q1, q2⟩ := hw
        go_simp
        try with_reducible rfl
      try simp only [Act.put, List.setIfInBounds_toArray, List.set_cons_zero, List.set_cons_succ]
      refine takeL (i := 7) (v := ?_) rfl (by kernel_rfl) (by kernel_rfl) (by kernel_rfl) (fun _ _ _ h => h) (Or.inl ⟨by rfl, ?_⟩) ⟨HC0.out, HM0.out, (Below.refl W.heap.size W).drew⟩ ?_
      rotate_left
      · intro w hw
        try dsimp only at hw
        obtain ⟨q0, q1, q2⟩ := hw
        go_simp
        try with_reducible rfl
      try simp only [Act.put, List.setIfInBounds_toArray, List.set_cons_zero, List.set_cons_succ]
      refine takeL (i := 8) (v := ?_) rfl (by kernel_rfl) (by kernel_rfl) (by kernel_rfl) (fun _ _ _ h => h) (Or.inl ⟨by rfl, ?_⟩) ⟨HC0.out, HM0.out, (Below.refl W.heap.size W).drew⟩ ?_
      rotate_left
      · intro w hw
        try dsimp only at hw
        obtain ⟨q0, q1, q2⟩ := hw
        go_simp
        try with_reducible rfl
      try simp only [Act.put, List.setIfInBounds_toArray, List.set_cons_zero, List.set_cons_succ]
      refine takeL (i := 9) (v := ?_) rfl (by kernel_rfl) (by kernel_rfl) (by kernel_rfl) (fun _ _ _ h => h) (Or.inl ⟨by rfl, ?_⟩) ⟨HC0.out, HM0.out, (Below.refl W.heap.size W).drew⟩ ?_
      rotate_left
      · intro w hw
        try dsimp only at hw
        obtain ⟨q0, q1, q2⟩ := hw
        go_simp
        try with_reducible rfl
      try simp only [Act.put, List.setIfInBounds_toArray, List.set_cons_zero, List.set_cons_succ]
      refine takeL (i := 10) (v := ?_) rfl (by kernel_rfl) (by kernel_rfl) (by kernel_rfl) (fun _ _ _ h => h) (Or.inl ⟨by rfl, ?_⟩) ⟨HC0.out, HM0.out, (Below.refl W.heap.size W).drew⟩ ?_
      rotate_left
      · intro w hw
        try dsimp only at hw
        obtain ⟨q0, q1, q2⟩ := hw
        go_simp
        try with_reducible rfl
      try simp only [Act.put, List.setIfInBounds_toArray, List.set_cons_zero, List.set_cons_succ]
      refine takeL (i := 11) (v := ?_) rfl (by kernel_rfl) (by kernel_rfl) (by kernel_rfl) (fun _ _ _ h => h) (Or.inl ⟨by rfl, ?_⟩) ⟨HC0.out, HM0.out, (Below.refl W.heap.size W).drew⟩ ?_
      rotate_left
      · intro w hw
        try dsimp only at hw
        obtain ⟨q0, q1, q2⟩ := hw
        go_simp
        try with_reducible rfl
      try simp only [Act.put, List.setIfInBounds_toArray, List.set_cons_zero, List.set_cons_succ]
      refine takeL (i := 12) (v := ?_) rfl (by kernel_rfl) (by kernel_rfl) (by kernel_rfl) (fun _ _ _ h => h) (Or.inl ⟨by rfl, ?_⟩) ⟨HC0.out, HM0.out, (Below.refl W.heap.size W).drew⟩ ?_
      rotate_left
      · intro w hw
        try dsimp only at hw
        obtain ⟨q0, q1, q2⟩ := hw
        go_simp
        try with_reducible rfl
      try simp only [Act.put, List.setIfInBounds_toArray, List.set_cons_zero, List.set_cons_succ]
      refine takeL (i := 13) (v := .agg (bv y).toArray) rfl (by kernel_rfl) (by kernel_rfl) (by kernel_rfl) (fun _ _ _ h => h) (Or.inl ⟨by rfl, fun wz hwz => exec_load_at wz 48 (.tmp 17) rfl (a.add (q * 32)) (bv y) _ Tryd.underlying48 rfl HSY.out (fun j u hu => (hwz.2.2.cell (by rw [addr_block, addr_block]; exact HAB.out)).trans (HCA.out j u hu)) (by go_simp)⟩) ⟨HC0.out, HM0.out, (Below.refl W.heap.size W).drew⟩ ?_
      try simp only [Act.put, List.setIfInBounds_toArray, List.set_cons_zero, List.set_cons_succ]
      refine readyL (i := 14) rfl (by kernel_rfl) (by kernel_rfl) fun K hK => ?_
      go_simp
      refine (refBudget_ W.drew).mono ?_
      rintro e w1 ⟨rfl, hb1⟩
      have B1 := Lib.hid (show Below W.heap.size W w1 from ((Below.refl W.heap.size W).drew).trans hb1)
      have HC1 : Hid (w1.cell? ⟨w.heap.size + 1, 0, none⟩ = some (.int .u8 q)) := Lib.hid ((hb1.cell (p := ⟨w.heap.size + 1, 0, none⟩) HIB.out).trans HC0.out)
      have HM1 : Hid (w1.cell? ⟨w.heap.size, 4, none⟩ = some (.slice (some a) kn kc)) := Lib.hid ((hb1.cell (p := ⟨w.heap.size, 4, none⟩) HMB.out).trans HM0.out)
      clear hb1
      refine hK.out _ _ ⟨HC1.out, HM1.out, B1.out⟩ ?_
      clear hK K
      try simp only [Act.put, List.setIfInBounds_toArray, List.set_cons_zero, List.set_cons_succ]
      refine takeL (i := 15) (v := ?_) rfl (by kernel_rfl) (by kernel_rfl) (by kernel_rfl) (fun _ _ _ h => h) (Or.inl ⟨by rfl, ?_⟩) ⟨HC1.out, HM1.out, B1.out⟩ ?_
      rotate_left
      · intro w hw
        try dsimp only at hw
        obtain ⟨q0, q1, q2⟩ := hw
        go_simp
        try with_reducible rfl
      try simp only [Act.put, List.setIfInBounds_toArray, List.set_cons_zero, List.set_cons_succ]
      refine takeL (i := 16) (v := ?_) rfl (by kernel_rfl) (by kernel_rfl) (by kernel_rfl) (fun _ _ _ h => h) (Or.inl ⟨by rfl, ?_⟩) ⟨HC1.out, HM1.out, B1.out⟩ ?_
      rotate_left
      · intro w hw
        try dsimp only at hw
        obtain ⟨q0, q1, q2⟩ := hw
        go_simp
        try with_reducible rfl
      try simp only [Act.put, List.setIfInBounds_toArray, List.set_cons_zero, List.set_cons_succ]
      refine takeL (i := 17) (v := ?_) rfl (by kernel_rfl) (by kernel_rfl) (by kernel_rfl) (fun _ _ _ h => h) (Or.inl ⟨by rfl, ?_⟩) ⟨HC1.out, HM1.out, B1.out⟩ ?_
      rotate_left
      · intro w hw
        try dsimp only at hw
        obtain ⟨q0, q1, q2⟩ := hw
        go_simp
        try with_reducible rfl
      try simp only [Act.put, List.setIfInBounds_toArray, List.set_cons_zero, List.set_cons_succ]
      refine wpAnyH_done (by kernel_rfl) ?_ _
      go_wp2_with fail
      go_ret
      exact ⟨told_bool HQ.out.symm, HB0.out.trans (B1.out.mono HB0.out.size)⟩
    | false =>
      have HQ : Hid (isW keys q = false) := Lib.hid (by rw [HK.out, hyy])
      rw [hyy] at N3
      clear hyy HK
      go_enter Tryd.func21, Tryd.ntmps21
      go_upto_region 1 with fail
      rw [HWW.out]
      clear HWW
      go_wp2_with fail
      refine wp_region_held_drew (S := (fun V => V.cell? ⟨w.heap.size + 1, 0, none⟩ = some (.int .u8 q) ∧ V.cell? ⟨w.heap.size, 4, none⟩ = some (.slice (some a) kn kc) ∧ Below W.heap.size W V)) (by kernel_rfl) ⟨HC0.out, HM0.out, (Below.refl W.heap.size W).drew⟩ (fun _ => ?_)
      refine takeL (i := 0) (v := ?_) rfl (by kernel_rfl) (by kernel_rfl) (by kernel_rfl) (fun _ _ _ h => h) (Or.inl ⟨by rfl, ?_⟩) ⟨HC0.out, HM0.out, (Below.refl W.heap.size W).drew⟩ ?_
      rotate_left
      · intro w hw
        try dsimp only at hw
        obtain ⟨q0, q1, q2⟩ := hw
        go_simp
        try with_reducible rfl
      try simp only [Act.put, List.setIfInBounds_toArray, List.set_cons_zero, List.set_cons_succ]
      refine takeL (i := 1) (v := ?_) rfl (by kernel_rfl) (by kernel_rfl) (by kernel_rfl) (fun _ _ _ h => h) (Or.inl ⟨by rfl, ?_⟩) ⟨HC0.out, HM0.out, (Below.refl W.heap.size W).drew⟩ ?_
      rotate_left
      · intro w hw
        try dsimp only at hw
        obtain ⟨q0, q1, q2⟩ := hw
        go_simp
        try with_reducible rfl
      try simp only [Act.put, List.setIfInBounds_toArray, List.set_cons_zero, List.set_cons_succ]
      refine takeL (i := 2) (v := ?_) rfl (by kernel_rfl) (by kernel_rfl) (by kernel_rfl) (fun _ _ _ h => h) (Or.inl ⟨by rfl, ?_⟩) ⟨HC0.out, HM0.out, (Below.refl W.heap.size W).drew⟩ ?_
      rotate_left
      · intro w hw
        try dsimp only at hw
        obtain ⟨q0, q1, q2⟩ := hw
        go_simp
        try with_reducible rfl
      try simp only [Act.put, List.setIfInBounds_toArray, List.set_cons_zero, List.set_cons_succ]
      refine takeL (i := 3) (v := ?_) rfl (by kernel_rfl) (by kernel_rfl) (by kernel_rfl) (fun _ _ _ h => h) (Or.inl ⟨by rfl, ?_⟩) ⟨HC0.out, HM0.out, (Below.refl W.heap.size W).drew⟩ ?_
      rotate_left
      · intro w hw
        try dsimp only at hw
        obtain ⟨q0, q1, q2⟩ := hw
        go_simp
        try with_reducible rfl
      try simp only [Act.put, List.setIfInBounds_toArray, List.set_cons_zero, List.set_cons_succ]
      refine takeL (i := 4) (v := ?_) rfl (by kernel_rfl) (by kernel_rfl) (by kernel_rfl) (fun _ _ _ h => h) (Or.inl ⟨by rfl, ?_⟩) ⟨HC0.out, HM0.out, (Below.refl W.heap.size W).drew⟩ ?_
      rotate_left
      · intro w hw
        try dsimp only at hw
        obtain ⟨q0, q1, q2⟩ := hw
        go_simp
        try with_reducible rfl
      try simp only [Act.put, List.setIfInBounds_toArray, List.set_cons_zero, List.set_cons_succ]
      refine takeL (i := 5) (v := ?_) rfl (by kernel_rfl) (by kernel_rfl) (by kernel_rfl) (fun _ _ _ h => h) (Or.inl ⟨by rfl, ?_⟩) ⟨HC0.out, HM0.out, (Below.refl W.heap.size W).drew⟩ ?_
      rotate_left
      · intro w hw
        try dsimp only at hw
        obtain ⟨q0, q1, q2⟩ := hw
        go_simp
        try with_reducible rfl
      try simp only [Act.put, List.setIfInBounds_toArray, List.set_cons_zero, List.set_cons_succ]
      refine takeL (i := 6) (v := ?_) rfl (by kernel_rfl) (by kernel_rfl) (by kernel_rfl) (fun _ _ _ h => h) (Or.inl ⟨by rfl, ?_⟩) ⟨HC0.out, HM0.out, (Below.refl W.heap.size W).drew⟩ ?_
      rotate_left
      · intro w hw
        try dsimp only at hw
        obtain ⟨q0, q1, q2⟩ := hw
        go_simp
        try with_reducible rfl
      try simp only [Act.put, List.setIfInBounds_toArray, List.set_cons_zero, List.set_cons_succ]
      refine takeL (i := 7) (v := ?_) rfl (by kernel_rfl) (by kernel_rfl) (by kernel_rfl) (fun _ _ _ h => h) (Or.inl ⟨by rfl, ?_⟩) ⟨HC0.out, HM0.out, (Below.refl W.heap.size W).drew⟩ ?_
      rotate_left
      · intro w hw
        try dsimp only at hw
        obtain ⟨q0, q1, q2⟩ := hw
        go_simp
        try with_reducible rfl
      try simp only [Act.put, List.setIfInBounds_toArray, List.set_cons_zero, List.set_cons_succ]
      refine takeL (i := 8) (v := ?_) rfl (by kernel_rfl) (by kernel_rfl) (by kernel_rfl) (fun _ _ _ h => h) (Or.inl ⟨by rfl, ?_⟩) ⟨HC0.out, HM0.out, (Below.refl W.heap.size W).drew⟩ ?_
      rotate_left
      · intro w hw
        try dsimp only at hw
        obtain ⟨q0, q1, q2⟩ := hw
        go_simp
        try with_reducible rfl
      try simp only [Act.put, List.setIfInBounds_toArray, List.set_cons_zero, List.set_cons_succ]
      refine takeL (i := 9) (v := ?_) rfl (by kernel_rfl) (by kernel_rfl) (by kernel_rfl) (fun _ _ _ h => h) (Or.inl ⟨by rfl, ?_⟩) ⟨HC0.out, HM0.out, (Below.refl W.heap.size W).drew⟩ ?_
      rotate_left
      · intro w hw
        try dsimp only at hw
        obtain ⟨q0, q1, q2⟩ := hw
        go_simp
        try with_reducible rfl
      try simp only [Act.put, List.setIfInBounds_toArray, List.set_cons_zero, List.set_cons_succ]
      refine takeL (i := 10) (v := ?_) rfl (by kernel_rfl) (by kernel_rfl) (by kernel_rfl) (fun _ _ _ h => h) (Or.inl ⟨by rfl, ?_⟩) ⟨HC0.out, HM0.out, (Below.refl W.heap.size W).drew⟩ ?_
      rotate_left
      · intro w hw
        try dsimp only at hw
        obtain ⟨q0, q1, q2⟩ := hw
        go_simp
        try with_reducible rfl
      try simp only [Act.put, List.setIfInBounds_toArray, List.set_cons_zero, List.set_cons_succ]
      refine takeL (i := 11) (v := ?_) rfl (by kernel_rfl) (by kernel_rfl) (by kernel_rfl) (fun _ _ _ h => h) (Or.inl ⟨by rfl, ?_⟩) ⟨HC0.out, HM0.out, (Below.refl W.heap.size W).drew⟩ ?_
      rotate_left
      · intro w hw
        try dsimp only at hw
        obtain ⟨q0, q1, q2⟩ := hw
        go_simp
        try with_reducible rfl
      try simp only [Act.put, List.setIfInBounds_toArray, List.set_cons_zero, List.set_cons_succ]
      refine takeL (i := 12) (v := ?_) rfl (by kernel_rfl) (by kernel_rfl) (by kernel_rfl) (fun _ _ _ h => h) (Or.inl ⟨by rfl, ?_⟩) ⟨HC0.out, HM0.out, (Below.refl W.heap.size W).drew⟩ ?_
      rotate_left
      · intro w hw
        try dsimp only at hw
        obtain ⟨q0, q1, q2⟩ := hw
        go_simp
        try with_reducible rfl
      try simp only [Act.put, List.setIfInBounds_toArray, List.set_cons_zero, List.set_cons_succ]
      refine takeL (i := 13) (v := .agg (bv y).toArray) rfl (by kernel_rfl) (by kernel_rfl) (by kernel_rfl) (fun _ _ _ h => h) (Or.inl ⟨by rfl, fun wz hwz => exec_load_at wz 48 (.tmp 17) rfl (a.add (q * 32)) (bv y) _ Tryd.underlying48 rfl HSY.out (fun j u hu => (hwz.2.2.cell (by rw [addr_block, addr_block]; exact HAB.out)).trans (HCA.out j u hu)) (by go_simp)⟩) ⟨HC0.out, HM0.out, (Below.refl W.heap.size W).drew⟩ ?_
      try simp only [Act.put, List.setIfInBounds_toArray, List.set_cons_zero, List.set_cons_succ]
      refine readyL (i := 14) rfl (by kernel_rfl) (by kernel_rfl) fun K hK => ?_
      go_simp
      refine (refBudget_ W.drew).mono ?_
      rintro e w1 ⟨rfl, hb1⟩
      have B1 := Lib.hid (show Below W.heap.size W w1 from ((Below.refl W.heap.size W).drew).trans hb1)
      have HC1 : Hid (w1.cell? ⟨w.heap.size + 1, 0, none⟩ = some (.int .u8 q)) := Lib.hid ((hb1.cell (p := ⟨w.heap.size + 1, 0, none⟩) HIB.out).trans HC0.out)
      have HM1 : Hid (w1.cell? ⟨w.heap.size, 4, none⟩ = some (.slice (some a) kn kc)) := Lib.hid ((hb1.cell (p := ⟨w.heap.size, 4, none⟩) HMB.out).trans HM0.out)
      clear hb1
      refine hK.out _ _ ⟨HC1.out, HM1.out, B1.out⟩ ?_
      clear hK K
      try simp only [Act.put, List.setIfInBounds_toArray, List.set_cons_zero, List.set_cons_succ]
      refine takeL (i := 15) (v := ?_) rfl (by kernel_rfl) (by kernel_rfl) (by kernel_rfl) (fun _ _ _ h => h) (Or.inl ⟨by rfl, ?_⟩) ⟨HC1.out, HM1.out, B1.out⟩ ?_
      rotate_left
      · intro w hw
        try dsimp only at hw
        obtain ⟨q0, q1, q2⟩ := hw
        go_simp
        try with_reducible rfl
      try simp only [Act.put, List.setIfInBounds_toArray, List.set_cons_zero, List.set_cons_succ]
      refine takeL (i := 16) (v := ?_) rfl (by kernel_rfl) (by kernel_rfl) (by kernel_rfl) (fun _ _ _ h => h) (Or.inl ⟨by rfl, ?_⟩) ⟨HC1.out, HM1.out, B1.out⟩ ?_
      rotate_left
      · intro w hw
        try dsimp only at hw
        obtain ⟨q0, q1, q2⟩ := hw
        go_simp
        try with_reducible rfl
      try simp only [Act.put, List.setIfInBounds_toArray, List.set_cons_zero, List.set_cons_succ]
      refine takeL (i := 17) (v := ?_) rfl (by kernel_rfl) (by kernel_rfl) (by kernel_rfl) (fun _ _ _ h => h) (Or.inl ⟨by rfl, ?_⟩) ⟨HC1.out, HM1.out, B1.out⟩ ?_
      rotate_left
      · intro w hw
        try dsimp only at hw
        obtain ⟨q0, q1, q2⟩ := hw
        go_simp
        try with_reducible rfl
      try simp only [Act.put, List.setIfInBounds_toArray, List.set_cons_zero, List.set_cons_succ]
      refine wpAnyH_done (by kernel_rfl) ?_ _
      go_wp2_with fail
      go_ret
      exact ⟨told_bool HQ.out.symm, HB0.out.trans (B1.out.mono HB0.out.size)⟩
  · have HQ : Hid (isW keys q = false) := Lib.hid (isW_no (by rw [hkl]; omega))
    have hlt : decide ((q : Int) < (kn : Int)) = false := decide_eq_false (by omega)
    have hlt2 : decide (q < kn) = false := decide_eq_false (by omega)
    have hlt3 : ¬ (q : Int) < (kn : Int) := by omega
    clear hk0
    go_enter Tryd.func21, Tryd.ntmps21
    go_upto_region 1 with fail
    rw [HWW.out]
    clear HWW
    go_wp2_with fail
    refine wp_region_held_drew (S := (fun V => V.cell? ⟨w.heap.size + 1, 0, none⟩ = some (.int .u8 q) ∧ V.cell? ⟨w.heap.size, 4, none⟩ = some (.slice KA kn kc) ∧ Below W.heap.size W V)) (by kernel_rfl) ⟨HC0.out, HM0.out, (Below.refl W.heap.size W).drew⟩ (fun _ => ?_)
    refine takeL (i := 0) (v := ?_) rfl (by kernel_rfl) (by kernel_rfl) (by kernel_rfl) (fun _ _ _ h => h) (Or.inl ⟨by rfl, ?_⟩) ⟨HC0.out, HM0.out, (Below.refl W.heap.size W).drew⟩ ?_
    rotate_left
    · intro w hw
      try dsimp only at hw
      obtain ⟨q0, q1, q2⟩ := hw
      go_simp
      try with_reducible rfl
    try simp only [Act.put, List.setIfInBounds_toArray, List.set_cons_zero, List.set_cons_succ]
    refine takeL (i := 1) (v := ?_) rfl (by kernel_rfl) (by kernel_rfl) (by kernel_rfl) (fun _ _ _ h => h) (Or.inl ⟨by rfl, ?_⟩) ⟨HC0.out, HM0.out, (Below.refl W.heap.size W).drew⟩ ?_
    rotate_left
    · intro w hw
      try dsimp only at hw
      obtain ⟨q0, q1, q2⟩ := hw
      go_simp
      try with_reducible rfl
    try simp only [Act.put, List.setIfInBounds_toArray, List.set_cons_zero, List.set_cons_succ]
    refine takeL (i := 2) (v := ?_) rfl (by kernel_rfl) (by kernel_rfl) (by kernel_rfl) (fun _ _ _ h => h) (Or.inl ⟨by rfl, ?_⟩) ⟨HC0.out, HM0.out, (Below.refl W.heap.size W).drew⟩ ?_
    rotate_left
    · intro w hw
      try dsimp only at hw
      obtain ⟨q0, q1, q2⟩ := hw
      go_simp
      try with_reducible rfl
    try simp only [Act.put, List.setIfInBounds_toArray, List.set_cons_zero, List.set_cons_succ]
    refine takeL (i := 3) (v := ?_) rfl (by kernel_rfl) (by kernel_rfl) (by kernel_rfl) (fun _ _ _ h => h) (Or.inl ⟨by rfl, ?_⟩) ⟨HC0.out, HM0.out, (Below.refl W.heap.size W).drew⟩ ?_
    rotate_left
    · intro w hw
      try dsimp only at hw
      obtain ⟨q0, q1, q2⟩ := hw
      go_simp
      try with_reducible rfl
    try simp only [Act.put, List.setIfInBounds_toArray, List.set_cons_zero, List.set_cons_succ]
    refine takeL (i := 4) (v := ?_) rfl (by kernel_rfl) (by kernel_rfl) (by kernel_rfl) (fun _ _ _ h => h) (Or.inl ⟨by rfl, ?_⟩) ⟨HC0.out, HM0.out, (Below.refl W.heap.size W).drew⟩ ?_
    rotate_left
    · intro w hw
      try dsimp only at hw
      obtain ⟨q0, q1, q2⟩ := hw
      go_simp
      try with_reducible rfl
    try simp only [Act.put, List.setIfInBounds_toArray, List.set_cons_zero, List.set_cons_succ]
    refine takeL (i := 5) (v := ?_) rfl (by kernel_rfl) (by kernel_rfl) (by kernel_rfl) (fun _ _ _ h => h) (Or.inl ⟨by rfl, ?_⟩) ⟨HC0.out, HM0.out, (Below.refl W.heap.size W).drew⟩ ?_
    rotate_left
    · intro w hw
      try dsimp only at hw
      obtain ⟨q0, q1, q2⟩ := hw
      go_simp
      try with_reducible rfl
    try simp only [Act.put, List.setIfInBounds_toArray, List.set_cons_zero, List.set_cons_succ]
    refine takeL (i := 6) (v := ?_) rfl (by kernel_rfl) (by kernel_rfl) (by kernel_rfl) (fun _ _ _ h => h) (Or.inl ⟨by rfl, ?_⟩) ⟨HC0.out, HM0.out, (Below.refl W.heap.size W).drew⟩ ?_
    rotate_left
    · intro w hw
      try dsimp only at hw
      obtain ⟨q0, q1, q2⟩ := hw
      go_simp
      try with_reducible rfl
    try simp only [Act.put, List.setIfInBounds_toArray, List.set_cons_zero, List.set_cons_succ]
    refine takeL (i := 7) (v := ?_) rfl (by kernel_rfl) (by kernel_rfl) (by kernel_rfl) (fun _ _ _ h => h) (Or.inl ⟨by rfl, ?_⟩) ⟨HC0.out, HM0.out, (Below.refl W.heap.size W).drew⟩ ?_
    rotate_left
    · intro w hw
      try dsimp only at hw
      obtain ⟨q0, q1, q2⟩ := hw
      go_simp
      try with_reducible rfl
    try simp only [Act.put, List.setIfInBounds_toArray, List.set_cons_zero, List.set_cons_succ]
    refine takeL (i := 8) (v := undef) rfl (by kernel_rfl) (by kernel_rfl) (by kernel_rfl) (fun _ _ _ h => h) (Or.inr ⟨by rfl, rfl⟩) ⟨HC0.out, HM0.out, (Below.refl W.heap.size W).drew⟩ ?_
    try simp only [Act.put, List.setIfInBounds_toArray, List.set_cons_zero, List.set_cons_succ]
    refine takeL (i := 9) (v := undef) rfl (by kernel_rfl) (by kernel_rfl) (by kernel_rfl) (fun _ _ _ h => h) (Or.inr ⟨by rfl, rfl⟩) ⟨HC0.out, HM0.out, (Below.refl W.heap.size W).drew⟩ ?_
    try simp only [Act.put, List.setIfInBounds_toArray, List.set_cons_zero, List.set_cons_succ]
    refine takeL (i := 10) (v := undef) rfl (by kernel_rfl) (by kernel_rfl) (by kernel_rfl) (fun _ _ _ h => h) (Or.inr ⟨by rfl, rfl⟩) ⟨HC0.out, HM0.out, (Below.refl W.heap.size W).drew⟩ ?_
    try simp only [Act.put, List.setIfInBounds_toArray, List.set_cons_zero, List.set_cons_succ]
    refine takeL (i := 11) (v := undef) rfl (by kernel_rfl) (by kernel_rfl) (by kernel_rfl) (fun _ _ _ h => h) (Or.inr ⟨by rfl, rfl⟩) ⟨HC0.out, HM0.out, (Below.refl W.heap.size W).drew⟩ ?_
    try simp only [Act.put, List.setIfInBounds_toArray, List.set_cons_zero, List.set_cons_succ]
    refine takeL (i := 12) (v := undef) rfl (by kernel_rfl) (by kernel_rfl) (by kernel_rfl) (fun _ _ _ h => h) (Or.inr ⟨by rfl, rfl⟩) ⟨HC0.out, HM0.out, (Below.refl W.heap.size W).drew⟩ ?_
    try simp only [Act.put, List.setIfInBounds_toArray, List.set_cons_zero, List.set_cons_succ]
    refine takeL (i := 13) (v := undef) rfl (by kernel_rfl) (by kernel_rfl) (by kernel_rfl) (fun _ _ _ h => h) (Or.inr ⟨by rfl, rfl⟩) ⟨HC0.out, HM0.out, (Below.refl W.heap.size W).drew⟩ ?_
    try simp only [Act.put, List.setIfInBounds_toArray, List.set_cons_zero, List.set_cons_succ]
    refine takeL (i := 14) (v := undef) rfl (by kernel_rfl) (by kernel_rfl) (by kernel_rfl) (fun _ _ _ h => h) (Or.inr ⟨by rfl, rfl⟩) ⟨HC0.out, HM0.out, (Below.refl W.heap.size W).drew⟩ ?_
    try simp only [Act.put, List.setIfInBounds_toArray, List.set_cons_zero, List.set_cons_succ]
    refine takeL (i := 15) (v := undef) rfl (by kernel_rfl) (by kernel_rfl) (by kernel_rfl) (fun _ _ _ h => h) (Or.inr ⟨by rfl, rfl⟩) ⟨HC0.out, HM0.out, (Below.refl W.heap.size W).drew⟩ ?_
    try simp only [Act.put, List.setIfInBounds_toArray, List.set_cons_zero, List.set_cons_succ]
    refine takeL (i := 16) (v := ?_) rfl (by kernel_rfl) (by kernel_rfl) (by kernel_rfl) (fun _ _ _ h => h) (Or.inl ⟨by rfl, ?_⟩) ⟨HC0.out, HM0.out, (Below.refl W.heap.size W).drew⟩ ?_
    rotate_left
    · intro w hw
      try dsimp only at hw
      obtain ⟨q0, q1, q2⟩ := hw
      go_simp
      try with_reducible rfl
    try simp only [Act.put, List.setIfInBounds_toArray, List.set_cons_zero, List.set_cons_succ]
    refine takeL (i := 17) (v := ?_) rfl (by kernel_rfl) (by kernel_rfl) (by kernel_rfl) (fun _ _ _ h => h) (Or.inl ⟨by rfl, ?_⟩) ⟨HC0.out, HM0.out, (Below.refl W.heap.size W).drew⟩ ?_
    rotate_left
    · intro w hw
      try dsimp only at hw
      obtain ⟨q0, q1, q2⟩ := hw
      go_simp
      try with_reducible rfl
    try simp only [Act.put, List.setIfInBounds_toArray, List.set_cons_zero, List.set_cons_succ]
    refine wpAnyH_done (by kernel_rfl) ?_ _
    go_wp2_with fail
    go_ret
    exact ⟨told_bool HQ.out.symm, HB0.out.drew⟩
end Go.Proofs.YtdeadehcnellpaaDoor
