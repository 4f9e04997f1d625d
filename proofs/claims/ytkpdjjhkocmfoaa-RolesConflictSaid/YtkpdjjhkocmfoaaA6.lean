/-
  Parts joined: RefConf7 ConflWalk7.
-/
import Derived.Below
import Derived.Laws.OwnMore
import Derived.Deep.AppendLies
import Derived.Deep.Draws
import Derived.Lib.Hide
import Derived.Laws.MakeOwn
import Derived.Laws.CopyOwn
import Derived.Laws.Rows
import Derived.Laws.BitsAllLaws
import Derived.WalkKit
import Derived.Test.YtkpdjjhkocmfoaaRows
import Derived.WalkSpells
import Derived.WalkLawsBesides
import Derived.IntWalk
import Derived.Maps.AppendAt
import Derived.OwnWalk
import Derived.Deep.MidRow
import Derived.Deep.WholeRow
import Derived.Great.BuildSlice
import Derived.ProofKit
import Derived.OpenShut
import Derived.ShutString
import Derived.ChangeOld
import Derived.Lib.SmallJoins
import Derived.Recover
import Derived.Deep.RegionHeld
import Derived.Deep.QuietTactic
import Derived.BigQuiet
import Derived.Deep.Slices
import Derived.Deep.Strs
import Derived.SizedLaws
import Derived.Maps.OwnSet
import Derived.DeepKeys4
import Derived.WideKeyArr
import Derived.ChangeKeysEq
import Derived.Deep.RegionHeld2
import Derived.Deep.CutBlock
import Derived.Laws.Tables
import Derived.Laws.StructEq
import Derived.Deep.DeepCutAuto
import Derived.Laws.Slices
import Derived.Laws.EntriesVeiled
import Derived.Deep.RegionHeld3
import Derived.WideKeyEntry
import Derived.Shelf.SlMaps.Clone
import Derived.Laws.Append
import Derived.Laws.AppendOwn
import Derived.Test.YtkpdjjhkocmfoaaA1
import Derived.Test.YtkpdjjhkocmfoaaA2
import Derived.Test.YtkpdjjhkocmfoaaA3
import Derived.Test.YtkpdjjhkocmfoaaA4
import Derived.Test.YtkpdjjhkocmfoaaA5
/-
  Of part RefConf7: what is needed here.
-/
namespace Go.Proofs.Ytkpdjjhkocmfoaa
open Go.RowKit
set_option linter.unusedVariables false
def pair7 (r s : LRole) : Bool := decide (r.key = s.key) && (r.wr || s.wr)
theorem confl_pair (l b : List LRole) : confl l b = l.any fun r => b.any (pair7 r) := by
  rw [Bool.eq_iff_iff, confl_iff, List.any_eq_true]
  constructor
  · rintro ⟨r, hr, s, hs, hk, hw⟩
    exact ⟨r, hr, List.any_eq_true.2 ⟨s, hs, by simp [pair7, hk, hw]⟩⟩
  · rintro ⟨r, hr, h⟩
    obtain ⟨s, hs, h⟩ := List.any_eq_true.1 h
    simp only [pair7, Bool.and_eq_true, Bool.or_eq_true, decide_eq_true_iff] at h
    exact ⟨r, hr, s, hs, h.1, h.2⟩
set_option maxRecDepth 100000 in
set_option maxHeartbeats 4000000 in
theorem refConflict (A A2 : Option Addr) (n c n2 c2 B : Nat) (l b : List LRole) (w : World) (hl : RolesIn w B A n l) (hb : RolesIn w B A2 n2 b) (hn : n ≤ 4000) (hn2 : n2 ≤ 4000) :
    Calls Try.prog 11 #[.slice A n c, .slice A2 n2 c2] w fun e w' => e = .returned (.bool (confl l b)) ∧ ∃ k, w' = w.drewN k := by
  have HLN := Lib.hid hl.len
  have HBN := Lib.hid hb.len
  have HL := Lib.hid hl
  have HBI := Lib.hid hb
  have HQ : Hid (confl l b = l.any fun r => b.any (pair7 r)) := Lib.hid (confl_pair l b)
  clear hl hb
  go_enter Try.func11, Try.ntmps11
  go_wp2
  go_loopw [5] (fun i wr => ∃ k j : Nat, k ≤ n ∧ i = .int .i64 k ∧ wr = w.drewN j ∧ (l.take k).any (fun r => b.any (pair7 r)) = false) (fun i _ => n - (intOf i).toNat)
  case atStart => exact ⟨0, 0, Nat.zero_le _, rfl, rfl, by simp⟩
  case round =>
    obtain ⟨i, j0, hi, rfl, rfl, hany⟩ := hrel
    have HA := Lib.hid hany
    clear hany
    by_cases hlt : i < n
    · obtain ⟨a, r, rfl, hab, hr, hro, hcr⟩ := HL.out.get hlt
      have HX := Lib.hid hr
      have HXC : Hid (∀ j u, (bv r.key)[j]? = some u → w.cell? ((a.add (i * 34)).add j) = some u) := Lib.hid fun j u hu => hcr j u (role_key hu)
      have d33 : w.cell? ⟨(a.add (i * 34)).block, (a.add (i * 34)).off + 33, none⟩ = some (.bool r.wr) := hcr 33 _ (role_wr hro.1)
      have HRO := Lib.hid hro
      have HSX := Lib.hid (show (Try.prog.info? 46).map (·.size) = some (bv r.key).length by rw [bv_length, hro.1]; exact size_key)
      clear hr hro hcr
      go_wp2
      go_loopw [6] (fun i' wr => ∃ k j : Nat, k ≤ n2 ∧ i' = .int .i64 k ∧ wr = w.drewN j ∧ (b.take k).any (pair7 r) = false) (fun i _ => n2 - (intOf i).toNat)
      case atStart => exact ⟨0, j0, Nat.zero_le _, rfl, rfl, by simp⟩
      case round =>
        obtain ⟨k, j1, hk, rfl, rfl, hany2⟩ := hrel
        have HA2 := Lib.hid hany2
        clear hany2
        by_cases hlt2 : k < n2
        · obtain ⟨a2, s, rfl, hab2, hs, hso, hcs⟩ := HBI.out.get hlt2
          have HS := Lib.hid hs
          have HYC : Hid (∀ j u, (bv s.key)[j]? = some u → w.cell? ((a2.add (k * 34)).add j) = some u) := Lib.hid fun j u hu => hcs j u (role_key hu)
          have f33 : w.cell? ⟨(a2.add (k * 34)).block, (a2.add (k * 34)).off + 33, none⟩ = some (.bool s.wr) := hcs 33 _ (role_wr hso.1)
          have HSY := Lib.hid (show (Try.prog.info? 46).map (·.size) = some (bv s.key).length by rw [bv_length, hso.1]; exact size_key)
          have NQ := fun w => key_eql HRO.out.1 hso.1 w
          have HP : Hid (pair7 r s = (decide (r.key = s.key) && (r.wr || s.wr))) := Lib.hid rfl
          clear hs hso hcs
          generalize bv s.key = Y at *
          obtain ⟨X, hX⟩ : ∃ X, X = bv r.key := ⟨_, rfl⟩
          rw [← hX] at HXC HSX NQ
          clear hX
          generalize hkb : decide (r.key = s.key) = kb at *
          obtain ⟨rw_, hrw⟩ : ∃ x, x = r.wr := ⟨_, rfl⟩
          rw [← hrw] at d33 HP
          generalize s.wr = sw at *
          clear hkb hrw
          cases kb with
          | false =>
            have HE : Hid ((b.take (k + 1)).any (pair7 r) = false) := Lib.hid (by rw [any_take_succ HS.out, HA2.out, HP.out]; rfl)
            go_wp2
            refine wp_region_quiet_lit (by kernel_rfl) (by kernel_rfl) ?_
            repeat (first
              | ((with_reducible show wpQuiet _ _ _ _ ({ dst := some 23, op := Op.load _ _, type := _, pos := _, after := _, guard := _ } :: _) _); go_must (refine quiet_load_at (by kernel_rfl) 46 (.tmp 22) rfl (a.add (i * 34)) X _ Try.underlying46 rfl HSX.out (by rintro _ ⟨nq, rfl⟩; exact HXC.out) ?_ ?_; go_simp; go_simp))
              | ((with_reducible show wpQuiet _ _ _ _ ({ dst := some 28, op := Op.load _ _, type := _, pos := _, after := _, guard := _ } :: _) _); go_must (refine quiet_load_at (by kernel_rfl) 46 (.tmp 27) rfl (a2.add (k * 34)) Y _ Try.underlying46 rfl HSY.out (by rintro _ ⟨nq, rfl⟩; exact HYC.out) ?_ ?_; go_simp; go_simp))
              | go_big_quiet_step (fail))
            refine wpQuiet_nil ?_
            intro nq
            go_wp2
            go_roundw
            case rel => exact ⟨k + 1, j1 + nq, by omega, by go_num, by simp, HE.out⟩
            case measure => simp [intOf]; omega
          | true =>
            cases rw_ with
            | true =>
              have HE : Hid (confl l b = true) := Lib.hid (by rw [HQ.out]; exact any_hit HX.out (any_hit HS.out (by rw [HP.out]; rfl)))
              go_wp2
              refine wp_region_quiet_lit (by kernel_rfl) (by kernel_rfl) ?_
              repeat (first
                | ((with_reducible show wpQuiet _ _ _ _ ({ dst := some 23, op := Op.load _ _, type := _, pos := _, after := _, guard := _ } :: _) _); go_must (refine quiet_load_at (by kernel_rfl) 46 (.tmp 22) rfl (a.add (i * 34)) X _ Try.underlying46 rfl HSX.out (by rintro _ ⟨nq, rfl⟩; exact HXC.out) ?_ ?_; go_simp; go_simp))
                | ((with_reducible show wpQuiet _ _ _ _ ({ dst := some 28, op := Op.load _ _, type := _, pos := _, after := _, guard := _ } :: _) _); go_must (refine quiet_load_at (by kernel_rfl) 46 (.tmp 27) rfl (a2.add (k * 34)) Y _ Try.underlying46 rfl HSY.out (by rintro _ ⟨nq, rfl⟩; exact HYC.out) ?_ ?_; go_simp; go_simp))
                | go_big_quiet_step (fail))
              refine wpQuiet_nil ?_
              intro nq
              go_wp2
              go_ret
              exact ⟨by rw [HE.out]; rfl, j1 + nq, by simp⟩
            | false =>
              cases sw with
              | true =>
                have HE : Hid (confl l b = true) := Lib.hid (by rw [HQ.out]; exact any_hit HX.out (any_hit HS.out (by rw [HP.out]; rfl)))
                go_wp2
                refine wp_region_quiet_lit (by kernel_rfl) (by kernel_rfl) ?_
                repeat (first
                  | ((with_reducible show wpQuiet _ _ _ _ ({ dst := some 23, op := Op.load _ _, type := _, pos := _, after := _, guard := _ } :: _) _); go_must (refine quiet_load_at (by kernel_rfl) 46 (.tmp 22) rfl (a.add (i * 34)) X _ Try.underlying46 rfl HSX.out (by rintro _ ⟨nq, rfl⟩; exact HXC.out) ?_ ?_; go_simp; go_simp))
                  | ((with_reducible show wpQuiet _ _ _ _ ({ dst := some 28, op := Op.load _ _, type := _, pos := _, after := _, guard := _ } :: _) _); go_must (refine quiet_load_at (by kernel_rfl) 46 (.tmp 27) rfl (a2.add (k * 34)) Y _ Try.underlying46 rfl HSY.out (by rintro _ ⟨nq, rfl⟩; exact HYC.out) ?_ ?_; go_simp; go_simp))
                  | go_big_quiet_step (fail))
                refine wpQuiet_nil ?_
                intro nq
                go_wp2
                go_ret
                exact ⟨by rw [HE.out]; rfl, j1 + nq, by simp⟩
              | false =>
                have HE : Hid ((b.take (k + 1)).any (pair7 r) = false) := Lib.hid (by rw [any_take_succ HS.out, HA2.out, HP.out]; rfl)
                go_wp2
                refine wp_region_quiet_lit (by kernel_rfl) (by kernel_rfl) ?_
                repeat (first
                  | ((with_reducible show wpQuiet _ _ _ _ ({ dst := some 23, op := Op.load _ _, type := _, pos := _, after := _, guard := _ } :: _) _); go_must (refine quiet_load_at (by kernel_rfl) 46 (.tmp 22) rfl (a.add (i * 34)) X _ Try.underlying46 rfl HSX.out (by rintro _ ⟨nq, rfl⟩; exact HXC.out) ?_ ?_; go_simp; go_simp))
                  | ((with_reducible show wpQuiet _ _ _ _ ({ dst := some 28, op := Op.load _ _, type := _, pos := _, after := _, guard := _ } :: _) _); go_must (refine quiet_load_at (by kernel_rfl) 46 (.tmp 27) rfl (a2.add (k * 34)) Y _ Try.underlying46 rfl HSY.out (by rintro _ ⟨nq, rfl⟩; exact HYC.out) ?_ ?_; go_simp; go_simp))
                  | go_big_quiet_step (fail))
                refine wpQuiet_nil ?_
                intro nq
                go_wp2
                go_roundw
                case rel => exact ⟨k + 1, j1 + nq, by omega, by go_num, by simp, HE.out⟩
                case measure => simp [intOf]; omega
        · have hkn : k = n2 := by omega
          have HE : Hid ((l.take (i + 1)).any (fun r => b.any (pair7 r)) = false) := Lib.hid (by
            have h1 := HA2.out
            rw [hkn, List.take_of_length_le (by rw [HBN.out]; exact Nat.le_refl _)] at h1
            rw [any_take_succ HX.out, HA.out, h1]
            rfl)
          clear hkn
          go_wp2
          go_roundw
          case rel => exact ⟨i + 1, j1, by omega, by go_num, rfl, HE.out⟩
          case measure => simp [intOf]; omega
    · have hkn : i = n := by omega
      have HE : Hid (confl l b = false) := Lib.hid (by
        have h1 := HA.out
        rw [hkn, List.take_of_length_le (by rw [HLN.out]; exact Nat.le_refl _)] at h1
        rw [HQ.out, h1])
      clear hkn
      go_wp2
      go_ret
      exact ⟨by rw [HE.out]; rfl, j0, rfl⟩
set_option maxRecDepth 100000 in
set_option maxHeartbeats 2000000 in
theorem refWritten (A : Option Addr) (n c B : Nat) (l : List LRole) (w : World) (hl : RolesIn w B A n l) (hB : B ≤ w.heap.size) (hn : n ≤ 100000) :
    Calls Try.prog 13 #[.slice A n c] w fun e w' => Below w.heap.size w w' ∧ ∃ A c, e = .returned (.slice A (wrK l).length c) ∧ w'.ownsRow w.heap.size 46 32 (.slice A (wrK l).length c) (wrK l).length (bv (wrK l).flatten) := by
  have HLN := Lib.hid hl.len
  have HL := Lib.hid hl
  clear hl
  go_enter Try.func13, Try.ntmps13
  go_wp2_with fail
  go_loopw [4, 3] (fun i v wr => ∃ k : Nat, k ≤ n ∧ i = .int .i64 k ∧ wr.ownsRow w.heap.size 46 32 v (wrK (l.take k)).length (bv (wrK (l.take k)).flatten) ∧ Below w.heap.size w wr) (fun i _ _ => n - (intOf i).toNat)
  case atStart => exact ⟨0, Nat.zero_le _, rfl, by simpa [wrK, bv, cv] using World.ownsRow_nil _ _ _ _, Below.refl _ _⟩
  case round =>
    obtain ⟨k, hk, rfl, ho, hb⟩ := hrel
    have HO := Lib.hid ho
    have HB := Lib.hid hb
    clear ho hb
    by_cases hlt : k < n
    · obtain ⟨a, r, rfl, hab, hr, hro, hcr⟩ := (HL.out.below (HB.out.mono hB)).get hlt
      have HSU := Lib.hid (wrK_take_succ hr)
      have HCK : Hid (∀ j u, (bv r.key)[j]? = some u → wr.cell? ((a.add (k * 34)).add j) = some u) := Lib.hid fun j u hu => hcr j u (role_key hu)
      have d33 : wr.cell? ⟨(a.add (k * 34)).block, (a.add (k * 34)).off + 33, none⟩ = some (.bool r.wr) := hcr 33 _ (role_wr hro.1)
      have HSZ := Lib.hid (show (Try.prog.info? 46).map (·.size) = some (bv r.key).length by rw [bv_length, hro.1]; exact size_key)
      have HKL : Hid ((bv r.key).length = 32) := Lib.hid (by rw [bv_length, hro.1])
      have H1 := Lib.hid (bv_one r.key)
      have hwl : (wrK (l.take k)).length ≤ 100000 := by
        have := wrK_len (l.take k)
        rw [List.length_take] at this
        omega
      obtain ⟨wn, hwn⟩ : ∃ wn, wn = (wrK (l.take k)).length := ⟨_, rfl⟩
      rw [← hwn] at HO hwl
      have HWN := Lib.hid hwn
      clear hwn hr hcr hro
      by_cases hw : r.wr = true
      · rw [hw] at d33 HSU
        have HSU2 : Hid (wrK (l.take (k + 1)) = wrK (l.take k) ++ [r.key]) := Lib.hid HSU.out
        have HXX : Hid (bv [r.key].flatten = bv r.key) := Lib.hid (by simp)
        generalize bv r.key = X at *
        clear hw HSU
        go_wp2_with (first
          | ((with_reducible show wpList _ _ _ ({ dst := some 21, op := Op.load _ _, type := _, pos := _, after := _, guard := _ } :: _) _ _); go_must (refine wpList_load_at rfl 46 (.tmp 20) rfl (a.add (k * 34)) X _ Try.underlying46 rfl HSZ.out HCK.out ?_ ?_; go_simp))
          | ((with_reducible show wpList _ _ _ ({ dst := some 22, op := Op.buildSlice _ _ _, type := _, pos := _, after := _, guard := _ } :: _) _ _); go_must (refine wpList_buildOne rfl 25 46 (.tmp 21) rfl X _ 32 32 Try.underlying25 info_key3 (by kernel_rfl) (by omega) (by omega) HKL.out ?_ ?_; go_simp))
          | (at_builtin; go_must (refine wpList_addRow rfl (.tmp 16) (.tmp 22) 25 rfl w.heap.size 46 _ 32 32 Try.underlying25 info_key3 (by kernel_rfl) (by omega) _ wn _ X 1 HKL.out H1.out rfl ?_ HO.out ?_ HB.out.size (by unfold maxLen; omega) (by omega) ?_; go_simp; go_simp; intro v4 w4 ho4 hg4; have O4 := Lib.hid ho4; have G4 := Lib.hid hg4; clear ho4 hg4)))
        go_roundw
        case rel =>
          refine ⟨k + 1, by omega, by go_num, ?_, HB.out.grown G4.out.grown HB.out.size fun j hj => (HO.out.lt j hj).1⟩
          rw [HSU2.out, List.length_append, List.flatten_append, bv_append, HXX.out, ← HWN.out]
          exact O4.out
        case measure => simp [intOf]; omega
      · have hw : r.wr = false := by simpa using hw
        rw [hw] at d33 HSU
        have HSU2 : Hid (wrK (l.take (k + 1)) = wrK (l.take k)) := Lib.hid (by rw [HSU.out]; simp)
        clear hw HSU
        go_wp2_with fail
        go_roundw
        case rel => exact ⟨k + 1, by omega, by go_num, by rw [HSU2.out, ← HWN.out]; exact HO.out, HB.out⟩
        case measure => simp [intOf]; omega
    · obtain rfl : k = n := by omega
      have HO2 : Hid (wr.ownsRow w.heap.size 46 32 u3 (wrK l).length (bv (wrK l).flatten)) := Lib.hid (by
        have := HO.out
        rwa [List.take_of_length_le (by rw [HLN.out]; exact Nat.le_refl _)] at this)
      clear HO
      obtain ⟨A2, c2, he⟩ := own_formN HO2.out
      subst he
      go_wp2_with fail
      go_ret
      exact ⟨HB.out, A2, c2, rfl, HO2.out⟩
end Go.Proofs.Ytkpdjjhkocmfoaa

/-
  Of part ConflWalk7: what is needed here.
-/
namespace Go.Proofs.Ytkpdjjhkocmfoaa
open Go.RowKit
set_option linter.unusedVariables false
set_option maxRecDepth 100000 in
set_option maxHeartbeats 8000000 in
theorem conflictWalk (A A2 : Option Addr) (n c n2 c2 B : Nat) (l b : List LRole) (w : World) (hl : RolesIn w B A n l) (hb : RolesIn w B A2 n2 b) (hB : B ≤ w.heap.size) :
    Calls Try.prog 3 #[.slice A n c, .slice A2 n2 c2] w fun e w' => e = .returned (.bool true) ∧ Below w.heap.size w w' := by
  have HLN := Lib.hid hl.len
  have HL := Lib.hid hl
  have HBI := Lib.hid hb
  clear hl hb
  by_cases h1 : (300 : Int) < n
  · go_enter Try.func3, Try.ntmps3
    go_wp2_with fail
    refine (lives7 _).mono ?_
    rintro e w2 ⟨rfl, hb2⟩
    go_wp2_with fail
    go_ret
    exact ⟨rfl, hb2⟩
  by_cases h2 : (300 : Int) < n2
  · go_enter Try.func3, Try.ntmps3
    go_wp2_with fail
    refine (lives7 _).mono ?_
    rintro e w2 ⟨rfl, hb2⟩
    go_wp2_with fail
    go_ret
    exact ⟨rfl, hb2⟩
  have hn : n ≤ 300 := by omega
  have hn2 : n2 ≤ 300 := by omega
  go_enter Try.func3, Try.ntmps3
  go_wp2_with fail
  refine (twinRoles A n c B l w HL.out hB (by omega)).mono ?_
  rintro e w1 ⟨g, rfl, hg, hr, hb1⟩
  have R1 := Lib.hid hr
  have B1 := Lib.hid hb1
  have HG := Lib.hid hg
  clear hr hb1 hg
  go_wp2_with fail
  refine (written_ (some ⟨g, 0, none⟩) n (n + 3) w1.heap.size l w1 (roles_row R1.out HLN.out HL.out.ok R1.out.lt) (Nat.le_refl _) (by omega)).mono ?_
  rintro e w2 ⟨hb2, A5, c5, rfl, ho5⟩
  obtain ⟨X5, hv5, hn5, hx0, hx1⟩ := own_sl ho5
  have HK5 : Hid (KeysIn w2 w2.heap.size A5 (wrK l).length (wrK l)) := Lib.hid (keys_own ho5 rfl fun k hk => (wrK_ok HL.out.ok k hk).1)
  have HFIT : Hid (SlFit w2 (⟨X5.A, (wrK l).length, (wrK l).length⟩, Kd.k) ∧ ∀ k, X5.A = some k → w1.heap.size ≤ k ∧ k < w2.heap.size) := Lib.hid (by
    obtain ⟨XA, xn, xc⟩ := X5
    have hn5 : xn = (wrK l).length := hn5
    subst hn5
    cases XA with
    | none => exact ⟨⟨(hx0 rfl).1, (hx0 rfl).1⟩, fun k e => by cases e⟩
    | some gw =>
      obtain ⟨q1, q2, _, q4, q5, cur, q6, q7⟩ := hx1 gw rfl
      have q4 : (wrK l).length ≤ xc := q4
      have q5 : xc ≤ 9223372036854775807 := q5
      have q7 : cur.length = xc * 32 := q7
      refine ⟨⟨Nat.le_refl _, Nat.le_trans q4 q5, cur, q6, ?_, fun h => absurd h (by show ¬ 32 < 32; omega)⟩, fun k e => by cases e; exact ⟨q1, q2⟩⟩
      show (wrK l).length * 32 ≤ cur.length
      rw [q7]
      exact Nat.mul_le_mul_right _ q4)
  have HA5 : Hid (A5 = X5.A.map fun g => (⟨g, 0, none⟩ : Addr)) := Lib.hid (by
    obtain ⟨XA, xn, xc⟩ := X5
    injection hv5)
  have HWL := Lib.hid (wrK_len l)
  have B2 := Lib.hid (B1.out.trans (hb2.mono B1.out.size))
  have R2 := Lib.hid (R1.out.below hb2 R1.out.lt)
  have HZ := Lib.hid (And.intro R1.out.lt hb2.size)
  clear hb2 ho5 hv5 hn5 hx0 hx1 R1 B1
  have HT2 := Lib.hid (roles_row R2.out HLN.out HL.out.ok R2.out.lt)
  have HB2I := Lib.hid ((HBI.out.below (B2.out.mono hB)).more (Nat.le_trans hB B2.out.size))
  go_wp2_with fail
  refine (conflict7 (some ⟨g, 0, none⟩) A2 n (n + 3) n2 c2 w2.heap.size l b w2 HT2.out HB2I.out (Nat.le_refl _) (by omega) (by omega)).mono ?_
  rintro e w3 ⟨rfl, hb3⟩
  have C3 := Lib.hid hb3
  clear hb3 HT2 HB2I
  go_wp2_with fail
  refine (refConflict A A2 n c n2 c2 B l b w3 (HL.out.below ((B2.out.trans (C3.out.mono B2.out.size)).mono hB)) (HBI.out.below ((B2.out.trans (C3.out.mono B2.out.size)).mono hB)) (by omega) (by omega)).mono ?_
  rintro e w4 ⟨rfl, k4, rfl⟩
  have C4 := Lib.hid (below_drewN C3.out k4)
  clear C3
  generalize w3.drewN k4 = w4 at *
  generalize confl l b = cc at *
  go_wp2_with fail
  refine (refWritten A n c w.heap.size l w4 ((HL.out.more hB).below (B2.out.trans (C4.out.mono B2.out.size))) (Nat.le_trans B2.out.size C4.out.size) (by omega)).mono ?_
  rintro e w5 ⟨hb5, A6, c6, rfl, ho6⟩
  have HK6 : Hid (KeysIn w5 w5.heap.size A6 (wrK l).length (wrK l)) := Lib.hid (keys_own ho6 rfl fun k hk => (wrK_ok HL.out.ok k hk).1)
  have C5 := Lib.hid (C4.out.trans (hb5.mono C4.out.size))
  clear hb5 ho6 C4
  go_wp2_with fail
  refine (sameKeys A5 A6 (wrK l).length (wrK l).length c6 (wrK l) w5 w2.heap.size w5.heap.size (HK5.out.below C5.out) HK6.out (by have := HWL.out; rw [HLN.out] at this; unfold maxLen; omega)).mono ?_
  rintro e w6 ⟨rfl, k6, rfl⟩
  have C6 := Lib.hid (below_drewN C5.out k6)
  clear C5 HK6
  generalize w5.drewN k6 = w6 at *
  go_wp2_with fail
  refine (leftRoles g A n c B l w6 (R2.out.below C6.out R2.out.lt) (HL.out.below ((B2.out.trans (C6.out.mono B2.out.size)).mono hB)) (Nat.le_trans hB (Nat.le_trans B2.out.size C6.out.size)) (by omega)).mono ?_
  rintro e W ⟨rfl, hb7⟩
  have C7 := Lib.hid (C6.out.trans (hb7.mono C6.out.size))
  clear hb7 C6
  go_upto_region 8 with fail
  have HK0 := Lib.hid (Bk.new W)
  have BW0 : Hid (Below W.heap.size W (W.alloc (.cells #[.slice none 0 0] 31))) := Lib.hid ((Below.refl _ _).alloc (Nat.le_refl _) _)
  have C8 : Hid (Below w2.heap.size w2 (W.alloc (.cells #[.slice none 0 0] 31))) := Lib.hid (C7.out.trans (BW0.out.mono C7.out.size))
  have HZW := Lib.hid C7.out.size
  have HPL : Hid (W.heap.size < (W.alloc (.cells #[.slice none 0 0] 31)).heap.size) := Lib.hid (by simp)
  rw [HA5.out]
  generalize hW0 : W.alloc (.cells #[.slice none 0 0] 31) = W0 at *
  clear hW0
  obtain ⟨XA, xn, xc⟩ := X5
  dsimp only at *
  go_wp2_with fail
  refine (bkRoles W.heap.size W.heap.size [] ⟨some g, n, n + 3⟩ W0 W0 HK0.out (by simp)).mono ?_
  rintro e w8 ⟨rfl, hb8⟩
  have HK8 := Lib.hid hb8
  clear hb8 HK0
  go_wp2_with fail
  refine (bkKeys W.heap.size W.heap.size _ ⟨XA, (wrK l).length, (wrK l).length⟩ W0 w8 HK8.out (by simp)).mono ?_
  rintro e w9 ⟨rfl, hb9⟩
  have HK9 := Lib.hid hb9
  clear hb9 HK8
  have HB9 : Hid (Below W.heap.size W0 w9) := Lib.hid (HK9.out.one.below (Nat.le_refl _) (Nat.le_refl _))
  go_wp2_with fail
  refine (apartBk W.heap.size W.heap.size w.heap.size _ W0 w9 HK9.out ?_ ?_ ?_ ?_).mono ?_
  · intro y hy
    simp only [List.nil_append, List.cons_append, List.mem_cons, List.not_mem_nil, or_false] at hy
    rcases hy with rfl | rfl
    · refine ⟨Nat.le_add_right _ _, by show n + 3 ≤ _; omega, _, R2.out.below C8.out R2.out.lt, ?_, fun _ => ?_⟩
      · show (n + 3) * 34 ≤ _
        rw [List.length_append, cs_flat (roles_each HL.out.ok), List.length_map, HLN.out, rowOf_len 3 mkR_is.len]
        omega
      · show _ = (n + 3) * 34
        rw [List.length_append, cs_flat (roles_each HL.out.ok), List.length_map, HLN.out, rowOf_len 3 mkR_is.len]
        omega
    · exact HFIT.out.1.keep fun k hk => C8.out.block k (HFIT.out.2 k hk).2
  · rw [blocks_app, List.nil_append]
    refine pair_app (m := w1.heap.size) (pair_one _) (pair_one _) (fun k hk => ?_) fun k hk => (HFIT.out.2 k (blocks_one _ k hk)).1
    have e : some g = some k := blocks_one _ k hk
    have e := Option.some.inj e
    have := HZ.out.1
    omega
  · intro k hk
    rw [blocks_app, List.nil_append] at hk
    have h3 := HZ.out.1
    have h4 := HZ.out.2
    have h5 := HZW.out
    have h6 := HG.out
    rcases List.mem_append.1 hk with hk | hk
    · have e : some g = some k := blocks_one _ k hk
      have e := Option.some.inj e
      omega
    · have e := HFIT.out.2 k (blocks_one _ k hk)
      omega
  · exact Nat.le_trans B2.out.size (Nat.le_trans HZW.out (Nat.le_trans (Nat.le_of_lt HPL.out) HB9.out.size))
  · rintro e w10 ⟨rfl, hb10⟩
    have D10 : Hid (Below w.heap.size w w10) := Lib.hid ((B2.out.trans (C8.out.mono B2.out.size)).trans ((HB9.out.mono (Nat.le_trans B2.out.size HZW.out)).trans hb10))
    clear hb10
    go_wp2_with fail
    refine (lives7 _).mono ?_
    rintro e w11 ⟨rfl, hb11⟩
    have D11 := Lib.hid (D10.out.trans (hb11.mono D10.out.size))
    clear hb11
    go_wp2_with fail
    go_ret
    exact ⟨rfl, D11.out⟩
end Go.Proofs.Ytkpdjjhkocmfoaa
