/-
  Parts joined: Check Example Lives5 RefTotal KeyEq RefCheck Great5 CheckWalk Entry.
-/
import Derived.Below
import Derived.Laws.OwnMore
import Derived.Deep.AppendLies
import Derived.Deep.Draws
import Derived.Lib.Hide
import Derived.Laws.MakeOwn
import Derived.Laws.CopyOwn
import Derived.Laws.Rows
import Derived.Maps.AppendAt
import Derived.OwnWalk
import Derived.Laws.BitsAllLaws
import Derived.WalkKit
import Derived.Test.YtgdikmgmpleolaaRows
import Derived.WalkSpells
import Derived.WalkLawsBesides
import Derived.IntWalk
import Derived.Deep.MidRow
import Derived.Deep.WholeRow
import Derived.Great.BuildSlice
import Derived.Recover
import Derived.Deep.RegionHeld
import Derived.Deep.QuietTactic
import Derived.BigQuiet
import Derived.ChangeKeysEq
import Derived.Deep.RegionHeld2
import Derived.Deep.CutBlock
import Derived.Laws.Tables
import Derived.ProofKit
import Derived.OpenShut
import Derived.ShutString
import Derived.ChangeOld
import Derived.Lib.SmallJoins
import Derived.Laws.Slices
import Derived.Deep.DeepCutAuto
import Derived.Deep.Slices
import Derived.Deep.Strs
import Derived.SizedLaws
import Derived.Laws.EntriesVeiled
import Derived.Deep.RegionHeld3
import Derived.Maps.OwnSet
import Derived.DeepKeys4
import Derived.WideKeyArr
import Derived.WideKeyEntry
import Derived.Test.YtgdikmgmpleolaaA1
import Derived.Test.YtgdikmgmpleolaaA2
import Derived.Test.YtgdikmgmpleolaaA3
import Derived.Test.YtgdikmgmpleolaaA4
import Derived.Test.YtgdikmgmpleolaaA5
/-
  Of part Check: what is needed here.
-/
namespace Go.Proofs.Ytgdikmgmpleolaa
open Go.RowKit
set_option linter.unusedVariables false
/-- rule k, broken; its error -/
def brk (x : LTx) : Nat → Bool
  | 0 => b1 x
  | 1 => b2 x.m
  | 2 => b3 x.m
  | 3 => b4 x.m
  | 4 => b5 x.m
  | 5 => b6 x.m
  | _ => false
def err : Nat → Int
  | 0 => 6
  | 1 => 7
  | 2 => 10
  | 3 => 3
  | 4 => 8
  | _ => 9
def okTo (x : LTx) (k : Nat) : Prop := ∀ j, j < k → brk x j = false
theorem okTo_succ {x : LTx} {k : Nat} (h : okTo x k) (hk : brk x k = false) : okTo x (k + 1) := fun j hj => by
  by_cases e : j = k
  · rw [e]; exact hk
  · exact h j (by omega)
theorem chk_none {x : LTx} (h : okTo x 6) : chk x = 0 := by
  have h0 : b1 x = false := h 0 (by omega)
  have h1 : b2 x.m = false := h 1 (by omega)
  have h2 : b3 x.m = false := h 2 (by omega)
  have h3 : b4 x.m = false := h 3 (by omega)
  have h4 : b5 x.m = false := h 4 (by omega)
  have h5 : b6 x.m = false := h 5 (by omega)
  simp [chk, h0, h1, h2, h3, h4, h5]
theorem chk_hit {x : LTx} {k : Nat} (h : okTo x k) (hk : brk x k = true) (h6 : k < 6) : chk x = err k := by
  rcases (show k = 0 ∨ k = 1 ∨ k = 2 ∨ k = 3 ∨ k = 4 ∨ k = 5 by omega) with rfl | rfl | rfl | rfl | rfl | rfl
  · have h0 : b1 x = true := hk
    simp [chk, h0, err]
  · have h0 : b1 x = false := h 0 (by omega)
    have h1 : b2 x.m = true := hk
    simp [chk, h0, h1, err]
  · have h0 : b1 x = false := h 0 (by omega)
    have h1 : b2 x.m = false := h 1 (by omega)
    have h2 : b3 x.m = true := hk
    simp [chk, h0, h1, h2, err]
  · have h0 : b1 x = false := h 0 (by omega)
    have h1 : b2 x.m = false := h 1 (by omega)
    have h2 : b3 x.m = false := h 2 (by omega)
    have h3 : b4 x.m = true := hk
    simp [chk, h0, h1, h2, h3, err]
  · have h0 : b1 x = false := h 0 (by omega)
    have h1 : b2 x.m = false := h 1 (by omega)
    have h2 : b3 x.m = false := h 2 (by omega)
    have h3 : b4 x.m = false := h 3 (by omega)
    have h4 : b5 x.m = true := hk
    simp [chk, h0, h1, h2, h3, h4, err]
  · have h0 : b1 x = false := h 0 (by omega)
    have h1 : b2 x.m = false := h 1 (by omega)
    have h2 : b3 x.m = false := h 2 (by omega)
    have h3 : b4 x.m = false := h 3 (by omega)
    have h4 : b5 x.m = false := h 4 (by omega)
    have h5 : b6 x.m = true := hk
    simp [chk, h0, h1, h2, h3, h4, h5, err]
theorem ret_err {x : LTx} {k : Nat} {c : Int} (h : okTo x k) (hk : brk x k = true) (h6 : k < 6) (hc : err k = c) : Ending.returned (.int .i64 c) = .returned (.int .i64 (chk x)) := by rw [chk_hit h hk h6, hc]
set_option maxRecDepth 100000 in
set_option maxHeartbeats 4000000 in
theorem check_ (s : TRaw) (x : LTx) (B : Nat) (w : World) (hm : TxIn w B s x) (hB : B ≤ w.heap.size) (hs : Small x.m) (hw : x.m.Wf) :
    Calls Try.prog 12 #[.agg (s.cells x).toArray] w fun e w' => e = .returned (.int .i64 (chk x)) ∧ Below w.heap.size w w' := by
  have hrow := Row.new w 33 (s.cells x)
  have hb0 := (Below.refl w.heap.size w).alloc (Nat.le_refl _) (.cells (s.cells x).toArray 33)
  have HTS := Lib.hid (show (Try.prog.info? 33).map (·.size) = some (s.cells x).length by rw [size_tx, tcells_len hm.m.recent])
  have HM0 := Lib.hid (hm.below (hb0.mono hB))
  have HRO := Lib.hid (rulesOf_ s x B _ HM0.out (Nat.le_trans hB hb0.size) hs hw)
  generalize s.cells x = cs at *
  have HROW := Lib.hid hrow
  have HB0 := Lib.hid hb0
  have HS := Lib.hid hs
  have HW := Lib.hid hw
  clear hrow hb0 hm hs hw
  go_enter Try.func12, Try.ntmps12
  go_wp2_with ((with_reducible show wpList _ _ _ ({ dst := some 5, op := Op.load _ _, type := _, pos := _, after := _, guard := _ } :: _) _ _); go_must (refine wpList_load_whole rfl 33 (.tmp 1) rfl w.heap.size 33 cs _ Try.underlying33 rfl HTS.out HROW.out ?_ ?_; go_simp))
  refine HRO.out.mono ?_
  rintro e w1 ⟨g, g1, g3, g4, g5, g6, g7, rfl, hr, hmade, hb1⟩
  have R := Lib.hid hr
  have MD := Lib.hid hmade
  have HB1 := Lib.hid (HB0.out.trans (hb1.mono HB0.out.size))
  have HM1 := Lib.hid (HM0.out.below (hb1.mono (Nat.le_trans hB HB0.out.size)))
  clear hr hmade hb1 HM0 HRO
  go_wp2_with fail
  go_loopw [8] (fun i wr => ∃ k : Nat, k ≤ 6 ∧ i = .int .i64 k ∧ okTo x k ∧ Below w1.heap.size w1 wr) (fun i _ => 6 - (intOf i).toNat)
  case atStart => exact ⟨0, Nat.zero_le _, rfl, fun j hj => by omega, Below.refl _ _⟩
  case round =>
    obtain ⟨k, hk, rfl, hok, hbw⟩ := hrel
    have HBW := Lib.hid hbw
    have HOK := Lib.hid hok
    have RW := Lib.hid (R.out.below hbw R.out.lt)
    have MW := Lib.hid (MD.out.below hbw)
    have HBX := Lib.hid (HB1.out.trans (hbw.mono HB1.out.size))
    have HMW := Lib.hid (HM1.out.below (hbw.mono (Nat.le_trans hB HB1.out.size)))
    clear hbw hok
    by_cases hlt : k < 6
    · rcases (show k = 0 ∨ k = 1 ∨ k = 2 ∨ k = 3 ∨ k = 4 ∨ k = 5 by omega) with rfl | rfl | rfl | rfl | rfl | rfl
      · have c0 : wr.cell? ⟨g, 0, none⟩ = some (.int .i64 6) := RW.out.cell 0
        have c1 : wr.cell? ⟨g, 1, none⟩ = some (.func (.func 26) #[] #[.pointer (some ⟨g5, 0, none⟩), .pointer (some ⟨g1, 0, none⟩)]) := RW.out.cell 1
        have hba := (Below.refl wr.heap.size wr).alloc (Nat.le_refl _) (.cells #[Value.int .i64 6, .func (.func 26) #[] #[.pointer (some ⟨g5, 0, none⟩), .pointer (some ⟨g1, 0, none⟩)]] 61)
        have r0 := Row.new wr 61 [Value.int .i64 6, .func (.func 26) #[] #[.pointer (some ⟨g5, 0, none⟩), .pointer (some ⟨g1, 0, none⟩)]]
        have R0 := Lib.hid r0
        have BA := Lib.hid hba
        have HC := Lib.hid (rule1_ (MW.out.below hba) (HMW.out.below (hba.mono (Nat.le_trans hB HBX.out.size))))
        have HBRK : Hid (brk x 0 = b1 x) := Lib.hid rfl
        clear hba r0
        generalize b1 x = bb at *
        go_wp2_with fail
        refine HC.out.mono ?_
        rintro e w2 ⟨rfl, hb2⟩
        have r2 := R0.out.below hb2 R0.out.lt
        have c2 : w2.cell? ⟨wr.heap.size, 0, none⟩ = some (.int .i64 6) := r2.cell 0
        have HB2 := Lib.hid (HBW.out.trans ((BA.out.trans (hb2.mono BA.out.size)).mono HBW.out.size))
        clear hb2 r2
        cases bb
        · go_wp2_with fail
          go_roundw
          case rel => exact ⟨1, by omega, by go_num, okTo_succ HOK.out HBRK.out, HB2.out⟩
          case measure => simp [intOf]
        · go_wp2_with fail
          go_ret
          exact ⟨ret_err HOK.out HBRK.out (by omega) rfl, HB1.out.trans (HB2.out.mono HB1.out.size)⟩
      · have c0 : wr.cell? ⟨g, 2, none⟩ = some (.int .i64 7) := RW.out.cell 2
        have c1 : wr.cell? ⟨g, 3, none⟩ = some (.func (.func 27) #[] #[.pointer (some ⟨g6, 0, none⟩), .pointer (some ⟨g5, 0, none⟩), .pointer (some ⟨g7, 0, none⟩), .pointer (some ⟨g3, 0, none⟩)]) := RW.out.cell 3
        have hba := (Below.refl wr.heap.size wr).alloc (Nat.le_refl _) (.cells #[Value.int .i64 7, .func (.func 27) #[] #[.pointer (some ⟨g6, 0, none⟩), .pointer (some ⟨g5, 0, none⟩), .pointer (some ⟨g7, 0, none⟩), .pointer (some ⟨g3, 0, none⟩)]] 61)
        have r0 := Row.new wr 61 [Value.int .i64 7, .func (.func 27) #[] #[.pointer (some ⟨g6, 0, none⟩), .pointer (some ⟨g5, 0, none⟩), .pointer (some ⟨g7, 0, none⟩), .pointer (some ⟨g3, 0, none⟩)]]
        have R0 := Lib.hid r0
        have BA := Lib.hid hba
        have HC := Lib.hid (rule2_ (MW.out.below hba) (HMW.out.below (hba.mono (Nat.le_trans hB HBX.out.size))) HW.out)
        have HBRK : Hid (brk x 1 = b2 x.m) := Lib.hid rfl
        clear hba r0
        generalize b2 x.m = bb at *
        go_wp2_with fail
        refine HC.out.mono ?_
        rintro e w2 ⟨rfl, hb2⟩
        have r2 := R0.out.below hb2 R0.out.lt
        have c2 : w2.cell? ⟨wr.heap.size, 0, none⟩ = some (.int .i64 7) := r2.cell 0
        have HB2 := Lib.hid (HBW.out.trans ((BA.out.trans (hb2.mono BA.out.size)).mono HBW.out.size))
        clear hb2 r2
        cases bb
        · go_wp2_with fail
          go_roundw
          case rel => exact ⟨2, by omega, by go_num, okTo_succ HOK.out HBRK.out, HB2.out⟩
          case measure => simp [intOf]
        · go_wp2_with fail
          go_ret
          exact ⟨ret_err HOK.out HBRK.out (by omega) rfl, HB1.out.trans (HB2.out.mono HB1.out.size)⟩
      · have c0 : wr.cell? ⟨g, 4, none⟩ = some (.int .i64 10) := RW.out.cell 4
        have c1 : wr.cell? ⟨g, 5, none⟩ = some (.func (.func 28) #[] #[.pointer (some ⟨g3, 0, none⟩)]) := RW.out.cell 5
        have hba := (Below.refl wr.heap.size wr).alloc (Nat.le_refl _) (.cells #[Value.int .i64 10, .func (.func 28) #[] #[.pointer (some ⟨g3, 0, none⟩)]] 61)
        have r0 := Row.new wr 61 [Value.int .i64 10, .func (.func 28) #[] #[.pointer (some ⟨g3, 0, none⟩)]]
        have R0 := Lib.hid r0
        have BA := Lib.hid hba
        have HC := Lib.hid (rule3_ (MW.out.below hba) (HMW.out.below (hba.mono (Nat.le_trans hB HBX.out.size))) (Nat.le_trans hB (Nat.le_trans HBX.out.size hba.size)) HS.out)
        have HBRK : Hid (brk x 2 = b3 x.m) := Lib.hid rfl
        clear hba r0
        generalize b3 x.m = bb at *
        go_wp2_with fail
        refine HC.out.mono ?_
        rintro e w2 ⟨rfl, hb2⟩
        have r2 := R0.out.below hb2 R0.out.lt
        have c2 : w2.cell? ⟨wr.heap.size, 0, none⟩ = some (.int .i64 10) := r2.cell 0
        have HB2 := Lib.hid (HBW.out.trans ((BA.out.trans (hb2.mono BA.out.size)).mono HBW.out.size))
        clear hb2 r2
        cases bb
        · go_wp2_with fail
          go_roundw
          case rel => exact ⟨3, by omega, by go_num, okTo_succ HOK.out HBRK.out, HB2.out⟩
          case measure => simp [intOf]
        · go_wp2_with fail
          go_ret
          exact ⟨ret_err HOK.out HBRK.out (by omega) rfl, HB1.out.trans (HB2.out.mono HB1.out.size)⟩
      · have c0 : wr.cell? ⟨g, 6, none⟩ = some (.int .i64 3) := RW.out.cell 6
        have c1 : wr.cell? ⟨g, 7, none⟩ = some (.func (.func 31) #[] #[.pointer (some ⟨g4, 0, none⟩)]) := RW.out.cell 7
        have hba := (Below.refl wr.heap.size wr).alloc (Nat.le_refl _) (.cells #[Value.int .i64 3, .func (.func 31) #[] #[.pointer (some ⟨g4, 0, none⟩)]] 61)
        have r0 := Row.new wr 61 [Value.int .i64 3, .func (.func 31) #[] #[.pointer (some ⟨g4, 0, none⟩)]]
        have R0 := Lib.hid r0
        have BA := Lib.hid hba
        have HC := Lib.hid (rule4_ (MW.out.below hba))
        have HBRK : Hid (brk x 3 = b4 x.m) := Lib.hid rfl
        clear hba r0
        generalize b4 x.m = bb at *
        go_wp2_with fail
        refine HC.out.mono ?_
        rintro e w2 ⟨rfl, hb2⟩
        have r2 := R0.out.below hb2 R0.out.lt
        have c2 : w2.cell? ⟨wr.heap.size, 0, none⟩ = some (.int .i64 3) := r2.cell 0
        have HB2 := Lib.hid (HBW.out.trans ((BA.out.trans (hb2.mono BA.out.size)).mono HBW.out.size))
        clear hb2 r2
        cases bb
        · go_wp2_with fail
          go_roundw
          case rel => exact ⟨4, by omega, by go_num, okTo_succ HOK.out HBRK.out, HB2.out⟩
          case measure => simp [intOf]
        · go_wp2_with fail
          go_ret
          exact ⟨ret_err HOK.out HBRK.out (by omega) rfl, HB1.out.trans (HB2.out.mono HB1.out.size)⟩
      · have c0 : wr.cell? ⟨g, 8, none⟩ = some (.int .i64 8) := RW.out.cell 8
        have c1 : wr.cell? ⟨g, 9, none⟩ = some (.func (.func 32) #[] #[.pointer (some ⟨g3, 0, none⟩), .pointer (some ⟨g4, 0, none⟩)]) := RW.out.cell 9
        have hba := (Below.refl wr.heap.size wr).alloc (Nat.le_refl _) (.cells #[Value.int .i64 8, .func (.func 32) #[] #[.pointer (some ⟨g3, 0, none⟩), .pointer (some ⟨g4, 0, none⟩)]] 61)
        have r0 := Row.new wr 61 [Value.int .i64 8, .func (.func 32) #[] #[.pointer (some ⟨g3, 0, none⟩), .pointer (some ⟨g4, 0, none⟩)]]
        have R0 := Lib.hid r0
        have BA := Lib.hid hba
        have HC := Lib.hid (rule5_ (MW.out.below hba) (HMW.out.below (hba.mono (Nat.le_trans hB HBX.out.size))) (Nat.le_trans hB (Nat.le_trans HBX.out.size hba.size)) HS.out HW.out)
        have HBRK : Hid (brk x 4 = b5 x.m) := Lib.hid rfl
        clear hba r0
        generalize b5 x.m = bb at *
        go_wp2_with fail
        refine HC.out.mono ?_
        rintro e w2 ⟨rfl, hb2⟩
        have r2 := R0.out.below hb2 R0.out.lt
        have c2 : w2.cell? ⟨wr.heap.size, 0, none⟩ = some (.int .i64 8) := r2.cell 0
        have HB2 := Lib.hid (HBW.out.trans ((BA.out.trans (hb2.mono BA.out.size)).mono HBW.out.size))
        clear hb2 r2
        cases bb
        · go_wp2_with fail
          go_roundw
          case rel => exact ⟨5, by omega, by go_num, okTo_succ HOK.out HBRK.out, HB2.out⟩
          case measure => simp [intOf]
        · go_wp2_with fail
          go_ret
          exact ⟨ret_err HOK.out HBRK.out (by omega) rfl, HB1.out.trans (HB2.out.mono HB1.out.size)⟩
      · have c0 : wr.cell? ⟨g, 10, none⟩ = some (.int .i64 9) := RW.out.cell 10
        have c1 : wr.cell? ⟨g, 11, none⟩ = some (.func (.func 36) #[] #[.pointer (some ⟨g3, 0, none⟩)]) := RW.out.cell 11
        have hba := (Below.refl wr.heap.size wr).alloc (Nat.le_refl _) (.cells #[Value.int .i64 9, .func (.func 36) #[] #[.pointer (some ⟨g3, 0, none⟩)]] 61)
        have r0 := Row.new wr 61 [Value.int .i64 9, .func (.func 36) #[] #[.pointer (some ⟨g3, 0, none⟩)]]
        have R0 := Lib.hid r0
        have BA := Lib.hid hba
        have HC := Lib.hid (rule6_ (MW.out.below hba) (HMW.out.below (hba.mono (Nat.le_trans hB HBX.out.size))) (Nat.le_trans hB (Nat.le_trans HBX.out.size hba.size)) HS.out HW.out)
        have HBRK : Hid (brk x 5 = b6 x.m) := Lib.hid rfl
        clear hba r0
        generalize b6 x.m = bb at *
        go_wp2_with fail
        refine HC.out.mono ?_
        rintro e w2 ⟨rfl, hb2⟩
        have r2 := R0.out.below hb2 R0.out.lt
        have c2 : w2.cell? ⟨wr.heap.size, 0, none⟩ = some (.int .i64 9) := r2.cell 0
        have HB2 := Lib.hid (HBW.out.trans ((BA.out.trans (hb2.mono BA.out.size)).mono HBW.out.size))
        clear hb2 r2
        cases bb
        · go_wp2_with fail
          go_roundw
          case rel => exact ⟨6, by omega, by go_num, okTo_succ HOK.out HBRK.out, HB2.out⟩
          case measure => simp [intOf]
        · go_wp2_with fail
          go_ret
          exact ⟨ret_err HOK.out HBRK.out (by omega) rfl, HB1.out.trans (HB2.out.mono HB1.out.size)⟩
    · have hk6 : k = 6 := by omega
      have HE : Hid (chk x = 0) := Lib.hid (chk_none (hk6 ▸ HOK.out))
      clear hk6
      go_wp2
      go_ret
      exact ⟨by rw [HE.out]; rfl, HBX.out⟩
end Go.Proofs.Ytgdikmgmpleolaa

/-
  Of part Example: what is needed here.
-/
namespace Go.Proofs.Ytgdikmgmpleolaa
open Go.RowKit
set_option linter.unusedVariables false
def xk (a : Int) : List Int := a :: List.replicate 31 0
def xSig : List Int := List.replicate 64 0
/-- the example, with whatever keys, program and account -/
def xTx (ks : List (List Int)) (p a : Int) : LTx := ⟨[xSig], ⟨false, 1, 0, 0, ks, zero32, [⟨p, [a], []⟩], []⟩⟩
def xRaw (gs gk gi kn kc : Nat) : TRaw := ⟨some ⟨gs, 0, none⟩, 1, 1, ⟨some ⟨gk, 0, none⟩, kn, kc, some ⟨gi, 0, none⟩, 1, 1, none, 0, 0⟩⟩
def xIn (ga : Nat) (p : Int) : List Value := inCells p (.slice (some ⟨ga, 0, none⟩) 1 1) (.slice none 0 0)
theorem x_in {w : World} {gs gk ga gi kn kc : Nat} {ks : List (List Int)} {p a : Int} {ts tk ta ti : TypeId} {rest : List Value} (h1 : Row w gs ts (bv xSig)) (h2 : Row w gk tk (bv ks.flatten ++ rest)) (h3 : Row w ga ta (bv [a])) (h4 : Row w gi ti (xIn ga p))
    (hk : ∀ k ∈ ks, k.length = 32) (hkn : ks.length = kn) (hkc : kn ≤ kc ∧ kc ≤ maxLen) : TxIn w w.heap.size (xRaw gs gk gi kn kc) (xTx ks p a) := by
  refine ⟨⟨rfl, fun k hk => ?_, ?_⟩, by simp [xRaw, maxLen], ⟨rfl, ⟨hkn, hk, ?_⟩, ⟨rfl, ?_⟩, ⟨rfl, fun i y h => by simp [xTx] at h⟩, hkc, by simp [xRaw, maxLen], by simp [xRaw, maxLen]⟩⟩
  · obtain rfl : k = xSig := by simpa [xTx] using hk
    rfl
  · have := h1.sees0
    simpa [xTx, xRaw, bv_length, xSig] using this
  · show Sees w w.heap.size (some ⟨gk, 0, none⟩) (kn * 32) (bv ks.flatten)
    exact h2.sees_at (o := 0) (by rw [bv_length, flatten_len ks hk, hkn]) (fun j u hu => by rw [Nat.zero_add, List.getElem?_append_left (List.getElem?_eq_some_iff.1 hu).1]; exact hu)
  · intro i y hy
    have hi : i = 0 := by
      have := (List.getElem?_eq_some_iff.1 hy).1
      simp [xTx] at this
      exact this
    subst hi
    obtain rfl : (⟨p, [a], []⟩ : LIn) = y := by simpa [xTx] using hy
    refine ⟨_, _, _, rfl, h4.lt, (h4.cell 0).trans rfl, (h4.cell 1).trans rfl, (h4.cell 2).trans rfl, ⟨_, _, rfl, ?_, Nat.le_refl _, by simp [maxLen]⟩, ⟨none, 0, rfl, Sees.nil _ _ _, Nat.le_refl _, by simp [maxLen]⟩⟩
    exact h3.sees0
theorem x_small (ks : List (List Int)) (h : ks.length ≤ 4000) (p a : Int) : Small (xTx ks p a).m := ⟨h, by simp [xTx], by simp [xTx], by simp [xTx, lookSize], by simp [xTx]⟩
theorem x_wf (ks : List (List Int)) (h : ∀ k ∈ ks, k.length = 32 ∧ AllBytes k) (p a : Int) (hp : IsByte p) (ha : IsByte a) : (xTx ks p a).m.Wf := by
  refine ⟨⟨by show (0 : Int) ≤ 1; omega, by show (1 : Int) < 256; omega⟩, ⟨by show (0 : Int) ≤ 0; omega, by show (0 : Int) < 256; omega⟩, ⟨by show (0 : Int) ≤ 0; omega, by show (0 : Int) < 256; omega⟩, h, ⟨rfl, fun z hz => ?_⟩, fun i hi => ?_, by simp [xTx]⟩
  · obtain rfl : z = 0 := List.eq_of_mem_replicate hz
    constructor <;> decide
  · obtain rfl : i = ⟨p, [a], []⟩ := by simpa [xTx] using hi
    refine ⟨hp, fun z hz => ?_, fun z hz => by simp at hz⟩
    obtain rfl : z = a := by simpa using hz
    exact ha
theorem xk_ok (a : Int) (h : IsByte a) : (xk a).length = 32 ∧ AllBytes (xk a) := ⟨rfl, fun z hz => by
  rcases List.mem_cons.1 hz with rfl | hz
  · exact h
  · obtain rfl : z = 0 := List.eq_of_mem_replicate hz
    constructor <;> decide⟩
def xks : List (List Int) := [xk 1, xk 2]
def xks3 : List (List Int) := [xk 1, xk 2, xk 2]
theorem xks_ok : ∀ k ∈ xks, k.length = 32 ∧ AllBytes k := by
  intro k hk
  simp only [xks, List.mem_cons, List.not_mem_nil, or_false] at hk
  rcases hk with rfl | rfl <;> exact xk_ok _ (by constructor <;> decide)
theorem xks3_ok : ∀ k ∈ xks3, k.length = 32 ∧ AllBytes k := by
  intro k hk
  simp only [xks3, List.mem_cons, List.not_mem_nil, or_false] at hk
  rcases hk with rfl | rfl | rfl <;> exact xk_ok _ (by constructor <;> decide)
theorem chk_a : chk (xTx xks 1 0) = 0 := by decide +kernel
theorem chk_b : chk (xTx xks 0 0) = 8 := by decide +kernel
theorem chk_c : chk (xTx xks 1 2) = 8 := by decide +kernel
theorem chk_d : chk (xTx xks3 1 0) = 9 := by decide +kernel
theorem tot_a : tot (xTx xks 1 0).m = 2 := by decide +kernel
/-- what example leaves -/
structure ExIn (w : World) (gs gk ga gi : Nat) : Prop where
  s : Row w gs 49 (bv xSig)
  k : Row w gk 41 (bv xks.flatten)
  a : Row w ga 5 (bv [0])
  i : Row w gi 47 (xIn ga 1)
  lt : gs < gk ∧ gk < ga ∧ ga < gi
def ExDone (w : World) (e : Ending) (w' : World) : Prop :=
  ∃ gs gk ga gi, e = .returned (.agg (TRaw.cells (xRaw gs gk gi 2 2) (xTx xks 1 0)).toArray) ∧ w.heap.size ≤ gs ∧ ExIn w' gs gk ga gi ∧ Below w.heap.size w w'
theorem built_xk (a : Int) : Try.prog.built 41 [(0, .int .u8 a)] = some (bv (xk a)).toArray := by kernel_rfl
theorem built_xm (gk gi : Nat) : Try.prog.built 31 [(1, .agg #[.int .u8 1, .int .u8 0, .int .u8 0]), (2, .slice (some ⟨gk, 0, none⟩) 2 2), (4, .slice (some ⟨gi, 0, none⟩) 1 1)] = some (Raw.cells (xRaw 0 gk gi 2 2).q (xTx xks 1 0).m).toArray := by kernel_rfl
section
variable {P : Program}
/-- a slice literal of two elements of many cells -/
theorem wpList_buildTwo {ops : Array Oper} {rest : List Oper} {o : Oper} {a : Act} {w : World} {Q : Exit → Act → World → Prop} (hg : o.guard = none) (t e : TypeId) (y y' : Operand) (ho : o.op = .buildSlice t 2 #[(0, y), (1, y')])
    (cs cs' : List Value) (z : Value) (size bytes : Nat) (hu : P.underlying t = some (.slice e)) (hi : (P.info? e).map (fun i => (i.zero, i.size, i.bytes)) = some (some z, size, bytes)) (hzs : z.cells.size = size) (hs0 : 0 < size) (hs1 : size ≤ 1000)
    (hcs : cs.length = size) (hcs' : cs'.length = size) (hy : a.eval y = .agg cs.toArray) (hy' : a.eval y' = .agg cs'.toArray)
    (h : wpList P ops Q rest (a.put o.dst (.slice (some ⟨w.heap.size, 0, none⟩) 2 2)) (w.alloc (.cells (cs ++ cs').toArray e))) : wpList P ops Q (o :: rest) a w := by
  obtain ⟨ie, hie, h1, h2, _⟩ := info_parts hi
  subst h2
  refine wpList_buildSlice hg t e 2 _ ho (cs ++ cs').toArray ie z hu hie h1 (by omega) (by omega) ?_ h
  have := Go.Great.fill_whole (s := ie.size) hs0 [Value.agg cs.toArray, Value.agg cs'.toArray] ((Array.range (2 * ie.size)).map (z.cells[· % z.cells.size]!)) (by simp [Value.cells, hcs, hcs']) (by simp)
  simpa [hy, hy', Value.cells] using this
end
theorem made64x (n : Nat) : (madeCells (Value.agg (zeros 64).toArray).cells (n * 64)).toList = bv (List.replicate (n * 64) 0) := by
  apply List.ext_getElem?
  intro i
  have hz : (Value.agg (zeros 64).toArray).cells.size = 64 := by kernel_rfl
  have hv : ∀ j, j < 64 → (Value.agg (zeros 64).toArray).cells[j]! = .int .u8 0 := fun j hj => by
    rw [show (Value.agg (zeros 64).toArray).cells = (zeros 64).toArray from rfl]
    have hs : j < (zeros 64).toArray.size := by simp only [List.size_toArray, zeros, List.length_replicate]; exact hj
    rw [getElem!_pos (zeros 64).toArray j hs, List.getElem_toArray]
    exact List.eq_of_mem_replicate (List.getElem_mem _)
  simp only [madeCells, hz, bv, cv, List.map_replicate, Array.toList_map, Array.toList_range]
  by_cases h : i < n * 64
  · rw [List.getElem?_map, List.getElem?_range h, List.getElem?_replicate_of_lt h]
    simp [hv (i % 64) (by omega)]
  · rw [List.getElem?_eq_none (by simp; omega), List.getElem?_eq_none (by simp; omega)]
set_option maxRecDepth 100000 in
set_option maxHeartbeats 2000000 in
theorem example_ (w : World) : Calls Try.prog 16 #[] w (ExDone w) := by
  obtain ⟨W, hW⟩ : ∃ W, W = w.alloc (.cells tzero.toArray 33) := ⟨_, rfl⟩
  have RW : Hid (Row W w.heap.size 33 tzero) := Lib.hid (by rw [hW]; exact Row.new _ _ _)
  have BW : Hid (Below w.heap.size w W) := Lib.hid (by rw [hW]; exact (Below.refl _ _).alloc (Nat.le_refl _) _)
  have ZW : Hid (W.heap.size = w.heap.size + 1) := Lib.hid (by rw [hW]; simp)
  go_enter Try.func16, Try.ntmps16
  go_upto_region 1 with fail
  have hX : ∀ c, c = tzero.toArray → w.alloc (.cells c 33) = W := by rintro _ rfl; exact hW.symm
  rw [hX]
  rotate_left
  · kernel_rfl
  clear hX hW
  obtain ⟨i0, hi, hz0, hz1, hz2⟩ := info_parts info_sig
  go_wp2_with (first
    | (at_make; go_must (refine wpList_make_full _ rfl (.const (.int .i64 1)) (.const (.int .i64 1)) 22 rfl W.heap.size 49 i0 _ 64 Try.underlying22 hi hz0 hz1 .i64 .i64 1 1 1 rfl rfl rfl rfl (by rw [hz2]; omega) (by unfold maxLen; omega) (Nat.le_refl _) ?_; intro w1 hown hgrow; have hrow := Row.of_ownN hown; have hb1 := (Below.refl W.heap.size W).grown hgrow (Nat.le_refl _) (fun k hk => by cases hk)))
    | ((with_reducible show wpList _ _ _ ({ dst := some 3, op := Op.build _ _, type := _, pos := _, after := _, guard := _ } :: _) _ _); go_must (refine wpList_plain rfl fun K hK => wp_built _ _ _ rfl (by simp only [List.map_toArray, List.map_cons, List.map_nil]; exact built_xk _) (hK _ _ ?_)))
    | ((with_reducible show wpList _ _ _ ({ dst := some 4, op := Op.build _ _, type := _, pos := _, after := _, guard := _ } :: _) _ _); go_must (refine wpList_plain rfl fun K hK => wp_built _ _ _ rfl (by simp only [List.map_toArray, List.map_cons, List.map_nil]; exact built_xk _) (hK _ _ ?_)))
    | ((with_reducible show wpList _ _ _ ({ dst := some 5, op := Op.buildSlice _ _ _, type := _, pos := _, after := _, guard := _ } :: _) _ _); go_must (refine wpList_buildTwo rfl 25 41 (.tmp 3) (.tmp 4) rfl (bv (xk 1)) (bv (xk 2)) _ 32 32 Try.underlying25 info_key (by kernel_rfl) (by omega) (by omega) (by rfl) (by rfl) ?_ ?_ ?_; go_simp; go_simp))
    | ((with_reducible show wpList _ _ _ ({ dst := some 9, op := Op.build _ _, type := _, pos := _, after := _, guard := _ } :: _) _ _); go_must (refine wpList_plain rfl fun K hK => wp_built _ _ _ rfl (by simp only [List.map_toArray, List.map_cons, List.map_nil]; exact built_xm _ _) (hK _ _ ?_)))
    | ((with_reducible show wpList _ _ _ ({ dst := some 10, op := Op.build _ _, type := _, pos := _, after := _, guard := _ } :: _) _ _); go_must (refine wpList_plain rfl fun K hK => wp_built _ _ _ rfl (by simp only [List.map_toArray, List.map_cons, List.map_nil]; exact built_tx3 (Raw.cells (xRaw 0 w1.heap.size (w1.heap.size + 1 + 1) 2 2).q (xTx xks 1 0).m) (cells_len rfl) _ _ _) (hK _ _ ?_)))
    | ((with_reducible show wpList _ _ _ ({ dst := none, op := Op.store 33 _ _, type := _, pos := _, after := _, guard := _ } :: _) _ _); go_must (refine wpList_store_whole rfl 33 (.tmp 0) (.tmp 10) rfl w.heap.size tzero (TRaw.cells (xRaw W.heap.size w1.heap.size (w1.heap.size + 1 + 1) 2 2) (xTx xks 1 0)) ((((RW.out.below hb1 RW.out.lt).alloc _).alloc _).alloc _) (by rw [tcells_len rfl]; exact size_tx) (by rw [tcells_len rfl]; rfl) tcells_one ?_ ?_ ?_; go_simp; (go_simp; rfl); intro V2 hr2 ht2)))
  have hz := hrow.lt
  have n1 := ZW.out
  have hs1 : Row w1 W.heap.size 49 (bv xSig) := by rw [made64x 1] at hrow; exact hrow
  have hk2 := Row.new w1 41 (bv (xk 1) ++ bv (xk 2))
  have ha2 := Row.new' (w1.alloc (.cells (bv (xk 1) ++ bv (xk 2)).toArray 41)) 5 (bv [0]) (g := w1.heap.size + 1) (by simp)
  have hi2 := Row.new' ((w1.alloc (.cells (bv (xk 1) ++ bv (xk 2)).toArray 41)).alloc (.cells (bv [0]).toArray 5)) 47 (xIn (w1.heap.size + 1) 1) (g := w1.heap.size + 1 + 1) (by simp)
  have hbb := (((hb1.alloc (by omega) (.cells (bv (xk 1) ++ bv (xk 2)).toArray 41)).alloc (by simp; omega) (.cells (bv [0]).toArray 5)).alloc (by simp; omega) (.cells (xIn (w1.heap.size + 1) 1).toArray 47))
  refine bodyPost_ret (results_cell_row (h := rfl) _ V2 w.heap.size 33 _ (0, 0) _ (by rfl) hr2.is Try.underlying33 rfl (by rw [List.size_toArray, tcells_len rfl]; exact size_tx)) rfl ?_
  refine ⟨W.heap.size, w1.heap.size, w1.heap.size + 1, w1.heap.size + 1 + 1, rfl, by omega, ⟨?_, ?_, ?_, ?_, by omega⟩, ?_⟩
  · exact ht2.row (((hs1.alloc _).alloc _).alloc _) (by omega)
  · exact ht2.row ((hk2.alloc _).alloc _) (by omega)
  · exact ht2.row (ha2.alloc _) (by omega)
  · exact ht2.row hi2 (by omega)
  · exact (BW.out.trans (hbb.mono (by omega))).trans (ht2.below (Nat.le_refl _))
end Go.Proofs.Ytgdikmgmpleolaa

/-
  Of part Lives5: what is needed here.
-/
namespace Go.Proofs.Ytgdikmgmpleolaa
open Go.RowKit
set_option linter.unusedVariables false
/-- a transaction in a block, its lists below it -/
structure Held (w : World) (b : Nat) (cs : List Value) (x : LTx) : Prop where
  row : Row w b 33 cs
  tx : ∃ s, cs = TRaw.cells s x ∧ TxIn w w.heap.size s x
theorem Held.below {w w' : World} {b : Nat} {cs : List Value} {x : LTx} (h : Held w b cs x) (hb : Below w.heap.size w w') : Held w' b cs x := by
  obtain ⟨s, h1, h2⟩ := h.tx
  exact ⟨h.row.below hb h.row.lt, s, h1, (h2.below hb).more hb.size⟩
theorem held_check {w : World} {b : Nat} {cs : List Value} {x : LTx} {c : Int} (h : Held w b cs x) (hs : Small x.m) (hw : x.m.Wf) (hc : chk x = c) :
    Calls Try.prog 12 #[.agg cs.toArray] w fun e w' => e = .returned (.int .i64 c) ∧ Below w.heap.size w w' := by
  obtain ⟨s, rfl, h2⟩ := h.tx
  have := check_ s x _ w h2 (Nat.le_refl _) hs hw
  rwa [hc] at this
theorem held_total {w : World} {b : Nat} {cs : List Value} {x : LTx} {c : Nat} (h : Held w b cs x) (hs : Small x.m) (hc : tot x.m = c) :
    Calls Try.prog 10 #[.agg cs.toArray] w fun e w' => e = .returned (.int .i64 c) ∧ Below w.heap.size w w' := by
  obtain ⟨s, rfl, h2⟩ := h.tx
  have := total_ s x _ w h2 (Nat.le_refl _) hs
  rwa [hc] at this
/-- the example, laid into a block of its own -/
structure Laid (w0 w : World) (b gs gk ga gi : Nat) : Prop where
  row : Row w b 33 (TRaw.cells (xRaw gs gk gi 2 2) (xTx xks 1 0))
  ex : ExIn w gs gk ga gi
  lo : w0.heap.size ≤ gs
  lt : gi < b
  b : Below w0.heap.size w0 w
theorem own_rows {w : World} {base : Nat} {e : TypeId} {size n : Nat} {v : Value} {xs : List Value} (h : w.ownsRow base e size v n xs) (hx : 0 < xs.length) (hn : 0 < n) : ∃ g c rest, v = .slice (some ⟨g, 0, none⟩) n c ∧ Row w g e (xs ++ rest) ∧ n ≤ c ∧ c ≤ maxLen := by
  rcases h.2 with ⟨hv, he⟩ | ⟨g, cap, cur, hv, hg, hh, h1, h2, h3, h4⟩
  · omega
  · refine ⟨g, cap, cur.toList.drop xs.length, hv, ⟨?_⟩, h1, h2⟩
    rw [hh]
    have h5 : xs = cur.toList.take xs.length := by
      rw [← h4, List.length_take]
      exact List.take_eq_take_min
    congr
    have h6 : xs ++ cur.toList.drop xs.length = cur.toList := by
      conv => lhs; lhs; rw [h5]
      exact List.take_append_drop _ _
    rw [h6]
theorem bv_xks3 : bv xks.flatten ++ bv (xk 2) = bv xks3.flatten := by
  rw [← bv_append]
  congr 1
set_option maxRecDepth 100000 in
set_option maxHeartbeats 8000000 in
theorem lives5 (w : World) : Calls Try.prog 8 #[] w fun e w' => e = .returned (.bool true) ∧ Below w.heap.size w w' := by
  have HSZ := Lib.hid (fun gs gk gi => show (Try.prog.info? 33).map (·.size) = some (TRaw.cells (xRaw gs gk gi 2 2) (xTx xks 1 0)).length by rw [tcells_len rfl]; exact size_tx)
  have HON := Lib.hid (fun gs gk gi => tcells_one (s := xRaw gs gk gi 2 2) (x := xTx xks 1 0))
  have HLN := Lib.hid (fun gs gk gi => show (TRaw.cells (xRaw gs gk gi 2 2) (xTx xks 1 0)).length = 40 from tcells_len rfl)
  have HLD : Hid (∀ (w0 w1 u : World) gs gk ga gi, w0.heap.size ≤ gs → ExIn w1 gs gk ga gi → Below w0.heap.size w0 w1 → Row u w1.heap.size 33 (TRaw.cells (xRaw gs gk gi 2 2) (xTx xks 1 0)) → Below w1.heap.size w1 u → Laid w0 u w1.heap.size gs gk ga gi) :=
    Lib.hid fun w0 w1 u gs gk ga gi h1 h2 h3 h4 h5 => ⟨h4, ⟨h2.s.below h5 h2.s.lt, h2.k.below h5 h2.k.lt, h2.a.below h5 h2.a.lt, h2.i.below h5 h2.i.lt, h2.lt⟩, h1, h2.i.lt, h3.trans (h5.mono h3.size)⟩
  go_enter Try.func8, Try.ntmps8
  go_wp2_with fail
  refine (example_ w).mono ?_
  rintro e w1 ⟨gs, gk, ga, gi, rfl, hlo, hex, hb1⟩
  have EX := Lib.hid (And.intro hlo (And.intro hex hb1))
  clear hlo hex hb1
  go_wp2_with ((with_reducible show wpList _ _ _ ({ dst := none, op := Op.store 33 _ _, type := _, pos := _, after := _, guard := _ } :: _) _ _); go_must (refine wpList_store_new rfl 33 (.tmp 1) (.tmp 5) rfl (TRaw.cells (xRaw gs gk gi 2 2) (xTx xks 1 0)) (HSZ.out gs gk gi) (HON.out gs gk gi) (by rw [HLN.out]; rfl) ?_ ?_ ?_; go_simp; go_simp; intro u1 hr1 hb1 hz1; have LA := Lib.hid (HLD.out _ _ _ _ _ _ _ EX.out.1 EX.out.2.1 EX.out.2.2 hr1 hb1); clear hr1 hb1 hz1))
  refine (example_ u1).mono ?_
  rintro e w2 ⟨gs2, gk2, ga2, gi2, rfl, hlo, hex, hb1⟩
  have EX2 := Lib.hid (And.intro hlo (And.intro hex hb1))
  clear hlo hex hb1
  go_upto_region 3 with ((with_reducible show wpList _ _ _ ({ dst := none, op := Op.store 33 _ _, type := _, pos := _, after := _, guard := _ } :: _) _ _); go_must (refine wpList_store_new rfl 33 (.tmp 2) (.tmp 6) rfl (TRaw.cells (xRaw gs2 gk2 gi2 2 2) (xTx xks 1 0)) (HSZ.out gs2 gk2 gi2) (HON.out gs2 gk2 gi2) (by rw [HLN.out]; rfl) ?_ ?_ ?_; go_simp; go_simp; intro u2 hr1 hb1 hz1; have LB := Lib.hid (HLD.out _ _ _ _ _ _ _ EX2.out.1 EX2.out.2.1 EX2.out.2.2 hr1 hb1); clear hr1 hb1 hz1))
  have q38 : u2.cell? ⟨w2.heap.size, 38, none⟩ = some (.slice (some ⟨gi2, 0, none⟩) 1 1) := (LB.out.row.cell 38).trans rfl
  have q0 : u2.cell? ⟨gi2, 0, none⟩ = some (.int .u8 1) := (LB.out.ex.i.cell 0).trans rfl
  have qf := LB.out.ex.i.frozen 0
  go_wp2_with fail
  clear q38 q0 qf
  have HB : Hid (Held (u2.setCell ⟨gi2, 0, none⟩ (.int .u8 0)) w2.heap.size (TRaw.cells (xRaw gs2 gk2 gi2 2 2) (xTx xks 1 0)) (xTx xks 0 0)) := Lib.hid (by
    have h := LB.out
    have hl := h.ex.lt
    have hlt := h.lt
    exact ⟨h.row.far (p := ⟨gi2, 0, none⟩) (show w2.heap.size ≠ gi2 by omega) _, _, rfl, x_in (rest := []) (h.ex.s.far (p := ⟨gi2, 0, none⟩) (show gs2 ≠ gi2 by omega) _) (by rw [List.append_nil]; exact h.ex.k.far (p := ⟨gi2, 0, none⟩) (show gk2 ≠ gi2 by omega) _) (h.ex.a.far (p := ⟨gi2, 0, none⟩) (show ga2 ≠ gi2 by omega) _) (h.ex.i.set_ 0 _) (fun k hk => (xks_ok k hk).1) rfl (by simp [maxLen])⟩)
  have BV2 : Hid (Below u1.heap.size u1 (u2.setCell ⟨gi2, 0, none⟩ (.int .u8 0))) := Lib.hid (by
    have h := LB.out
    have hl := h.ex.lt
    exact h.b.setCell (show u1.heap.size ≤ gi2 by have := h.lo; omega) _)
  generalize u2.setCell ⟨gi2, 0, none⟩ (.int .u8 0) = v2 at *
  refine (example_ v2).mono ?_
  rintro e w3 ⟨gs3, gk3, ga3, gi3, rfl, hlo, hex, hb1⟩
  have EX3 := Lib.hid (And.intro hlo (And.intro hex hb1))
  clear hlo hex hb1
  go_upto_region 5 with ((with_reducible show wpList _ _ _ ({ dst := none, op := Op.store 33 _ _, type := _, pos := _, after := _, guard := _ } :: _) _ _); go_must (refine wpList_store_new rfl 33 (.tmp 3) (.tmp 12) rfl (TRaw.cells (xRaw gs3 gk3 gi3 2 2) (xTx xks 1 0)) (HSZ.out gs3 gk3 gi3) (HON.out gs3 gk3 gi3) (by rw [HLN.out]; rfl) ?_ ?_ ?_; go_simp; go_simp; intro u3 hr1 hb1 hz1; have LC := Lib.hid (HLD.out _ _ _ _ _ _ _ EX3.out.1 EX3.out.2.1 EX3.out.2.2 hr1 hb1); clear hr1 hb1 hz1))
  have q38 : u3.cell? ⟨w3.heap.size, 38, none⟩ = some (.slice (some ⟨gi3, 0, none⟩) 1 1) := (LC.out.row.cell 38).trans rfl
  have q1 : u3.cell? ⟨gi3, 1, none⟩ = some (.slice (some ⟨ga3, 0, none⟩) 1 1) := (LC.out.ex.i.cell 1).trans rfl
  have q0 : u3.cell? ⟨ga3, 0, none⟩ = some (.int .u8 0) := (LC.out.ex.a.cell 0).trans rfl
  have qf := LC.out.ex.a.frozen 0
  go_wp2_with fail
  clear q38 q0 q1 qf
  have HC : Hid (Held (u3.setCell ⟨ga3, 0, none⟩ (.int .u8 2)) w3.heap.size (TRaw.cells (xRaw gs3 gk3 gi3 2 2) (xTx xks 1 0)) (xTx xks 1 2)) := Lib.hid (by
    have h := LC.out
    have hl := h.ex.lt
    have hlt := h.lt
    exact ⟨h.row.far (p := ⟨ga3, 0, none⟩) (show w3.heap.size ≠ ga3 by omega) _, _, rfl, x_in (rest := []) (h.ex.s.far (p := ⟨ga3, 0, none⟩) (show gs3 ≠ ga3 by omega) _) (by rw [List.append_nil]; exact h.ex.k.far (p := ⟨ga3, 0, none⟩) (show gk3 ≠ ga3 by omega) _) (h.ex.a.set_ 0 _) (h.ex.i.far (p := ⟨ga3, 0, none⟩) (show gi3 ≠ ga3 by omega) _) (fun k hk => (xks_ok k hk).1) rfl (by simp [maxLen])⟩)
  have BV3 : Hid (Below v2.heap.size v2 (u3.setCell ⟨ga3, 0, none⟩ (.int .u8 2))) := Lib.hid (by
    have h := LC.out
    have hl := h.ex.lt
    exact h.b.setCell (show v2.heap.size ≤ ga3 by have := h.lo; omega) _)
  generalize u3.setCell ⟨ga3, 0, none⟩ (.int .u8 2) = v3 at *
  refine (example_ v3).mono ?_
  rintro e w4 ⟨gs4, gk4, ga4, gi4, rfl, hlo, hex, hb1⟩
  have EX4 := Lib.hid (And.intro hlo (And.intro hex hb1))
  clear hlo hex hb1
  go_upto_region 7 with ((with_reducible show wpList _ _ _ ({ dst := none, op := Op.store 33 _ _, type := _, pos := _, after := _, guard := _ } :: _) _ _); go_must (refine wpList_store_new rfl 33 (.tmp 4) (.tmp 20) rfl (TRaw.cells (xRaw gs4 gk4 gi4 2 2) (xTx xks 1 0)) (HSZ.out gs4 gk4 gi4) (HON.out gs4 gk4 gi4) (by rw [HLN.out]; rfl) ?_ ?_ ?_; go_simp; go_simp; intro u4 hr1 hb1 hz1; have LD := Lib.hid (HLD.out _ _ _ _ _ _ _ EX4.out.1 EX4.out.2.1 EX4.out.2.2 hr1 hb1); clear hr1 hb1 hz1))
  have q5 : u4.cell? ⟨w4.heap.size, 5, none⟩ = some (.slice (some ⟨gk4, 0, none⟩) 2 2) := (LD.out.row.cell 5).trans rfl
  have HOW : Hid (u4.ownsRow gk4 41 32 (.slice (some ⟨gk4, 0, none⟩) 2 2) 2 (bv xks.flatten)) := Lib.hid ⟨by rfl, .inr ⟨gk4, 2, (bv xks.flatten).toArray, rfl, Nat.le_refl _, LD.out.ex.k.is, Nat.le_refl _, by simp [maxLen], by rfl, by rfl⟩⟩
  have HNE : Hid (some w4.heap.size ≠ (Value.slice (some ⟨gk4, 0, none⟩) 2 2).ownBlock) := Lib.hid (fun e => by
    have e2 : w4.heap.size = gk4 := Option.some.inj e
    have := LD.out.ex.lt
    have := LD.out.lt
    omega)
  have HGK : Hid (gk4 ≤ u4.heap.size) := Lib.hid (Nat.le_of_lt LD.out.ex.k.lt)
  go_upto_region 8 with (first
    | ((with_reducible show wpList _ _ _ ({ dst := some 24, op := Op.build _ _, type := _, pos := _, after := _, guard := _ } :: _) _ _); go_must (refine wpList_plain rfl fun K hK => wp_built _ _ _ rfl (by simp only [List.map_toArray, List.map_cons, List.map_nil]; exact built_xk _) (hK _ _ ?_)))
    | ((with_reducible show wpList _ _ _ ({ dst := some 25, op := Op.buildSlice _ _ _, type := _, pos := _, after := _, guard := _ } :: _) _ _); go_must (refine wpList_buildOne rfl 25 41 (.tmp 24) rfl (bv (xk 2)) _ 32 32 Try.underlying25 info_key (by kernel_rfl) (by omega) (by omega) (by rfl) ?_ ?_; go_simp))
    | (at_builtin; (with_reducible show wpList _ _ _ ({ dst := some 26, op := _, type := _, pos := _, after := _, guard := _ } :: _) _ _); go_must (refine wpList_addRow rfl (.tmp 23) (.tmp 25) 25 rfl gk4 41 _ 32 32 Try.underlying25 info_key (by kernel_rfl) (by omega) (.slice (some ⟨gk4, 0, none⟩) 2 2) 2 (bv xks.flatten) (bv (xk 2)) 1 (by rfl) (bv_one _) rfl ?_ HOW.out ?_ HGK.out (by unfold maxLen; omega) (by omega) ?_; go_simp; go_simp; intro v' w5 ho5 hg5; have ho5 : w5.ownsRow gk4 41 32 v' 3 (bv xks.flatten ++ bv (xk 2)) := ho5; obtain ⟨gd, cd, rd, rfl, hrd, hc1, hc2⟩ := own_rows ho5 (by rw [List.length_append]; have : (bv (xk 2)).length = 32 := rfl; omega) (by omega); have HRD := Lib.hid hrd; have HCD := Lib.hid (And.intro hc1 hc2); have HG5 := Lib.hid hg5; clear hrd hc1 hc2; have c5 : w5.cell? ⟨w4.heap.size, 5, none⟩ = some (.slice (some ⟨gk4, 0, none⟩) 2 2) := (hg5.row LD.out.row HNE.out).cell 5; have f5 := (hg5.row LD.out.row HNE.out).frozen 5; clear ho5 hg5)))
  clear c5 f5 q5
  have HV : Hid (Held (w5.setCell ⟨w4.heap.size, 5, none⟩ (.slice (some ⟨gd, 0, none⟩) 3 cd)) w4.heap.size (TRaw.cells (xRaw gs4 gd gi4 3 cd) (xTx xks3 1 0)) (xTx xks3 1 0)) := Lib.hid (by
    have h := LD.out
    have hl := h.ex.lt
    have hlt := h.lt
    have hr := HG5.out.row h.row HNE.out
    have hne : w4.heap.size ≠ gd := by
      intro e
      have h1 := hr.is
      have h2 := HRD.out.is
      rw [e] at h1
      rw [h1] at h2
      injection (Option.some.inj h2) with _ h3 _
      cases h3
    have oth : ∀ k, k ≠ gk4 → some k ≠ (Value.slice (some ⟨gk4, 0, none⟩) 2 2).ownBlock := fun k hk e => hk (Option.some.inj e)
    refine ⟨hr.set_ 5 _, _, rfl, x_in (tk := 41) (rest := rd) ((HG5.out.row h.ex.s (oth _ (by omega))).far (p := ⟨w4.heap.size, 5, none⟩) (show gs4 ≠ w4.heap.size by omega) _) ?_ ((HG5.out.row h.ex.a (oth _ (by omega))).far (p := ⟨w4.heap.size, 5, none⟩) (show ga4 ≠ w4.heap.size by omega) _) ((HG5.out.row h.ex.i (oth _ (by omega))).far (p := ⟨w4.heap.size, 5, none⟩) (show gi4 ≠ w4.heap.size by omega) _) (fun k hk => (xks3_ok k hk).1) rfl HCD.out⟩
    rw [← bv_xks3]
    exact HRD.out.far (p := ⟨w4.heap.size, 5, none⟩) (Ne.symm hne) _)
  have BV4 : Hid (Below v3.heap.size v3 (w5.setCell ⟨w4.heap.size, 5, none⟩ (.slice (some ⟨gd, 0, none⟩) 3 cd))) := Lib.hid (by
    have h := LD.out
    have hl := h.ex.lt
    have hlo := h.lo
    have hlt := h.lt
    exact (h.b.trans ((HG5.out.below HOW.out HGK.out).mono (by omega))).setCell (show v3.heap.size ≤ w4.heap.size by omega) _)
  generalize w5.setCell ⟨w4.heap.size, 5, none⟩ (.slice (some ⟨gd, 0, none⟩) 3 cd) = v4 at *
  have HA : Hid (Held v4 w1.heap.size (TRaw.cells (xRaw gs gk gi 2 2) (xTx xks 1 0)) (xTx xks 1 0)) := Lib.hid (by
    have h := LA.out
    have h0 : Held u1 w1.heap.size (TRaw.cells (xRaw gs gk gi 2 2) (xTx xks 1 0)) (xTx xks 1 0) := ⟨h.row, _, rfl, x_in (rest := []) h.ex.s (by rw [List.append_nil]; exact h.ex.k) h.ex.a h.ex.i (fun k hk => (xks_ok k hk).1) rfl (by simp [maxLen])⟩
    exact ((h0.below BV2.out).below BV3.out).below BV4.out)
  have HB4 := Lib.hid ((HB.out.below BV3.out).below BV4.out)
  have HC4 := Lib.hid (HC.out.below BV4.out)
  have hu := LA.out.b
  have B4 : Hid (Below w.heap.size w v4) := Lib.hid (hu.trans ((((BV2.out.trans (BV3.out.mono BV2.out.size))).trans (BV4.out.mono (BV2.out.trans (BV3.out.mono BV2.out.size)).size)).mono hu.size))
  have HSZD := Lib.hid (show (Try.prog.info? 33).map (·.size) = some (TRaw.cells (xRaw gs4 gd gi4 3 cd) (xTx xks3 1 0)).length by rw [tcells_len rfl]; exact size_tx)
  clear hu HB HC LA LB LC LD EX EX2 EX3 EX4 HNE HOW HGK HRD HCD HG5 BV2 BV3 BV4 HON HLN HLD
  have SA := Lib.hid (HSZ.out gs gk gi)
  have SB := Lib.hid (HSZ.out gs2 gk2 gi2)
  have SC := Lib.hid (HSZ.out gs3 gk3 gi3)
  generalize TRaw.cells (xRaw gs gk gi 2 2) (xTx xks 1 0) = ca at *
  generalize TRaw.cells (xRaw gs2 gk2 gi2 2 2) (xTx xks 1 0) = cb at *
  generalize TRaw.cells (xRaw gs3 gk3 gi3 2 2) (xTx xks 1 0) = cc at *
  generalize TRaw.cells (xRaw gs4 gd gi4 3 cd) (xTx xks3 1 0) = ce at *
  generalize w1.heap.size = g1 at *
  generalize w2.heap.size = g2 at *
  generalize w3.heap.size = g3 at *
  generalize w4.heap.size = g4 at *
  go_wp2_with ((with_reducible show wpList _ _ _ ({ dst := some 29, op := Op.load _ _, type := _, pos := _, after := _, guard := _ } :: _) _ _); go_must (refine wpList_load_at rfl 33 (.tmp 1) rfl ⟨g1, 0, none⟩ ca _ Try.underlying33 rfl SA.out (fun j v hv => by rw [addr_row, HA.out.row.cell, Nat.zero_add]; exact hv) ?_ ?_; go_simp))
  refine (held_check HA.out (x_small _ (by decide) _ _) (x_wf _ xks_ok _ _ (by constructor <;> decide) (by constructor <;> decide)) chk_a).mono ?_
  rintro e y1 ⟨rfl, hb⟩
  have hz := B4.out.size
  have HA := Lib.hid (HA.out.below hb)
  have HB4 := Lib.hid (HB4.out.below hb)
  have HC4 := Lib.hid (HC4.out.below hb)
  have HV := Lib.hid (HV.out.below hb)
  have B4 := Lib.hid (B4.out.trans (hb.mono hz))
  clear hb hz
  go_wp2_with ((with_reducible show wpList _ _ _ ({ dst := some 33, op := Op.load _ _, type := _, pos := _, after := _, guard := _ } :: _) _ _); go_must (refine wpList_load_atg (by kernel_rfl) 33 (.tmp 1) rfl ⟨g1, 0, none⟩ ca _ Try.underlying33 rfl SA.out (fun j v hv => by rw [addr_row, HA.out.row.cell, Nat.zero_add]; exact hv) ?_ ?_; go_simp))
  refine (held_total HA.out (x_small _ (by decide) _ _) tot_a).mono ?_
  rintro e y2 ⟨rfl, hb⟩
  have hz := B4.out.size
  have HA := Lib.hid (HA.out.below hb)
  have HB4 := Lib.hid (HB4.out.below hb)
  have HC4 := Lib.hid (HC4.out.below hb)
  have HV := Lib.hid (HV.out.below hb)
  have B4 := Lib.hid (B4.out.trans (hb.mono hz))
  clear hb hz
  go_wp2_with ((with_reducible show wpList _ _ _ ({ dst := some 38, op := Op.load _ _, type := _, pos := _, after := _, guard := _ } :: _) _ _); go_must (refine wpList_load_atg (by kernel_rfl) 33 (.tmp 2) rfl ⟨g2, 0, none⟩ cb _ Try.underlying33 rfl SB.out (fun j v hv => by rw [addr_row, HB4.out.row.cell, Nat.zero_add]; exact hv) ?_ ?_; go_simp))
  refine (held_check HB4.out (x_small _ (by decide) _ _) (x_wf _ xks_ok _ _ (by constructor <;> decide) (by constructor <;> decide)) chk_b).mono ?_
  rintro e y3 ⟨rfl, hb⟩
  have hz := B4.out.size
  have HA := Lib.hid (HA.out.below hb)
  have HB4 := Lib.hid (HB4.out.below hb)
  have HC4 := Lib.hid (HC4.out.below hb)
  have HV := Lib.hid (HV.out.below hb)
  have B4 := Lib.hid (B4.out.trans (hb.mono hz))
  clear hb hz
  go_wp2_with ((with_reducible show wpList _ _ _ ({ dst := some 43, op := Op.load _ _, type := _, pos := _, after := _, guard := _ } :: _) _ _); go_must (refine wpList_load_atg (by kernel_rfl) 33 (.tmp 3) rfl ⟨g3, 0, none⟩ cc _ Try.underlying33 rfl SC.out (fun j v hv => by rw [addr_row, HC4.out.row.cell, Nat.zero_add]; exact hv) ?_ ?_; go_simp))
  refine (held_check HC4.out (x_small _ (by decide) _ _) (x_wf _ xks_ok _ _ (by constructor <;> decide) (by constructor <;> decide)) chk_c).mono ?_
  rintro e y4 ⟨rfl, hb⟩
  have hz := B4.out.size
  have HA := Lib.hid (HA.out.below hb)
  have HB4 := Lib.hid (HB4.out.below hb)
  have HC4 := Lib.hid (HC4.out.below hb)
  have HV := Lib.hid (HV.out.below hb)
  have B4 := Lib.hid (B4.out.trans (hb.mono hz))
  clear hb hz
  go_wp2_with ((with_reducible show wpList _ _ _ ({ dst := some 48, op := Op.load _ _, type := _, pos := _, after := _, guard := _ } :: _) _ _); go_must (refine wpList_load_atg (by kernel_rfl) 33 (.tmp 4) rfl ⟨g4, 0, none⟩ ce _ Try.underlying33 rfl HSZD.out (fun j v hv => by rw [addr_row, HV.out.row.cell, Nat.zero_add]; exact hv) ?_ ?_; go_simp))
  refine (held_check HV.out (x_small _ (by decide) _ _) (x_wf _ xks3_ok _ _ (by constructor <;> decide) (by constructor <;> decide)) chk_d).mono ?_
  rintro e y5 ⟨rfl, hb⟩
  have hz := B4.out.size
  have HA := Lib.hid (HA.out.below hb)
  have HB4 := Lib.hid (HB4.out.below hb)
  have HC4 := Lib.hid (HC4.out.below hb)
  have HV := Lib.hid (HV.out.below hb)
  have B4 := Lib.hid (B4.out.trans (hb.mono hz))
  clear hb hz
  go_wp2_with fail
  go_ret
  exact ⟨rfl, B4.out⟩
end Go.Proofs.Ytgdikmgmpleolaa

/-
  Of part RefTotal: what is needed here.
-/
namespace Go.Proofs.Ytgdikmgmpleolaa
open Go.RowKit
set_option linter.unusedVariables false
set_option maxRecDepth 100000 in
set_option maxHeartbeats 1000000 in
theorem refTotal_ (s : TRaw) (x : LTx) (B : Nat) (w : World) (hm : TxIn w B s x) (hB : B ≤ w.heap.size) (hs : Small x.m) :
    Calls Try.prog 11 #[.agg (s.cells x).toArray] w fun e w' => e = .returned (.int .i64 (tot x.m : Nat)) ∧ Below w.heap.size w w' := by
  have rb := TxRow.of (Row.new w 33 (s.cells x)) hm.m.recent
  have hb0 := (Below.refl w.heap.size w).alloc (Nat.le_refl _) (.cells (s.cells x).toArray 33)
  generalize s.cells x = cs at *
  obtain ⟨d0, d2, d3, d4, d5, d38, d39⟩ := rb
  obtain ⟨SA, sn, sc, KA, kn, kc, IA, n, ic, LA, ln, lc⟩ := s
  dsimp only at d0 d5 d38 d39
  have lk := hm.m.keys.len
  have ll := hm.m.looks.len
  dsimp only at lk ll
  have k1 := hs.keys
  have k2 := hs.looks
  rw [lk] at k1
  rw [ll] at k2
  have HM := Lib.hid (hm.below (hb0.mono hB))
  have HB0 := Lib.hid hb0
  have HT : Hid (tot x.m = kn + lookSize x.m.looks) := Lib.hid (by unfold tot; rw [lk])
  have HS := Lib.hid hs
  have HLL := Lib.hid ll
  clear d0 d2 d3 d4 d38 hm hb0 lk ll hs
  go_enter Try.func11, Try.ntmps11
  go_wp2
  generalize (w.alloc (Obj.cells cs.toArray 33)) = W0 at *
  go_loopw [3, 4] (fun nn i wr => ∃ (k j s : Nat), k ≤ ln ∧ i = .int .i64 k ∧ nn = .int .i64 s ∧ s = kn + lookSize (x.m.looks.take k) ∧ s ≤ 8000 ∧ wr = W0.drewN j) (fun nn i _ => ln - (intOf i).toNat)
  case atStart => exact ⟨0, 0, kn, Nat.zero_le _, rfl, rfl, by simp [lookSize], by omega, rfl⟩
  case round =>
    obtain ⟨k, j, s, hk, rfl, rfl, hsum, hs9, rfl⟩ := hrel
    have HSU := Lib.hid hsum
    clear hsum
    by_cases hlt : k < ln
    · obtain ⟨a, y, va, vd, rfl, hab, hx, hat⟩ := HM.out.m.looks.get hlt
      have hx2 := HS.out.wr (List.mem_of_getElem? hx)
      have hz := lookSize_succ hx
      have hz2 := lookSize_take (l := x.m.looks) (k + 1)
      have hz3 := HS.out.sum
      have hc1 : W0.cell? ((a.add (k * 34)).add 32) = some va := hat.cells 32 va (by rw [List.getElem?_append_right (by rw [bv_length, hat.len]; exact Nat.le_refl _), bv_length, hat.len]; rfl)
      have hc2 : W0.cell? ((a.add (k * 34)).add 33) = some vd := hat.cells 33 vd (by rw [List.getElem?_append_right (by rw [bv_length, hat.len]; omega), bv_length, hat.len]; rfl)
      obtain ⟨A1, c1, rfl, _, _, _⟩ := hat.wr.is
      obtain ⟨A2, c2, rfl, _, _, _⟩ := hat.rd.is
      have e1 : W0.cell? ⟨(a.add (k * 34)).block, (a.add (k * 34)).off + 32, none⟩ = some (.slice A1 y.wr.length c1) := hc1
      have e2 : W0.cell? ⟨(a.add (k * 34)).block, (a.add (k * 34)).off + 33, none⟩ = some (.slice A2 y.rd.length c2) := hc2
      have HZ : Hid (s + y.wr.length + y.rd.length = kn + lookSize (x.m.looks.take (k + 1))) := Lib.hid (by have := HSU.out; omega)
      have hz4 : s + y.wr.length + y.rd.length ≤ 8000 := by have := HZ.out; omega
      obtain ⟨g1, g2⟩ := hx2
      clear hx hat hz hz2 hz3 hc1 hc2
      go_wp2
      go_quiet (fail)
      go_wp2
      go_roundw
      case rel => exact ⟨k + 1, j + nq, s + y.wr.length + y.rd.length, by omega, by go_num, by go_num, HZ.out, hz4, by simp⟩
      case measure => simp [intOf]; omega
    · have hkn : k = ln := by omega
      have HE : Hid (tot x.m = s) := Lib.hid (by
        have h1 := HSU.out
        rw [hkn, List.take_of_length_le (by rw [HLL.out]; exact Nat.le_refl _)] at h1
        rw [HT.out, h1])
      clear hkn HSU
      go_wp2
      go_ret
      exact ⟨by simp [HE.out], below_drewN HB0.out j⟩
end Go.Proofs.Ytgdikmgmpleolaa

/-
  Of part KeyEq: what is needed here.
-/
namespace Go.Proofs.Ytgdikmgmpleolaa
open Go.RowKit
set_option linter.unusedVariables false
def same32 (x y : List Int) (is : List Nat) : Bool := is.all fun i => x.getD i 0 == y.getD i 0
theorem eqItems_any (x y : List Int) (w : World) : ∀ (is : List Nat), (∀ i ∈ is, i < x.length ∧ i < y.length) → (Op.eqItems 9999 5 1 (bv x).toArray (bv y).toArray is).run Try.prog w = .ok (same32 x y is) w
  | [], _ => by simp [Op.eqItems, same32]
  | i :: is, h => by
    have hi := h i (by simp)
    have hc : (bv x).toArray[i]? = some (.int .u8 (x.getD i 0)) := by
      rw [List.getElem?_toArray]
      exact bv_at hi.1
    have hd : (bv y).toArray[i]? = some (.int .u8 (y.getD i 0)) := by
      rw [List.getElem?_toArray]
      exact bv_at hi.2
    have p := run_part_plain (P := Try.prog) w plainU8 (xs := (bv x).toArray) (off := i) hc
    have p2 := run_part_plain (P := Try.prog) w plainU8 (xs := (bv y).toArray) (off := i) hd
    have ih := eqItems_any x y w is fun k hk => h k (by simp [hk])
    simp only [Op.eqItems, Nat.mul_one, Sem.run_bind, p, p2, Result.andThen_ok, run_equalIn_int w 9998 5 .u8 .u8 _ _ Try.underlying5]
    cases hb : (x.getD i 0 == y.getD i 0)
    · have : same32 x y (i :: is) = false := by simp only [same32, List.all_cons, hb, Bool.false_and]
      rw [this]
      simp
    · have : same32 x y (i :: is) = same32 x y is := by simp only [same32, List.all_cons, hb, Bool.true_and]
      rw [this]
      simpa using ih
theorem same32_iff {x y : List Int} {n : Nat} (hx : x.length = n) (hy : y.length = n) : same32 x y (List.range n) = decide (x = y) := by
  rw [Bool.eq_iff_iff, decide_eq_true_iff]
  unfold same32
  rw [List.all_eq_true]
  constructor
  · intro h
    refine List.ext_getElem (by omega) fun i h1 h2 => ?_
    have := h i (by simp; omega)
    rw [beq_iff_eq, List.getD_eq_getElem?_getD, List.getD_eq_getElem?_getD, List.getElem?_eq_getElem h1, List.getElem?_eq_getElem h2] at this
    exact this
  · rintro rfl i _
    simp
theorem key_eql {x y : List Int} (hx : x.length = 32) (hy : y.length = 32) (w : World) :
    (binOp .eql 41 (.agg (bv x).toArray) (.agg (bv y).toArray)).run Try.prog w = .ok (.bool (decide (x = y))) w := by
  obtain ⟨i, hi⟩ := infoU8
  rw [run_eql_struct, show (10000 : Nat) = 9999 + 1 from rfl, run_equalIn_array w 9999 _ _ Try.underlying41 hi, cellsOfU8, eqItems_any x y w _ (fun i hi => by simp at hi; omega), same32_iff hx hy]
  rfl
end Go.Proofs.Ytgdikmgmpleolaa

/-
  Of part RefCheck: what is needed here.
-/
namespace Go.Proofs.Ytgdikmgmpleolaa
open Go.RowKit
set_option linter.unusedVariables false
theorem noix_zero {l : LLook} (h1 : l.wr.length = 0) (h2 : l.rd.length = 0) : noix l = true := by simp [noix, ixs, h1, h2]
theorem noix_some {l : LLook} (h : ¬ (l.wr.length = 0 ∧ l.rd.length = 0)) : noix l = false := by
  unfold noix ixs
  rw [decide_eq_false_iff_not]
  intro h'
  exact h ⟨by omega, by omega⟩
set_option maxRecDepth 100000 in
set_option maxHeartbeats 8000000 in
theorem refCheck_ (s : TRaw) (x : LTx) (B : Nat) (w : World) (hm : TxIn w B s x) (hB : B ≤ w.heap.size) (hs : Small x.m) (hw : x.m.Wf) :
    Calls Try.prog 13 #[.agg (s.cells x).toArray] w fun e w' => e = .returned (.int .i64 (chk x)) ∧ Below w.heap.size w w' := by
  have hrow := Row.new w 33 (s.cells x)
  have hb0 := (Below.refl w.heap.size w).alloc (Nat.le_refl _) (.cells (s.cells x).toArray 33)
  have HTS := Lib.hid (show (Try.prog.info? 33).map (·.size) = some (s.cells x).length by rw [size_tx, tcells_len hm.m.recent])
  have HTR := Lib.hid (fun (V : World) (h : Row V w.heap.size 33 (s.cells x)) => TxRow.of h hm.m.recent)
  have HT := Lib.hid (fun (V : World) (h : TxIn V B s x) (hz : B ≤ V.heap.size) => refTotal_ s x B V h hz hs)
  have HM0 := Lib.hid (hm.below (hb0.mono hB))
  have rb := HTR.out _ hrow
  have lk := hm.m.keys.len
  have ll := hm.m.looks.len
  have li := hm.m.ins.len
  have lsg := hm.sigs.len
  have hsn := hm.sn
  have k1 := hs.keys
  have k2 := hs.looks
  have k3 := hs.ins
  generalize s.cells x = cs at *
  obtain ⟨d0, d2, d3, d4, d5, d38, d39⟩ := rb
  obtain ⟨SA, sn, sc, KA, kn, kc, IA, n, ic, LA, ln, lc⟩ := s
  dsimp only at d0 d5 d38 d39 lk ll li lsg hsn
  rw [lk] at k1
  rw [ll] at k2
  rw [li] at k3
  unfold maxLen at hsn
  have HLK := Lib.hid lk
  have HLL := Lib.hid ll
  have HLI := Lib.hid li
  obtain ⟨s0, s1⟩ : 0 ≤ x.m.s ∧ x.m.s < 256 := hw.s
  obtain ⟨r0, r1⟩ : 0 ≤ x.m.r ∧ x.m.r < 256 := hw.r
  obtain ⟨o0, o1⟩ : 0 ≤ x.m.o ∧ x.m.o < 256 := hw.o
  have HB1 : Hid (b1 x = decide (x.m.s = 0 ∨ (sn : Int) ≠ x.m.s)) := Lib.hid (by unfold b1; rw [lsg])
  have HB2 : Hid (b2 x.m = decide (x.m.s ≤ x.m.r ∨ (kn : Int) < x.m.s + x.m.o)) := Lib.hid (by unfold b2; rw [lk])
  have HB4 : Hid (b4 x.m = decide (64 < tot x.m)) := Lib.hid rfl
  have HB5 : Hid (b5 x.m = x.m.ins.any (stray kn (tot x.m))) := Lib.hid (by unfold b5; rw [lk])
  have htt := hs.tot
  obtain ⟨tt, htt'⟩ : ∃ tt, tt = tot x.m := ⟨_, rfl⟩
  rw [← htt'] at htt HB4 HB5 HT
  clear htt'
  obtain ⟨v, hv⟩ : ∃ v, v = x.m.s := ⟨_, rfl⟩
  obtain ⟨r, hr⟩ : ∃ v, v = x.m.r := ⟨_, rfl⟩
  obtain ⟨o, ho⟩ : ∃ v, v = x.m.o := ⟨_, rfl⟩
  rw [← hv] at d2 s0 s1 HB1 HB2
  rw [← hr] at d3 r0 r1 HB2
  rw [← ho] at d4 o0 o1 HB2
  have HROW := Lib.hid hrow
  have HB0 := Lib.hid hb0
  have hb1 := HB0.out.alloc (show w.heap.size ≤ (w.alloc (.cells cs.toArray 33)).heap.size from HB0.out.size) (.cells #[Value.int .u8 v, .int .u8 r, .int .u8 o] 24)
  have hbx := (Below.refl (w.alloc (.cells cs.toArray 33)).heap.size (w.alloc (.cells cs.toArray 33))).alloc (Nat.le_refl _) (.cells #[Value.int .u8 v, .int .u8 r, .int .u8 o] 24)
  have RT1 := Lib.hid (HROW.out.below hbx HROW.out.lt)
  have RH1 := Lib.hid (Row.new' (w.alloc (.cells cs.toArray 33)) 24 [Value.int .u8 v, .int .u8 r, .int .u8 o] (g := w.heap.size + 1) (by simp))
  have BW1 := Lib.hid hb1
  have HM1 := Lib.hid (HM0.out.below (hbx.mono (Nat.le_trans hB HB0.out.size)))
  have e5 := (HTR.out _ RT1.out).c5
  dsimp only at e5
  have HS := Lib.hid hs
  have HW := Lib.hid hw
  clear hrow hb0 hm hs hw lk ll li lsg hv hr ho
  go_enter Try.func13, Try.ntmps13
  go_upto_region 3 with fail
  clear hb1 hbx d0 d2 d3 d4 d5 d38 d39 e5 HROW HM0
  generalize (w.alloc (.cells cs.toArray 33)).alloc (.cells #[Value.int .u8 v, .int .u8 r, .int .u8 o] 24) = W1 at *
  go_wp2_with ((with_reducible show wpList _ _ _ ({ dst := some 19, op := Op.load _ _, type := _, pos := _, after := _, guard := _ } :: _) _ _); go_must (refine wpList_load_whole rfl 33 (.tmp 1) rfl w.heap.size 33 cs _ Try.underlying33 rfl HTS.out RT1.out ?_ ?_; go_simp))
  refine (HT.out W1 HM1.out (Nat.le_trans hB BW1.out.size)).mono ?_
  rintro e w2 ⟨rfl, hb2⟩
  have RT2 := Lib.hid (RT1.out.below hb2 RT1.out.lt)
  have RH2 := Lib.hid (RH1.out.below hb2 RH1.out.lt)
  have BW2 := Lib.hid (BW1.out.trans (hb2.mono BW1.out.size))
  have HM2 := Lib.hid (HM1.out.below (hb2.mono (Nat.le_trans hB BW1.out.size)))
  obtain ⟨d0, d2, d3, d4, d5, d38, d39⟩ := HTR.out _ RT2.out
  dsimp only at d0 d5 d38 d39
  have h0 : w2.cell? ⟨w.heap.size + 1, 0, none⟩ = some (.int .u8 v) := RH2.out.cell 0
  have h1 : w2.cell? ⟨w.heap.size + 1, 1, none⟩ = some (.int .u8 r) := RH2.out.cell 1
  have h2 : w2.cell? ⟨w.heap.size + 1, 2, none⟩ = some (.int .u8 o) := RH2.out.cell 2
  clear hb2 RT1 RH1 BW1 HM1 HT d2 d3 d4
  by_cases hz : v = 0
  · have HQ : Hid (brk x 0 = true) := Lib.hid (by show b1 x = true; rw [HB1.out]; simp [hz])
    have e1 : (v == 0) = true := by simp [hz]
    clear hz
    go_wp2_with fail
    go_ret
    exact ⟨ret_err (k := 0) (fun j hj => by omega) HQ.out (by omega) rfl, BW2.out⟩
  have e1 : (v == 0) = false := by simp [hz]
  by_cases hn : (sn : Int) = v
  rotate_left
  · have HQ : Hid (brk x 0 = true) := Lib.hid (by show b1 x = true; rw [HB1.out]; simp [hn])
    have e2 : ((sn : Int) != v) = true := by simp [hn]
    clear hz hn
    go_wp2_with fail
    go_ret
    exact ⟨ret_err (k := 0) (fun j hj => by omega) HQ.out (by omega) rfl, BW2.out⟩
  have HOK1 : Hid (okTo x 1) := Lib.hid (okTo_succ (fun j hj => by omega) (by show b1 x = false; rw [HB1.out]; simp [hz, hn]))
  have e2 : ((sn : Int) != v) = false := by simp [hn]
  clear hz hn
  by_cases hrs : v ≤ r
  · have HQ : Hid (brk x 1 = true) := Lib.hid (by show b2 x.m = true; rw [HB2.out]; simp [hrs])
    go_wp2_with fail
    go_ret
    exact ⟨ret_err (k := 1) HOK1.out HQ.out (by omega) rfl, BW2.out⟩
  by_cases hov : (kn : Int) < v + o
  · have HQ : Hid (brk x 1 = true) := Lib.hid (by show b2 x.m = true; rw [HB2.out]; simp [hov])
    go_wp2_with fail
    go_ret
    exact ⟨ret_err (k := 1) HOK1.out HQ.out (by omega) rfl, BW2.out⟩
  have HOK2 : Hid (okTo x 2) := Lib.hid (okTo_succ HOK1.out (by show b2 x.m = false; rw [HB2.out]; simp; omega))
  go_wp2_with fail
  clear e1 e2 hrs hov h0 h1 h2 d0
  go_loop [6] (fun i => ∃ k : Nat, k ≤ ln ∧ i = .int .i64 k ∧ (x.m.looks.take k).any noix = false) (fun i => ln - (intOf i).toNat)
  case atStart => exact ⟨0, Nat.zero_le _, rfl, by simp⟩
  case round =>
    obtain ⟨k, hk, rfl, hany⟩ := hrel
    have HA := Lib.hid hany
    clear hany
    by_cases hlt : k < ln
    · obtain ⟨a, y, va, vd, rfl, hab, hx, hat⟩ := HM2.out.m.looks.get hlt
      have hx2 := HS.out.wr (List.mem_of_getElem? hx)
      have hc1 : w2.cell? ((a.add (k * 34)).add 32) = some va := hat.cells 32 va (by rw [List.getElem?_append_right (by rw [bv_length, hat.len]; exact Nat.le_refl _), bv_length, hat.len]; rfl)
      have hc2 : w2.cell? ((a.add (k * 34)).add 33) = some vd := hat.cells 33 vd (by rw [List.getElem?_append_right (by rw [bv_length, hat.len]; omega), bv_length, hat.len]; rfl)
      obtain ⟨A1, c1, rfl, _, _, _⟩ := hat.wr.is
      obtain ⟨A2, c2, rfl, _, _, _⟩ := hat.rd.is
      have e1 : w2.cell? ⟨(a.add (k * 34)).block, (a.add (k * 34)).off + 32, none⟩ = some (.slice A1 y.wr.length c1) := hc1
      have e2 : w2.cell? ⟨(a.add (k * 34)).block, (a.add (k * 34)).off + 33, none⟩ = some (.slice A2 y.rd.length c2) := hc2
      obtain ⟨g1, g2⟩ := hx2
      have HX := Lib.hid hx
      clear hx hat hc1 hc2
      have hnz := fun a b => noix_zero (l := y) a b
      have hns := fun a => noix_some (l := y) a
      have HNZ := Lib.hid hnz
      have HNS := Lib.hid hns
      clear hnz hns
      generalize y.wr.length = n1 at *
      generalize y.rd.length = n2 at *
      have step : Hid (¬ (n1 = 0 ∧ n2 = 0) → (x.m.looks.take (k + 1)).any noix = false) := Lib.hid fun h => by rw [any_take_succ HX.out, HA.out, HNS.out h]; rfl
      by_cases hw1 : n1 = 0
      · have q1 : ((n1 : Int) == 0) = true := by simp [hw1]
        by_cases hw2 : n2 = 0
        · have q2 : ((n2 : Int) == 0) = true := by simp [hw2]
          have HQ : Hid (brk x 2 = true) := Lib.hid (any_hit HX.out (HNZ.out hw1 hw2))
          clear hw1 hw2
          go_wp2_with fail
          go_ret
          exact ⟨ret_err (k := 2) HOK2.out HQ.out (by omega) rfl, BW2.out⟩
        · have q2 : ((n2 : Int) == 0) = false := by simp [hw2]
          have HP := Lib.hid (step.out (fun h => hw2 h.2))
          clear hw1 hw2
          go_wp2_with fail
          go_round
          case rel => exact ⟨k + 1, by omega, by go_num, HP.out⟩
          case measure => simp [intOf]; omega
      · have q1 : ((n1 : Int) == 0) = false := by simp [hw1]
        have HP := Lib.hid (step.out (fun h => hw1 h.1))
        clear hw1
        go_wp2_with fail
        go_round
        case rel => exact ⟨k + 1, by omega, by go_num, HP.out⟩
        case measure => simp [intOf]; omega
    have hkn : k = ln := by omega
    have HOK3 : Hid (okTo x 3) := Lib.hid (okTo_succ HOK2.out (by
      have h1 := HA.out
      rw [hkn, List.take_of_length_le (by rw [HLL.out]; exact Nat.le_refl _)] at h1
      exact h1))
    clear hkn HA
    by_cases h64 : (64 : Int) < tt
    · have HQ : Hid (brk x 3 = true) := Lib.hid (by show b4 x.m = true; rw [HB4.out]; simp; omega)
      go_wp2_with fail
      go_ret
      exact ⟨ret_err (k := 3) HOK3.out HQ.out (by omega) rfl, BW2.out⟩
    have HOK4 : Hid (okTo x 4) := Lib.hid (okTo_succ HOK3.out (by show b4 x.m = false; rw [HB4.out]; simp; omega))
    go_wp2_with fail
    clear hk hlt h64
    go_loopw [7] (fun i wr => ∃ k : Nat, k ≤ n ∧ i = .int .i64 k ∧ (x.m.ins.take k).any (stray kn tt) = false ∧ Below w2.heap.size w2 wr) (fun i _ => n - (intOf i).toNat)
    case atStart => exact ⟨0, Nat.zero_le _, rfl, by simp, Below.refl _ _⟩
    case round =>
      obtain ⟨i, hi, rfl, hany, hbw⟩ := hrel
      have HA := Lib.hid hany
      have HBW := Lib.hid hbw
      have c38 : wr.cell? ⟨w.heap.size, 38, none⟩ = some (.slice IA n ic) := (hbw.cell (p := ⟨w.heap.size, 38, none⟩) RT2.out.lt).trans d38
      have c5 : wr.cell? ⟨w.heap.size, 5, none⟩ = some (.slice KA kn kc) := (hbw.cell (p := ⟨w.heap.size, 5, none⟩) RT2.out.lt).trans d5
      have HMW := Lib.hid (HM2.out.m.below (hbw.mono (Nat.le_trans hB BW2.out.size)))
      have BWR := Lib.hid (BW2.out.trans (hbw.mono BW2.out.size))
      clear hany hbw
      by_cases hlt : i < n
      · obtain ⟨a, y, va, vd, rfl, hab, hx, hat⟩ := HMW.out.ins.get hlt
        obtain ⟨⟨p0, p1⟩, hacb, _⟩ := HW.out.ins y (List.mem_of_getElem? hx)
        have hacl := HS.out.acc y (List.mem_of_getElem? hx)
        obtain ⟨A1, c1, rfl, hs1, hn1, hn2⟩ := hat.acc.is
        obtain ⟨A2, c2, rfl, _, _, _⟩ := hat.dat.is
        have HX := Lib.hid hx
        have HACB := Lib.hid hacb
        have HSE := Lib.hid hs1
        have HL := Lib.hid (size_in y.p (Value.slice A1 y.acc.length c1) (Value.slice A2 y.dat.length c2))
        have HAT := Lib.hid hat.cells
        have H1 := Lib.hid (inCells_one (p := y.p) hat.acc hat.dat)
        have HL3 : Hid ((inCells y.p (Value.slice A1 y.acc.length c1) (Value.slice A2 y.dat.length c2)).length = 3) := Lib.hid rfl
        have HIC : Hid (∀ (V : World) (g : Nat), Row V g 47 (inCells y.p (Value.slice A1 y.acc.length c1) (Value.slice A2 y.dat.length c2)) → V.cell? ⟨g, 0, none⟩ = some (.int .u8 y.p) ∧ V.cell? ⟨g, 1, none⟩ = some (.slice A1 y.acc.length c1)) := Lib.hid fun V g h => ⟨(in_cells h).1, (in_cells h).2.1⟩
        have HST : Hid (stray kn tt y = (decide (y.p = 0 ∨ (kn : Int) ≤ y.p) || y.acc.any (astray tt))) := Lib.hid rfl
        have HNX : Hid (stray kn tt y = false → (x.m.ins.take (i + 1)).any (stray kn tt) = false) := Lib.hid fun h => by rw [any_take_succ HX.out, HA.out, h]; rfl
        have HYS : Hid (stray kn tt y = true → brk x 4 = true) := Lib.hid fun h => by show b5 x.m = true; rw [HB5.out]; exact any_hit HX.out h
        clear hx hacb hs1 hat HA
        generalize inCells y.p (Value.slice A1 y.acc.length c1) (Value.slice A2 y.dat.length c2) = lc' at *
        generalize stray kn tt y = sy at *
        obtain ⟨p, hp⟩ : ∃ p, p = y.p := ⟨_, rfl⟩
        rw [← hp] at p0 p1 HIC HST
        clear hp
        obtain ⟨m, hm⟩ : ∃ m, m = y.acc.length := ⟨_, rfl⟩
        rw [← hm] at hacl HIC HSE hn1
        have HM := Lib.hid hm
        clear hm
        by_cases hz : p = 0
        · have e1 : (p == 0) = true := by simp [hz]
          have HQ := Lib.hid (HYS.out (by rw [HST.out]; simp [hz]))
          clear hz
          go_wp2_with (first
            | ((with_reducible show wpList _ _ _ ({ dst := some 92, op := Op.load _ _, type := _, pos := _, after := _, guard := _ } :: _) _ _); go_must (refine wpList_load_at rfl 47 (.tmp 91) rfl (a.add (i * 3)) lc' _ Try.underlying47 rfl HL.out HAT.out ?_ ?_; go_simp))
            | ((with_reducible show wpList _ _ _ ({ dst := none, op := Op.store 47 _ _, type := _, pos := _, after := _, guard := _ } :: _) _ _); go_must (refine wpList_store_new rfl 47 (.tmp 8) (.tmp 92) rfl lc' HL.out H1.out (by rw [HL3.out]; rfl) ?_ ?_ ?_; go_simp; go_simp; intro w3 hr3 hb3 hz3; obtain ⟨i0, i1⟩ := HIC.out w3 _ hr3; have R3 := Lib.hid hr3; have B3 := Lib.hid hb3; clear hr3 hb3 hz3)))
          go_ret
          exact ⟨ret_err (k := 4) HOK4.out HQ.out (by omega) rfl, BWR.out.trans (B3.out.mono BWR.out.size)⟩
        have e1 : (p == 0) = false := by simp [hz]
        by_cases hov : (kn : Int) ≤ p
        · have HQ := Lib.hid (HYS.out (by rw [HST.out]; simp [hov]))
          clear hz
          go_wp2_with (first
            | ((with_reducible show wpList _ _ _ ({ dst := some 92, op := Op.load _ _, type := _, pos := _, after := _, guard := _ } :: _) _ _); go_must (refine wpList_load_at rfl 47 (.tmp 91) rfl (a.add (i * 3)) lc' _ Try.underlying47 rfl HL.out HAT.out ?_ ?_; go_simp))
            | ((with_reducible show wpList _ _ _ ({ dst := none, op := Op.store 47 _ _, type := _, pos := _, after := _, guard := _ } :: _) _ _); go_must (refine wpList_store_new rfl 47 (.tmp 8) (.tmp 92) rfl lc' HL.out H1.out (by rw [HL3.out]; rfl) ?_ ?_ ?_; go_simp; go_simp; intro w3 hr3 hb3 hz3; obtain ⟨i0, i1⟩ := HIC.out w3 _ hr3; have R3 := Lib.hid hr3; have B3 := Lib.hid hb3; clear hr3 hb3 hz3)))
          go_ret
          exact ⟨ret_err (k := 4) HOK4.out HQ.out (by omega) rfl, BWR.out.trans (B3.out.mono BWR.out.size)⟩
        have HSY : Hid (sy = y.acc.any (astray tt)) := Lib.hid (by rw [HST.out, decide_eq_false (by simp [hz, hov])]; rfl)
        clear hz
        go_wp2_with (first
          | ((with_reducible show wpList _ _ _ ({ dst := some 92, op := Op.load _ _, type := _, pos := _, after := _, guard := _ } :: _) _ _); go_must (refine wpList_load_at rfl 47 (.tmp 91) rfl (a.add (i * 3)) lc' _ Try.underlying47 rfl HL.out HAT.out ?_ ?_; go_simp))
          | ((with_reducible show wpList _ _ _ ({ dst := none, op := Op.store 47 _ _, type := _, pos := _, after := _, guard := _ } :: _) _ _); go_must (refine wpList_store_new rfl 47 (.tmp 8) (.tmp 92) rfl lc' HL.out H1.out (by rw [HL3.out]; rfl) ?_ ?_ ?_; go_simp; go_simp; intro w3 hr3 hb3 hz3; obtain ⟨i0, i1⟩ := HIC.out w3 _ hr3; have R3 := Lib.hid hr3; have B3 := Lib.hid hb3; clear hr3 hb3 hz3)))
        have HS3 := Lib.hid (HSE.out.below (B3.out.mono (Nat.le_trans hB BWR.out.size)))
        go_loop [9] (fun jv => ∃ j : Nat, j ≤ m ∧ jv = .int .i64 j ∧ (y.acc.take j).any (astray tt) = false) (fun jv => m - (intOf jv).toNat)
        case atStart => exact ⟨0, Nat.zero_le _, rfl, by simp⟩
        case round =>
          obtain ⟨j, hj, rfl, hja⟩ := hrel
          have HJ := Lib.hid hja
          clear hja
          by_cases hjl : j < m
          · obtain ⟨b, rfl, hbb, hcb⟩ := HS3.out.byte hjl
            have hzx := getD_at (l := y.acc) (k := j) (by have := HM.out; omega)
            obtain ⟨z0, z1⟩ := HACB.out _ (List.mem_of_getElem? hzx)
            have HZX := Lib.hid hzx
            clear hzx
            generalize y.acc.getD j 0 = z at *
            by_cases hst : (tt : Int) ≤ z
            · have HQ := Lib.hid (HYS.out (by rw [HSY.out]; exact any_hit HZX.out (by simp [astray, hst])))
              go_wp2_with fail
              go_ret
              exact ⟨ret_err (k := 4) HOK4.out HQ.out (by omega) rfl, BWR.out.trans (B3.out.mono BWR.out.size)⟩
            · have HP : Hid ((y.acc.take (j + 1)).any (astray tt) = false) := Lib.hid (by rw [any_take_succ HZX.out, HJ.out]; simp [astray]; omega)
              go_wp2_with fail
              go_round
              case rel => exact ⟨j + 1, by omega, by go_num, HP.out⟩
              case measure => simp [intOf]; omega
          · have hjm : j = m := by omega
            have HP := Lib.hid (HNX.out (by
              rw [HSY.out]
              have h1 := HJ.out
              rwa [hjm, List.take_of_length_le (by rw [HM.out]; exact Nat.le_refl _)] at h1))
            clear hjm
            go_wp2_with fail
            go_roundw
            case rel => exact ⟨i + 1, by omega, by go_num, HP.out, HBW.out.trans (B3.out.mono HBW.out.size)⟩
            case measure => simp [intOf]; omega
      have hin : i = n := by omega
      have HOK5 : Hid (okTo x 5) := Lib.hid (okTo_succ HOK4.out (by
        show b5 x.m = false
        rw [HB5.out]
        have h1 := HA.out
        rwa [hin, List.take_of_length_le (by rw [HLI.out]; exact Nat.le_refl _)] at h1))
      clear hin HA
      go_wp2_with fail
      clear hlt hi HOK4 HOK3 HOK2 HOK1 HBW
      go_loopw [10] (fun qv wz => ∃ (q j : Nat), q ≤ kn ∧ qv = .int .i64 q ∧ (x.m.keys.take q).Nodup ∧ wz = wr.drewN j) (fun qv _ => kn - (intOf qv).toNat)
      case atStart => exact ⟨0, 0, Nat.zero_le _, rfl, by simp, rfl⟩
      case round =>
        obtain ⟨q, j, hq, rfl, hnd, rfl⟩ := hrel
        have HND := Lib.hid hnd
        clear hnd
        by_cases hql : q < kn
        · obtain ⟨a, y, ha, hab, hx, hat⟩ := HMW.out.keys.get hql
          obtain rfl : KA = some a := ha
          have CA := Lib.hid hat.cells
          have HX := Lib.hid hx
          have HYL := Lib.hid hat.len
          have HSX := Lib.hid (show (Try.prog.info? 41).map (·.size) = some (bv y).length by rw [size_key, bv_length, hat.len])
          obtain ⟨X, hX⟩ : ∃ X, X = bv y := ⟨_, rfl⟩
          rw [← hX] at CA HSX
          have HXX := Lib.hid hX
          clear hat hx hX
          go_wp2_with fail
          go_loopw [11] (fun uv wz => ∃ (u j : Nat), u ≤ q ∧ uv = .int .i64 u ∧ y ∉ x.m.keys.take u ∧ wz = wr.drewN j) (fun uv _ => q - (intOf uv).toNat)
          case atStart => exact ⟨0, j, Nat.zero_le _, rfl, by simp, rfl⟩
          case round =>
            obtain ⟨u, j2, hu, rfl, hnot, rfl⟩ := hrel
            have HN := Lib.hid hnot
            clear hnot
            by_cases hul : u < q
            · obtain ⟨b, y2, hb, _, hx2, hat2⟩ := HMW.out.keys.get (k := u) (by dsimp only; omega)
              obtain rfl : a = b := Option.some.inj hb
              have hukn : u < kn := by omega
              have CB := Lib.hid hat2.cells
              have HX2 := Lib.hid hx2
              have HSY := Lib.hid (show (Try.prog.info? 41).map (·.size) = some (bv y2).length by rw [size_key, bv_length, hat2.len])
              have NQ : ∀ w, (binOp .eql 41 (.agg X.toArray) (.agg (bv y2).toArray)).run Try.prog w = .ok (.bool (decide (y = y2))) w := fun w => by rw [HXX.out]; exact key_eql HYL.out hat2.len w
              generalize bv y2 = Y at *
              clear hx2 hat2 hb
              by_cases hyy : y = y2
              · have HQ : Hid (brk x 5 = true) := Lib.hid (by
                  show b6 x.m = true
                  refine decide_eq_true (twice_of_take HX.out ?_)
                  rw [hyy]
                  exact List.mem_of_getElem? (i := u) (by rw [List.getElem?_take_of_lt hul]; exact HX2.out))
                rw [decide_eq_true hyy] at NQ
                clear hyy
                go_wp2_with fail
                refine wp_region_quiet_lit (by kernel_rfl) (by kernel_rfl) ?_
                repeat (first
                  | ((with_reducible show wpQuiet _ _ _ _ ({ dst := some 133, op := Op.load _ _, type := _, pos := _, after := _, guard := _ } :: _) _); go_must (refine quiet_load_at (by kernel_rfl) 41 (.tmp 132) rfl (a.add (q * 32)) X _ Try.underlying41 rfl HSX.out (by rintro _ ⟨nq, rfl⟩; exact CA.out) ?_ ?_; go_simp; go_simp))
                  | ((with_reducible show wpQuiet _ _ _ _ ({ dst := some 139, op := Op.load _ _, type := _, pos := _, after := _, guard := _ } :: _) _); go_must (refine quiet_load_at (by kernel_rfl) 41 (.tmp 138) rfl (a.add (u * 32)) Y _ Try.underlying41 rfl HSY.out (by rintro _ ⟨nq, rfl⟩; exact CB.out) ?_ ?_; go_simp; go_simp))
                  | go_big_quiet_step (fail))
                refine wpQuiet_nil ?_
                intro nq
                go_wp2_with fail
                go_ret
                exact ⟨ret_err (k := 5) HOK5.out HQ.out (by omega) rfl, below_drewN BWR.out _⟩
              · have HQ : Hid (y ∉ x.m.keys.take (u + 1)) := Lib.hid (by
                  rw [List.take_add_one, HX2.out, Option.toList_some, List.mem_append, List.mem_singleton]
                  exact fun h => h.elim HN.out hyy)
                rw [decide_eq_false hyy] at NQ
                clear hyy
                go_wp2_with fail
                refine wp_region_quiet_lit (by kernel_rfl) (by kernel_rfl) ?_
                repeat (first
                  | ((with_reducible show wpQuiet _ _ _ _ ({ dst := some 133, op := Op.load _ _, type := _, pos := _, after := _, guard := _ } :: _) _); go_must (refine quiet_load_at (by kernel_rfl) 41 (.tmp 132) rfl (a.add (q * 32)) X _ Try.underlying41 rfl HSX.out (by rintro _ ⟨nq, rfl⟩; exact CA.out) ?_ ?_; go_simp; go_simp))
                  | ((with_reducible show wpQuiet _ _ _ _ ({ dst := some 139, op := Op.load _ _, type := _, pos := _, after := _, guard := _ } :: _) _); go_must (refine quiet_load_at (by kernel_rfl) 41 (.tmp 138) rfl (a.add (u * 32)) Y _ Try.underlying41 rfl HSY.out (by rintro _ ⟨nq, rfl⟩; exact CB.out) ?_ ?_; go_simp; go_simp))
                  | go_big_quiet_step (fail))
                refine wpQuiet_nil ?_
                intro nq
                go_wp2_with fail
                go_roundw
                case rel => exact ⟨u + 1, j2 + nq, by omega, by go_num, HQ.out, by simp⟩
                case measure => simp [intOf]; omega
            · have huq : u = q := by omega
              have HP : Hid ((x.m.keys.take (q + 1)).Nodup) := Lib.hid ((nodup_take_succ HX.out).2 ⟨HND.out, huq ▸ HN.out⟩)
              clear huq
              go_wp2_with fail
              go_roundw
              case rel => exact ⟨q + 1, j2, by omega, by go_num, HP.out, rfl⟩
              case measure => simp [intOf]; omega
        · have hqn : q = kn := by omega
          have HE : Hid (chk x = 0) := Lib.hid (chk_none (okTo_succ HOK5.out (by
            show b6 x.m = false
            refine decide_eq_false (fun h => h ?_)
            have h1 := HND.out
            rwa [hqn, List.take_of_length_le (by rw [HLK.out]; exact Nat.le_refl _)] at h1)))
          clear hqn
          go_wp2_with fail
          go_ret
          exact ⟨by rw [HE.out]; rfl, below_drewN BWR.out j⟩
end Go.Proofs.Ytgdikmgmpleolaa

/-
  Of part Great5: what is needed here.
-/
namespace Go.Proofs.Ytgdikmgmpleolaa
open Go.RowKit
set_option linter.unusedVariables false
set_option maxRecDepth 100000 in
set_option maxHeartbeats 400000 in
theorem great5 (s : TRaw) (x : LTx) (B : Nat) (w : World) (hm : TxIn w B s x) (hB : B ≤ w.heap.size) (hs : Sized x.m) :
    Calls Try.prog 7 #[.agg (s.cells x).toArray] w fun e w' => (∃ b, e = .returned (.bool b) ∧ (b = false → x.sigs.length ≤ 300 ∧ total x.m < 3000)) ∧ Below w.heap.size w w' := by
  obtain ⟨SA, sn, sc, q⟩ := s
  have hsl := hm.sigs.len
  have hsc := hm.sn
  dsimp only at hsl hsc
  have hrow := Row.new w 33 (TRaw.cells ⟨SA, sn, sc, q⟩ x)
  have hb0 := (Below.refl w.heap.size w).alloc (Nat.le_refl _) (.cells (TRaw.cells ⟨SA, sn, sc, q⟩ x).toArray 33)
  have c0 : (w.alloc (.cells (TRaw.cells ⟨SA, sn, sc, q⟩ x).toArray 33)).cell? ⟨w.heap.size, 0, none⟩ = some (.slice SA sn sc) := hrow.cell 0
  have HG := Lib.hid (great_ q x.m B _ (hm.below (hb0.mono hB)).m (Nat.le_trans hB hb0.size) hs)
  have HSM := Lib.hid (show (Try.prog.info? 31).map (·.size) = some (q.cells x.m).length by rw [size_msg, cells_len hm.m.recent])
  have HCM := Lib.hid (tcells_m (s := ⟨SA, sn, sc, q⟩) (x := x))
  dsimp only at HCM
  have HSL := Lib.hid hsl
  unfold maxLen at hsc
  generalize TRaw.cells ⟨SA, sn, sc, q⟩ x = cs at *
  have HROW := Lib.hid hrow
  have HB0 := Lib.hid hb0
  clear hrow hb0 hm hsl
  by_cases h : 300 < (sn : Int)
  · go_enter Try.func7, Try.ntmps7
    go_wp2_with fail
    go_ret
    exact ⟨⟨true, rfl, fun h => by cases h⟩, HB0.out⟩
  · go_enter Try.func7, Try.ntmps7
    go_wp2_with (first
      | ((with_reducible show wpList _ _ _ ({ dst := some 9, op := Op.load _ _, type := _, pos := _, after := _, guard := _ } :: _) _ _); go_must (refine wpList_load_atg (by kernel_rfl) 31 (.tmp 8) rfl ⟨w.heap.size, 1, none⟩ (q.cells x.m) _ Try.underlying31 rfl HSM.out (fun j u hu => by rw [addr_row, HROW.out.cell, HCM.out]; exact hu) ?_ ?_; go_simp)))
    refine HG.out.mono ?_
    rintro e w1 ⟨⟨b, rfl, hgr⟩, hb1⟩
    go_wp2_with fail
    go_ret
    exact ⟨⟨b, rfl, fun hb => ⟨by have := HSL.out; omega, hgr hb⟩⟩, HB0.out.trans (hb1.mono HB0.out.size)⟩
end Go.Proofs.Ytgdikmgmpleolaa

/-
  Of part CheckWalk: what is needed here.
-/
namespace Go.Proofs.Ytgdikmgmpleolaa
open Go.RowKit
set_option linter.unusedVariables false
set_option maxRecDepth 100000 in
set_option maxHeartbeats 4000000 in
theorem check_walk (s : TRaw) (x : LTx) (w : World) (hm : TxIn w w.heap.size s x) (hs : Sized x.m) (hwf : x.m.Wf) :
    Calls Try.prog 3 #[.agg (s.cells x).toArray] w fun e w' => e = .returned (.bool true) ∧ Below w.heap.size w w' := by
  have hrow := Row.new w 33 (s.cells x)
  have hb0 := (Below.refl w.heap.size w).alloc (Nat.le_refl _) (.cells (s.cells x).toArray 33)
  have hm0 := hm.below hb0
  have HG := Lib.hid (great5 s x w.heap.size _ hm0 hb0.size hs)
  have HTS := Lib.hid (show (Try.prog.info? 33).map (·.size) = some (s.cells x).length by rw [size_tx, tcells_len hm.m.recent])
  have HROW := Lib.hid hrow
  have HM0 := Lib.hid hm0
  have HB0 := Lib.hid hb0
  have HWF := Lib.hid hwf
  clear hrow hb0 hm0 hm hs hwf
  go_enter Try.func3, Try.ntmps3
  go_wp2_with ((with_reducible show wpList _ _ _ ({ dst := some 4, op := Op.load _ _, type := _, pos := _, after := _, guard := _ } :: _) _ _); go_must (refine wpList_load_whole rfl 33 (.tmp 1) rfl w.heap.size 33 (s.cells x) _ Try.underlying33 rfl HTS.out HROW.out ?_ ?_; go_simp))
  refine HG.out.mono ?_
  rintro e w1 ⟨⟨b, rfl, hgr⟩, hb1⟩
  cases b
  rotate_left
  · have hbw := HB0.out.trans (hb1.mono HB0.out.size)
    have HBW := Lib.hid hbw
    clear hbw hb1 hgr
    go_wp2_with fail
    refine (lives5 _).mono ?_
    rintro e w2 ⟨rfl, hb2⟩
    go_wp2_with fail
    go_ret
    exact ⟨rfl, HBW.out.trans (hb2.mono HBW.out.size)⟩
  obtain ⟨hsg, ht⟩ := hgr rfl
  have HSM := Lib.hid (Small.of ht)
  have hsz : x.m.keys.length ≤ 65535 ∧ x.m.ins.length ≤ 65535 ∧ x.m.looks.length ≤ 65535 := by unfold total at ht; omega
  have hix : ∀ i ∈ x.m.ins, i.acc.length ≤ 65535 ∧ i.dat.length ≤ 65535 := fun i hi => by have := size_mem hi; unfold total at ht; omega
  have hlx : ∀ l ∈ x.m.looks, l.wr.length ≤ 65535 ∧ l.rd.length ≤ 65535 := fun l hl => by have := lsize_mem hl; unfold total at ht; omega
  have HR1 := Lib.hid (HROW.out.below hb1 HROW.out.lt)
  have HB1 := Lib.hid (HB0.out.trans (hb1.mono HB0.out.size))
  have HM1 := Lib.hid (HM0.out.below (hb1.mono HB0.out.size))
  have HSG := Lib.hid (show x.sigs.length ≤ 65535 by omega)
  have HT := Lib.hid (twinTx s x w.heap.size w1 HM1.out HB1.out.size HSG.out hsz hix hlx)
  have HSZ := Lib.hid hsz
  have HXX := Lib.hid (And.intro hix hlx)
  clear hgr ht hsz hix hlx hb1 HG HM0 hsg HROW
  go_wp2_with ((with_reducible show wpList _ _ _ ({ dst := some 7, op := Op.load _ _, type := _, pos := _, after := _, guard := _ } :: _) _ _); go_must (refine wpList_load_whole rfl 33 (.tmp 1) rfl w.heap.size 33 (s.cells x) _ Try.underlying33 rfl HTS.out HR1.out ?_ ?_; go_simp))
  refine HT.out.mono ?_
  rintro e w2 ⟨s2, lo, rfl, hlo, hv, htw, hb2⟩
  have HTS2 := Lib.hid (show (Try.prog.info? 33).map (·.size) = some (s2.cells x).length by rw [size_tx, tcells_len hv.in_.m.recent])
  have HTL2 := Lib.hid (tcells_len (s := s2) (x := x) hv.in_.m.recent)
  have HV := Lib.hid hv.in_
  have HTW := Lib.hid htw
  have B2 := Lib.hid hb2
  clear hv htw hlo hb2 HT
  go_upto_region 4 with ((with_reducible show wpList _ _ _ ({ dst := none, op := Op.store 33 _ _, type := _, pos := _, after := _, guard := _ } :: _) _ _); go_must (refine wpList_store_new rfl 33 (.tmp 3) (.tmp 8) rfl (s2.cells x) HTS2.out tcells_one (by rw [HTL2.out]; rfl) ?_ ?_ ?_; go_simp; go_simp; intro w3 hr3 hb3 hz3; have R3 := Lib.hid hr3; have B3 := Lib.hid hb3; clear hr3 hb3 hz3))
  have B02 : Hid (Below w.heap.size w w2) := Lib.hid (HB1.out.trans (B2.out.mono HB1.out.size))
  have E0 : Hid (Below w2.heap.size w2 w3.drew) := Lib.hid (B3.out.drew)
  have R10 : Hid (Row w3.drew w.heap.size 33 (s.cells x)) := Lib.hid ((HR1.out.below B2.out HR1.out.lt).below E0.out (HR1.out.below B2.out HR1.out.lt).lt)
  have R20 : Hid (Row w3.drew w2.heap.size 33 (s2.cells x)) := Lib.hid R3.out.drew
  have M0 : Hid (TxIn w3.drew w.heap.size s x) := Lib.hid ((HM1.out.below (B2.out.mono HB1.out.size)).below (E0.out.mono B02.out.size))
  have T0 : Hid (TwTx w3.drew s2 x) := Lib.hid (HTW.out.below E0.out)
  have N0 : Hid (TxIn w3.drew w2.heap.size s2 x) := Lib.hid (HV.out.below E0.out)
  have HSS : Hid (∀ V : World, Row V w.heap.size 33 (s.cells x) → Row V w2.heap.size 33 (s2.cells x) → V.rangeAt w.heap.size 0 (s.cells x) ∧ V.rangeAt w2.heap.size 0 (s2.cells x)) := Lib.hid fun V h h' => ⟨fun j u hu => by rw [h.cell, Nat.zero_add]; exact hu, fun j u hu => by rw [h'.cell, Nat.zero_add]; exact hu⟩
  have S0 := Lib.hid (HSS.out _ R10.out R20.out)
  refine wp_region_held_drew (S := fun V => V.rangeAt w.heap.size 0 (s.cells x) ∧ V.rangeAt w2.heap.size 0 (s2.cells x)) (by kernel_rfl) S0.out (fun _ => ?_)
  clear HR1 R3 HM1 HTW HV
  have HNB : Hid (w2.heap.size ≤ w3.drew.heap.size) := Lib.hid E0.out.size
  generalize w3.drew = V0 at *
  have HCA : Hid (∀ V : World, TxIn V w2.heap.size s2 x → w2.heap.size ≤ V.heap.size → Calls Try.prog 10 #[.agg (s2.cells x).toArray] V fun e w' => e = .returned (.int .i64 (tot x.m : Nat)) ∧ Below V.heap.size V w') := Lib.hid fun V h hb => total_ s2 x _ V h hb HSM.out
  have HCB : Hid (∀ V : World, TxIn V w.heap.size s x → w.heap.size ≤ V.heap.size → Calls Try.prog 11 #[.agg (s.cells x).toArray] V fun e w' => e = .returned (.int .i64 (tot x.m : Nat)) ∧ Below V.heap.size V w') := Lib.hid fun V h hb => refTotal_ s x _ V h hb HSM.out
  have HCC : Hid (∀ V : World, TxIn V w2.heap.size s2 x → w2.heap.size ≤ V.heap.size → Calls Try.prog 12 #[.agg (s2.cells x).toArray] V fun e w' => e = .returned (.int .i64 (chk x)) ∧ Below V.heap.size V w') := Lib.hid fun V h hb => check_ s2 x _ V h hb HSM.out HWF.out
  have HCD : Hid (∀ V : World, TxIn V w.heap.size s x → w.heap.size ≤ V.heap.size → Calls Try.prog 13 #[.agg (s.cells x).toArray] V fun e w' => e = .returned (.int .i64 (chk x)) ∧ Below V.heap.size V w') := Lib.hid fun V h hb => refCheck_ s x _ V h hb HSM.out HWF.out
  have HCE : Hid (∀ V : World, TwTx V s2 x → TxIn V w.heap.size s x → w.heap.size ≤ V.heap.size → Calls Try.prog 14 #[.agg (s2.cells x).toArray, .agg (s.cells x).toArray] V fun e w' => e = .returned (.bool true) ∧ Below V.heap.size V w') := Lib.hid fun V h h' hb => leftTx s s2 x w.heap.size V h h' hb HSG.out HSZ.out HXX.out.1 HXX.out.2
  generalize s.cells x = ca at *
  generalize s2.cells x = cb at *
  generalize tot x.m = tt at *
  generalize chk x = cx at *
  refine takeL (i := 0) (v := .agg (cb).toArray) rfl (by kernel_rfl) (by kernel_rfl) (by kernel_rfl) (fun _ _ _ h => h) (yieldsIf_load_mid (by kernel_rfl) 33 (.tmp 3) rfl w2.heap.size 0 (by go_simp) (cb) _ (fun w hw => hw.2) Try.underlying33 rfl HTS2.out) S0.out ?_
  try simp only [Act.put, List.setIfInBounds_toArray, List.set_cons_zero, List.set_cons_succ]
  refine takeL (i := 2) (v := .agg (ca).toArray) rfl (by kernel_rfl) (by kernel_rfl) (by kernel_rfl) (fun _ _ _ h => h) (yieldsIf_load_mid (by kernel_rfl) 33 (.tmp 1) rfl w.heap.size 0 (by go_simp) (ca) _ (fun w hw => hw.1) Try.underlying33 rfl HTS.out) S0.out ?_
  try simp only [Act.put, List.setIfInBounds_toArray, List.set_cons_zero, List.set_cons_succ]
  refine readyL (i := 1) rfl (by kernel_rfl) (by kernel_rfl) fun K hK => ?_
  go_simp
  refine (HCA.out V0 N0.out HNB.out).mono ?_
  rintro e V1 ⟨rfl, hb⟩
  simp only []
  have E1 := Lib.hid (E0.out.trans (hb.mono HNB.out))
  have R11 := Lib.hid (R10.out.below hb R10.out.lt)
  have R21 := Lib.hid (R20.out.below hb R20.out.lt)
  have M1 := Lib.hid (M0.out.below (hb.mono (Nat.le_trans B02.out.size HNB.out)))
  have T1 := Lib.hid (T0.out.below (hb.mono (Nat.le_refl _)))
  have N1 := Lib.hid (N0.out.below (hb.mono HNB.out))
  have HNB := Lib.hid (Nat.le_trans HNB.out hb.size)
  have S1 := Lib.hid (HSS.out _ R11.out R21.out)
  clear hb
  refine hK.out _ _ S1.out ?_
  clear hK K
  try simp only [Act.put, List.setIfInBounds_toArray, List.set_cons_zero, List.set_cons_succ]
  refine readyL (i := 3) rfl (by kernel_rfl) (by kernel_rfl) fun K hK => ?_
  go_simp
  refine (HCB.out V1 M1.out (Nat.le_trans B02.out.size HNB.out)).mono ?_
  rintro e V2 ⟨rfl, hb⟩
  simp only []
  have E2 := Lib.hid (E1.out.trans (hb.mono HNB.out))
  have R12 := Lib.hid (R11.out.below hb R11.out.lt)
  have R22 := Lib.hid (R21.out.below hb R21.out.lt)
  have M2 := Lib.hid (M1.out.below (hb.mono (Nat.le_trans B02.out.size HNB.out)))
  have T2 := Lib.hid (T1.out.below (hb.mono (Nat.le_refl _)))
  have N2 := Lib.hid (N1.out.below (hb.mono HNB.out))
  have HNB := Lib.hid (Nat.le_trans HNB.out hb.size)
  have S2 := Lib.hid (HSS.out _ R12.out R22.out)
  clear hb
  refine hK.out _ _ S2.out ?_
  clear hK K
  try simp only [Act.put, List.setIfInBounds_toArray, List.set_cons_zero, List.set_cons_succ]
  refine takeL (i := 4) (v := .bool true) rfl (by kernel_rfl) (by kernel_rfl) (by kernel_rfl) (fun _ _ _ h => h) (Or.inl ⟨by kernel_rfl, fun w hw => by go_simp⟩) S2.out ?_
  try simp only [Act.put, List.setIfInBounds_toArray, List.set_cons_zero, List.set_cons_succ]
  refine takeL (i := 5) (v := ?_) rfl (by kernel_rfl) (by kernel_rfl) (by kernel_rfl) (fun _ _ _ h => h) (Or.inl ⟨by rfl, ?_⟩) S2.out ?_
  rotate_left
  · intro w hw
    try dsimp only at hw
    go_simp
    try with_reducible rfl
  try simp only [Act.put, List.setIfInBounds_toArray, List.set_cons_zero, List.set_cons_succ]
  refine takeL (i := 6) (v := .agg (cb).toArray) rfl (by kernel_rfl) (by kernel_rfl) (by kernel_rfl) (fun _ _ _ h => h) (yieldsIf_load_mid (by kernel_rfl) 33 (.tmp 3) rfl w2.heap.size 0 (by go_simp) (cb) _ (fun w hw => hw.2) Try.underlying33 rfl HTS2.out) S2.out ?_
  try simp only [Act.put, List.setIfInBounds_toArray, List.set_cons_zero, List.set_cons_succ]
  refine takeL (i := 8) (v := .agg (ca).toArray) rfl (by kernel_rfl) (by kernel_rfl) (by kernel_rfl) (fun _ _ _ h => h) (yieldsIf_load_mid (by kernel_rfl) 33 (.tmp 1) rfl w.heap.size 0 (by go_simp) (ca) _ (fun w hw => hw.1) Try.underlying33 rfl HTS.out) S2.out ?_
  try simp only [Act.put, List.setIfInBounds_toArray, List.set_cons_zero, List.set_cons_succ]
  refine readyL (i := 7) rfl (by kernel_rfl) (by kernel_rfl) fun K hK => ?_
  go_simp
  refine (HCC.out V2 N2.out HNB.out).mono ?_
  rintro e V3 ⟨rfl, hb⟩
  simp only []
  have E3 := Lib.hid (E2.out.trans (hb.mono HNB.out))
  have R13 := Lib.hid (R12.out.below hb R12.out.lt)
  have R23 := Lib.hid (R22.out.below hb R22.out.lt)
  have M3 := Lib.hid (M2.out.below (hb.mono (Nat.le_trans B02.out.size HNB.out)))
  have T3 := Lib.hid (T2.out.below (hb.mono (Nat.le_refl _)))
  have N3 := Lib.hid (N2.out.below (hb.mono HNB.out))
  have HNB := Lib.hid (Nat.le_trans HNB.out hb.size)
  have S3 := Lib.hid (HSS.out _ R13.out R23.out)
  clear hb
  refine hK.out _ _ S3.out ?_
  clear hK K
  try simp only [Act.put, List.setIfInBounds_toArray, List.set_cons_zero, List.set_cons_succ]
  refine readyL (i := 9) rfl (by kernel_rfl) (by kernel_rfl) fun K hK => ?_
  go_simp
  refine (HCD.out V3 M3.out (Nat.le_trans B02.out.size HNB.out)).mono ?_
  rintro e V4 ⟨rfl, hb⟩
  simp only []
  have E4 := Lib.hid (E3.out.trans (hb.mono HNB.out))
  have R14 := Lib.hid (R13.out.below hb R13.out.lt)
  have R24 := Lib.hid (R23.out.below hb R23.out.lt)
  have M4 := Lib.hid (M3.out.below (hb.mono (Nat.le_trans B02.out.size HNB.out)))
  have T4 := Lib.hid (T3.out.below (hb.mono (Nat.le_refl _)))
  have N4 := Lib.hid (N3.out.below (hb.mono HNB.out))
  have HNB := Lib.hid (Nat.le_trans HNB.out hb.size)
  have S4 := Lib.hid (HSS.out _ R14.out R24.out)
  clear hb
  refine hK.out _ _ S4.out ?_
  clear hK K
  try simp only [Act.put, List.setIfInBounds_toArray, List.set_cons_zero, List.set_cons_succ]
  refine takeL (i := 10) (v := .bool true) rfl (by kernel_rfl) (by kernel_rfl) (by kernel_rfl) (fun _ _ _ h => h) (Or.inl ⟨by kernel_rfl, fun w hw => by go_simp⟩) S4.out ?_
  try simp only [Act.put, List.setIfInBounds_toArray, List.set_cons_zero, List.set_cons_succ]
  refine takeL (i := 11) (v := .bool true) rfl (by kernel_rfl) (by kernel_rfl) (by kernel_rfl) (fun _ _ _ h => h) (Or.inl ⟨by kernel_rfl, fun w hw => by go_simp⟩) S4.out ?_
  try simp only [Act.put, List.setIfInBounds_toArray, List.set_cons_zero, List.set_cons_succ]
  refine takeL (i := 12) (v := ?_) rfl (by kernel_rfl) (by kernel_rfl) (by kernel_rfl) (fun _ _ _ h => h) (Or.inl ⟨by rfl, ?_⟩) S4.out ?_
  rotate_left
  · intro w hw
    try dsimp only at hw
    go_simp
    try with_reducible rfl
  try simp only [Act.put, List.setIfInBounds_toArray, List.set_cons_zero, List.set_cons_succ]
  refine takeL (i := 13) (v := .agg (cb).toArray) rfl (by kernel_rfl) (by kernel_rfl) (by kernel_rfl) (fun _ _ _ h => h) (yieldsIf_load_mid (by kernel_rfl) 33 (.tmp 3) rfl w2.heap.size 0 (by go_simp) (cb) _ (fun w hw => hw.2) Try.underlying33 rfl HTS2.out) S4.out ?_
  try simp only [Act.put, List.setIfInBounds_toArray, List.set_cons_zero, List.set_cons_succ]
  refine takeL (i := 14) (v := .agg (ca).toArray) rfl (by kernel_rfl) (by kernel_rfl) (by kernel_rfl) (fun _ _ _ h => h) (yieldsIf_load_mid (by kernel_rfl) 33 (.tmp 1) rfl w.heap.size 0 (by go_simp) (ca) _ (fun w hw => hw.1) Try.underlying33 rfl HTS.out) S4.out ?_
  try simp only [Act.put, List.setIfInBounds_toArray, List.set_cons_zero, List.set_cons_succ]
  refine readyL (i := 15) rfl (by kernel_rfl) (by kernel_rfl) fun K hK => ?_
  go_simp
  refine (HCE.out V4 T4.out M4.out (Nat.le_trans B02.out.size HNB.out)).mono ?_
  rintro e V5 ⟨rfl, hb⟩
  simp only []
  have E5 := Lib.hid (E4.out.trans (hb.mono HNB.out))
  have R15 := Lib.hid (R14.out.below hb R14.out.lt)
  have R25 := Lib.hid (R24.out.below hb R24.out.lt)
  have M5 := Lib.hid (M4.out.below (hb.mono (Nat.le_trans B02.out.size HNB.out)))
  have T5 := Lib.hid (T4.out.below (hb.mono (Nat.le_refl _)))
  have N5 := Lib.hid (N4.out.below (hb.mono HNB.out))
  have HNB := Lib.hid (Nat.le_trans HNB.out hb.size)
  have S5 := Lib.hid (HSS.out _ R15.out R25.out)
  clear hb
  refine hK.out _ _ S5.out ?_
  clear hK K
  try simp only [Act.put, List.setIfInBounds_toArray, List.set_cons_zero, List.set_cons_succ]
  refine takeL (i := 16) (v := .bool true) rfl (by kernel_rfl) (by kernel_rfl) (by kernel_rfl) (fun _ _ _ h => h) (Or.inl ⟨by kernel_rfl, fun w hw => by go_simp⟩) S5.out ?_
  try simp only [Act.put, List.setIfInBounds_toArray, List.set_cons_zero, List.set_cons_succ]
  refine takeL (i := 17) (v := ?_) rfl (by kernel_rfl) (by kernel_rfl) (by kernel_rfl) (fun _ _ _ h => h) (Or.inl ⟨by rfl, ?_⟩) S5.out ?_
  rotate_left
  · intro w hw
    try dsimp only at hw
    go_simp
    try with_reducible rfl
  try simp only [Act.put, List.setIfInBounds_toArray, List.set_cons_zero, List.set_cons_succ]
  refine readyL (i := 18) rfl (by kernel_rfl) (by kernel_rfl) fun K hK => ?_
  go_simp
  refine (lives5 V5).mono ?_
  rintro e V6 ⟨rfl, hb⟩
  simp only []
  have E6 := Lib.hid (E5.out.trans (hb.mono HNB.out))
  have R16 := Lib.hid (R15.out.below hb R15.out.lt)
  have R26 := Lib.hid (R25.out.below hb R25.out.lt)
  have M6 := Lib.hid (M5.out.below (hb.mono (Nat.le_trans B02.out.size HNB.out)))
  have T6 := Lib.hid (T5.out.below (hb.mono (Nat.le_refl _)))
  have N6 := Lib.hid (N5.out.below (hb.mono HNB.out))
  have HNB := Lib.hid (Nat.le_trans HNB.out hb.size)
  have S6 := Lib.hid (HSS.out _ R16.out R26.out)
  clear hb
  refine hK.out _ _ S6.out ?_
  clear hK K
  try simp only [Act.put, List.setIfInBounds_toArray, List.set_cons_zero, List.set_cons_succ]
  refine takeL (i := 19) (v := .bool true) rfl (by kernel_rfl) (by kernel_rfl) (by kernel_rfl) (fun _ _ _ h => h) (Or.inl ⟨by kernel_rfl, fun w hw => by go_simp⟩) S6.out ?_
  try simp only [Act.put, List.setIfInBounds_toArray, List.set_cons_zero, List.set_cons_succ]
  refine takeL (i := 20) (v := ?_) rfl (by kernel_rfl) (by kernel_rfl) (by kernel_rfl) (fun _ _ _ h => h) (Or.inl ⟨by rfl, ?_⟩) S6.out ?_
  rotate_left
  · intro w hw
    try dsimp only at hw
    go_simp
    try with_reducible rfl
  try simp only [Act.put, List.setIfInBounds_toArray, List.set_cons_zero, List.set_cons_succ]
  refine wpAnyH_done (by kernel_rfl) ?_ _
  go_wp2_with fail
  go_ret
  exact ⟨rfl, B02.out.trans (E6.out.mono B02.out.size)⟩
end Go.Proofs.Ytgdikmgmpleolaa

/-
  Of part Entry: what is needed here.
-/
namespace Go.Proofs.Ytgdikmgmpleolaa
open Go.RowKit Go.Maps Go.ChangeMaps Go.MapKept
open Go.WideElems (Fit findIdx_born findIdx_arr modify_last set_self)
set_option linter.unusedVariables false
section
variable {H : Type} {P : Program} {w : World} {t k e : TypeId} {R : Value → Option (DataW H × List MemPlace)} {b : Nat} {es : Array MapEntry} {clock : Nat}
theorem entry_two (K : WideMaps.KeyLaw P k) (ht : P.underlying t = some (.map k e)) {z : Value} (hz : ∀ u : World, (zeroValue e).run P u = .ok z u) (hb : w.heap[b]? = some (.map es clock)) (F : Fit P k R es clock)
    {key : Value} {kl : Lit} (hkey : Go.keyOf P k key = some kl) :
    ∃ (v0 : Value) (st : Nat) (es1 : Array MapEntry) (clock1 : Nat), (Instr.mapEntry t (.map (some b)) key).run P w = .ok (.tuple #[v0, goInt st]) (setBlock w b (.map es1 clock1)) ∧
      (Instr.lookup t (.map (some b)) key false).run P w = .ok v0 w ∧
      (Instr.mapUpdate t (.map (some b)) key v0).run P w = .ok () (setBlock w b (.map es1 clock1)) ∧
      ∀ (w2 : World) (val : Value), w2.heap[b]? = some (.map es1 clock1) → ∃ es' clock', (Instr.entryStore t (.map (some b)) (goInt st) val).run P w2 = .ok () (setBlock w2 b (.map es' clock')) ∧
        (Instr.mapUpdate t (.map (some b)) key val).run P w = .ok () (setBlock w b (.map es' clock')) := by
  obtain ⟨s1, s2, _⟩ := F.stamped
  rcases K.find w hkey es.toList F.keys with ⟨h1, h2⟩ | ⟨j, e0, h1, h2, h3⟩
  · refine ⟨z, clock, es.push ⟨key, z, clock⟩, clock + 1, ?_, ?_, ?_, fun w2 val hw2 => ⟨es.push ⟨key, val, clock⟩, clock + 1, ?_, ?_⟩⟩
    · simp [Instr.mapEntry, run_underlying ht, MapKept.run_getObj_map hb, K.check w false hkey, h1, hz, MapKept.run_setObj_map _ hb, Result.andThen, setBlock]
    · simp [Instr.lookup, run_underlying ht, MapKept.run_getObj_map hb, K.check w _ hkey, h1, hz, Result.andThen]
    · simp [Instr.mapUpdate, run_underlying ht, MapKept.run_getObj_map hb, K.check w false hkey, h1, MapKept.run_setObj_map _ hb, Result.andThen, setBlock]
    · have hidx : (es.push ⟨key, z, clock⟩).findIdx? (fun e => ((e.born : Nat) : Int) == ((clock : Nat) : Int)) = some es.size := by
        rw [findIdx_arr]
        have := findIdx_born (l := (es.push ⟨key, z, clock⟩).toList) (j := es.size) (e0 := ⟨key, z, clock⟩) (by
          simp only [Array.toList_push, List.map_append, List.map_cons, List.map_nil]
          refine List.nodup_append.2 ⟨s2, by simp, fun a ha c hc e1 => ?_⟩
          simp only [List.mem_singleton] at hc
          obtain ⟨x, hx, rfl⟩ := List.mem_map.1 ha
          have := s1 x hx
          omega) (by simp)
        exact this
      have hmod : (es.push ⟨key, z, clock⟩).modify es.size (fun e => { e with val := val }) = es.push ⟨key, val, clock⟩ := by
        apply Array.ext'
        rw [Array.toList_modify, Array.toList_push, Array.toList_push, ← Array.length_toList, modify_last]
      simp [Instr.entryStore, MapKept.run_getObj_map hw2, asInt, asIntOf, goInt, hidx, hmod, MapKept.run_setObj_map _ hw2, Result.andThen, setBlock]
    · simp [Instr.mapUpdate, run_underlying ht, MapKept.run_getObj_map hb, K.check w false hkey, h1, MapKept.run_setObj_map _ hb, Result.andThen, setBlock]
  · have hj : es[j]? = some e0 := by simpa using h2
    have hsame : es.modify j (fun e => { e with key := key }) = es := by
      apply Array.ext'
      rw [Array.toList_modify, modify_eq_set _ _ _ _ h2]
      have : ({ e0 with key := key } : MapEntry) = e0 := by rw [← h3]
      rw [this]
      exact set_self _ _ _ h2
    have hsame2 : es.modify j (fun e => { e with key := key, val := e0.val }) = es := by
      apply Array.ext'
      rw [Array.toList_modify, modify_eq_set _ _ _ _ h2]
      have : ({ e0 with key := key, val := e0.val } : MapEntry) = e0 := by rw [← h3]
      rw [this]
      exact set_self _ _ _ h2
    refine ⟨e0.val, e0.born, es, clock, ?_, ?_, ?_, fun w2 val hw2 => ⟨es.modify j (fun e' => { e' with key := key, val := val }), clock, ?_, ?_⟩⟩
    · simp [Instr.mapEntry, run_underlying ht, MapKept.run_getObj_map hb, K.check w false hkey, h1, hj, h3, K.stays w hkey, hsame, MapKept.run_setObj_map _ hb, Result.andThen, setBlock]
    · simp [Instr.lookup, run_underlying ht, MapKept.run_getObj_map hb, K.check w _ hkey, h1, Result.andThen]
    · simp [Instr.mapUpdate, run_underlying ht, MapKept.run_getObj_map hb, K.check w false hkey, h1, hj, h3, K.stays w hkey, hsame2, MapKept.run_setObj_map _ hb, Result.andThen, setBlock]
    · have hidx : es.findIdx? (fun e => ((e.born : Nat) : Int) == ((e0.born : Nat) : Int)) = some j := by
        rw [findIdx_arr]
        exact findIdx_born s2 h2
      have hmod : es.modify j (fun e => { e with val := val }) = es.modify j (fun e' => { e' with key := key, val := val }) := by
        apply Array.ext'
        rw [Array.toList_modify, Array.toList_modify, modify_eq_set _ _ _ _ h2, modify_eq_set _ _ _ _ h2, ← h3]
      simp [Instr.entryStore, MapKept.run_getObj_map hw2, asInt, asIntOf, goInt, hidx, hmod, MapKept.run_setObj_map _ hw2, Result.andThen, setBlock]
    · simp [Instr.mapUpdate, run_underlying ht, MapKept.run_getObj_map hb, K.check w false hkey, h1, hj, h3, K.stays w hkey, MapKept.run_setObj_map _ hb, Result.andThen, setBlock]
theorem setBlock_twice (w : World) (b : Nat) (o o' : Obj) : setBlock (setBlock w b o) b o' = setBlock w b o' := by simp [setBlock]
/-- a map's entry at a key, elements of an integer kind: the number that stands there; the way to store another one -/
theorem own_entry {q : IntKind} {n : Nat} {D : DataW H} (h : w.ownsMap P k (plainElem P e) b n D) (K : WideMaps.KeyLaw P k) (ht : P.underlying t = some (.map k e)) (he : P.underlying e = some (.int q)) (hz : ∀ u : World, (zeroValue e).run P u = .ok (.int q 0) u) (hn : n < maxLen)
    {key : Value} {kl : Lit} (hkey : Go.keyOf P k key = some kl) {c : Int} (hat : D.atKey kl (.lit (.int q 0)) = .lit (.int q c)) :
    ∃ (st : Int) (w1 : World), (Instr.lookup t (.map (some b)) key false).run P w = .ok (.int q c) w ∧ (Instr.mapEntry t (.map (some b)) key).run P w = .ok (.tuple #[.int q c, .int .i64 st]) w1 ∧ w.grownBy w1 (some b) ∧
      (Instr.lookup t (.map (some b)) key false).run P w1 = .ok (.int q c) w1 ∧
      ∀ (d : Int), (Lit.int q d).wf = true → ∃ w2, (Instr.entryStore t (.map (some b)) (.int .i64 st) (.int q d)).run P w1 = .ok () w2 ∧ w2.ownsMap P k (plainElem P e) b (n + 1) (D.put kl (.lit (.int q d))) ∧ w.grownBy w2 (some b) := by
  have hw0 : (Lit.int q 0).wf = true := by cases q <;> decide
  obtain ⟨c', hlk, hat', hwc⟩ := h.lookup_int (Keyed.of_law K) ht he (hz w) hkey
  obtain rfl : c' = c := by rw [hat] at hat'; injection hat' with h1; injection h1 with _ h2; exact h2.symm
  have hown := h
  obtain ⟨es, clock, hb, F, hs, hD⟩ := h
  obtain ⟨v0, st, es1, clock1, hm, hl, hu, hall⟩ := entry_two K ht hz hb F hkey
  obtain rfl : v0 = .int q c' := by rw [hl] at hlk; injection hlk
  obtain ⟨w', hu', ho', hg'⟩ := hown.update (Keyed.of_law K) ht hn hkey (plainElem_int he hwc)
  have hw' : w' = setBlock w b (.map es1 clock1) := by rw [hu] at hu'; injection hu' with _ h2; exact h2.symm
  rw [hw'] at ho' hg'
  have hat1 : (D.put kl (.lit (.int q c'))).atKey kl (.lit (.int q 0)) = .lit (.int q c') := atKey_put_same hown.isMap ((Keyed.of_law K).key hkey) _ _
  obtain ⟨c2, hl2, hat2, _⟩ := ho'.lookup_int (Keyed.of_law K) ht he (hz _) hkey
  obtain rfl : c2 = c' := by rw [hat1] at hat2; injection hat2 with h1; injection h1 with _ h2; exact h2.symm
  refine ⟨st, _, hlk, hm, hg', hl2, fun d hd => ?_⟩
  obtain ⟨es', clock', h1, h2⟩ := hall (setBlock w b (.map es1 clock1)) (.int q d) (heap_setBlock_same hb _)
  obtain ⟨w2, h3, h4, h5⟩ := hown.update (Keyed.of_law K) ht hn hkey (plainElem_int he hd)
  have hw2 : w2 = setBlock w b (.map es' clock') := by rw [h2] at h3; injection h3 with _ h6; exact h6.symm
  refine ⟨w2, ?_, h4, h5⟩
  rw [hw2]
  rw [setBlock_twice] at h1
  exact h1
end
end Go.Proofs.Ytgdikmgmpleolaa
