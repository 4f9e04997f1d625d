/-
  Parts joined: Check Example Lives5 Great5 Entry HoldWalk AppendN MoreMath KeyEq.
-/
import Derived.Below
import Derived.Laws.OwnMore
import Derived.Deep.AppendLies
import Derived.Deep.Draws
import Derived.Lib.Hide
import Derived.Laws.MakeOwn
import Derived.Laws.CopyOwn
import Derived.Laws.Rows
import Derived.Laws.BitsAllLaws
import Derived.WalkKit
import Derived.Test.YtgdikmgmpleolaaRows
import Derived.WalkSpells
import Derived.WalkLawsBesides
import Derived.IntWalk
import Derived.Deep.MidRow
import Derived.Deep.WholeRow
import Derived.Maps.AppendAt
import Derived.OwnWalk
import Derived.Great.BuildSlice
import Derived.Recover
import Derived.Deep.RegionHeld
import Derived.Deep.QuietTactic
import Derived.BigQuiet
import Derived.ChangeKeysEq
import Derived.Deep.RegionHeld2
import Derived.Deep.CutBlock
import Derived.Laws.Tables
import Derived.ProofKit
import Derived.OpenShut
import Derived.ShutString
import Derived.ChangeOld
import Derived.Lib.SmallJoins
import Derived.Laws.Slices
import Derived.Deep.DeepCutAuto
import Derived.Deep.Slices
import Derived.Deep.Strs
import Derived.SizedLaws
import Derived.Laws.EntriesVeiled
import Derived.Deep.RegionHeld3
import Derived.Maps.OwnSet
import Derived.DeepKeys4
import Derived.WideKeyArr
import Derived.WideKeyEntry
import Derived.Test.YtgdikmgmpleolaaD1
import Derived.Test.YtgdikmgmpleolaaD2
/-
  Of part Check: what is needed here.
-/
namespace Go.Proofs.Ytgdikmgmpleolaa
open Go.RowKit
set_option linter.unusedVariables false
/-- rule k, broken; its error -/
def brk (x : LTx) : Nat → Bool
  | 0 => b1 x
  | 1 => b2 x.m
  | 2 => b3 x.m
  | 3 => b4 x.m
  | 4 => b5 x.m
  | 5 => b6 x.m
  | _ => false
def err : Nat → Int
  | 0 => 6
  | 1 => 7
  | 2 => 10
  | 3 => 3
  | 4 => 8
  | _ => 9
def okTo (x : LTx) (k : Nat) : Prop := ∀ j, j < k → brk x j = false
theorem okTo_succ {x : LTx} {k : Nat} (h : okTo x k) (hk : brk x k = false) : okTo x (k + 1) := fun j hj => by
  by_cases e : j = k
  · rw [e]; exact hk
  · exact h j (by omega)
theorem chk_none {x : LTx} (h : okTo x 6) : chk x = 0 := by
  have h0 : b1 x = false := h 0 (by omega)
  have h1 : b2 x.m = false := h 1 (by omega)
  have h2 : b3 x.m = false := h 2 (by omega)
  have h3 : b4 x.m = false := h 3 (by omega)
  have h4 : b5 x.m = false := h 4 (by omega)
  have h5 : b6 x.m = false := h 5 (by omega)
  simp [chk, h0, h1, h2, h3, h4, h5]
theorem chk_hit {x : LTx} {k : Nat} (h : okTo x k) (hk : brk x k = true) (h6 : k < 6) : chk x = err k := by
  rcases (show k = 0 ∨ k = 1 ∨ k = 2 ∨ k = 3 ∨ k = 4 ∨ k = 5 by omega) with rfl | rfl | rfl | rfl | rfl | rfl
  · have h0 : b1 x = true := hk
    simp [chk, h0, err]
  · have h0 : b1 x = false := h 0 (by omega)
    have h1 : b2 x.m = true := hk
    simp [chk, h0, h1, err]
  · have h0 : b1 x = false := h 0 (by omega)
    have h1 : b2 x.m = false := h 1 (by omega)
    have h2 : b3 x.m = true := hk
    simp [chk, h0, h1, h2, err]
  · have h0 : b1 x = false := h 0 (by omega)
    have h1 : b2 x.m = false := h 1 (by omega)
    have h2 : b3 x.m = false := h 2 (by omega)
    have h3 : b4 x.m = true := hk
    simp [chk, h0, h1, h2, h3, err]
  · have h0 : b1 x = false := h 0 (by omega)
    have h1 : b2 x.m = false := h 1 (by omega)
    have h2 : b3 x.m = false := h 2 (by omega)
    have h3 : b4 x.m = false := h 3 (by omega)
    have h4 : b5 x.m = true := hk
    simp [chk, h0, h1, h2, h3, h4, err]
  · have h0 : b1 x = false := h 0 (by omega)
    have h1 : b2 x.m = false := h 1 (by omega)
    have h2 : b3 x.m = false := h 2 (by omega)
    have h3 : b4 x.m = false := h 3 (by omega)
    have h4 : b5 x.m = false := h 4 (by omega)
    have h5 : b6 x.m = true := hk
    simp [chk, h0, h1, h2, h3, h4, h5, err]
theorem ret_err {x : LTx} {k : Nat} {c : Int} (h : okTo x k) (hk : brk x k = true) (h6 : k < 6) (hc : err k = c) : Ending.returned (.int .i64 c) = .returned (.int .i64 (chk x)) := by rw [chk_hit h hk h6, hc]
set_option maxRecDepth 100000 in
set_option maxHeartbeats 4000000 in
theorem check_ (s : TRaw) (x : LTx) (B : Nat) (w : World) (hm : TxIn w B s x) (hB : B ≤ w.heap.size) (hs : Small x.m) (hw : x.m.Wf) :
    Calls Try.prog 12 #[.agg (s.cells x).toArray] w fun e w' => e = .returned (.int .i64 (chk x)) ∧ Below w.heap.size w w' := by
  have hrow := Row.new w 33 (s.cells x)
  have hb0 := (Below.refl w.heap.size w).alloc (Nat.le_refl _) (.cells (s.cells x).toArray 33)
  have HTS := Lib.hid (show (Try.prog.info? 33).map (·.size) = some (s.cells x).length by rw [size_tx, tcells_len hm.m.recent])
  have HM0 := Lib.hid (hm.below (hb0.mono hB))
  have HRO := Lib.hid (rulesOf_ s x B _ HM0.out (Nat.le_trans hB hb0.size) hs hw)
  generalize s.cells x = cs at *
  have HROW := Lib.hid hrow
  have HB0 := Lib.hid hb0
  have HS := Lib.hid hs
  have HW := Lib.hid hw
  clear hrow hb0 hm hs hw
  go_enter Try.func12, Try.ntmps12
  go_wp2_with ((with_reducible show wpList _ _ _ ({ dst := some 5, op := Op.load _ _, type := _, pos := _, after := _, guard := _ } :: _) _ _); go_must (refine wpList_load_whole rfl 33 (.tmp 1) rfl w.heap.size 33 cs _ Try.underlying33 rfl HTS.out HROW.out ?_ ?_; go_simp))
  refine HRO.out.mono ?_
  rintro e w1 ⟨g, g1, g3, g4, g5, g6, g7, rfl, hr, hmade, hb1⟩
  have R := Lib.hid hr
  have MD := Lib.hid hmade
  have HB1 := Lib.hid (HB0.out.trans (hb1.mono HB0.out.size))
  have HM1 := Lib.hid (HM0.out.below (hb1.mono (Nat.le_trans hB HB0.out.size)))
  clear hr hmade hb1 HM0 HRO
  go_wp2_with fail
  go_loopw [8] (fun i wr => ∃ k : Nat, k ≤ 6 ∧ i = .int .i64 k ∧ okTo x k ∧ Below w1.heap.size w1 wr) (fun i _ => 6 - (intOf i).toNat)
  case atStart => exact ⟨0, Nat.zero_le _, rfl, fun j hj => by omega, Below.refl _ _⟩
  case round =>
    obtain ⟨k, hk, rfl, hok, hbw⟩ := hrel
    have HBW := Lib.hid hbw
    have HOK := Lib.hid hok
    have RW := Lib.hid (R.out.below hbw R.out.lt)
    have MW := Lib.hid (MD.out.below hbw)
    have HBX := Lib.hid (HB1.out.trans (hbw.mono HB1.out.size))
    have HMW := Lib.hid (HM1.out.below (hbw.mono (Nat.le_trans hB HB1.out.size)))
    clear hbw hok
    by_cases hlt : k < 6
    · rcases (show k = 0 ∨ k = 1 ∨ k = 2 ∨ k = 3 ∨ k = 4 ∨ k = 5 by omega) with rfl | rfl | rfl | rfl | rfl | rfl
      · have c0 : wr.cell? ⟨g, 0, none⟩ = some (.int .i64 6) := RW.out.cell 0
        have c1 : wr.cell? ⟨g, 1, none⟩ = some (.func (.func 26) #[] #[.pointer (some ⟨g5, 0, none⟩), .pointer (some ⟨g1, 0, none⟩)]) := RW.out.cell 1
        have hba := (Below.refl wr.heap.size wr).alloc (Nat.le_refl _) (.cells #[Value.int .i64 6, .func (.func 26) #[] #[.pointer (some ⟨g5, 0, none⟩), .pointer (some ⟨g1, 0, none⟩)]] 61)
        have r0 := Row.new wr 61 [Value.int .i64 6, .func (.func 26) #[] #[.pointer (some ⟨g5, 0, none⟩), .pointer (some ⟨g1, 0, none⟩)]]
        have R0 := Lib.hid r0
        have BA := Lib.hid hba
        have HC := Lib.hid (rule1_ (MW.out.below hba) (HMW.out.below (hba.mono (Nat.le_trans hB HBX.out.size))))
        have HBRK : Hid (brk x 0 = b1 x) := Lib.hid rfl
        clear hba r0
        generalize b1 x = bb at *
        go_wp2_with fail
        refine HC.out.mono ?_
        rintro e w2 ⟨rfl, hb2⟩
        have r2 := R0.out.below hb2 R0.out.lt
        have c2 : w2.cell? ⟨wr.heap.size, 0, none⟩ = some (.int .i64 6) := r2.cell 0
        have HB2 := Lib.hid (HBW.out.trans ((BA.out.trans (hb2.mono BA.out.size)).mono HBW.out.size))
        clear hb2 r2
        cases bb
        · go_wp2_with fail
          go_roundw
          case rel => exact ⟨1, by omega, by go_num, okTo_succ HOK.out HBRK.out, HB2.out⟩
          case measure => simp [intOf]
        · go_wp2_with fail
          go_ret
          exact ⟨ret_err HOK.out HBRK.out (by omega) rfl, HB1.out.trans (HB2.out.mono HB1.out.size)⟩
      · have c0 : wr.cell? ⟨g, 2, none⟩ = some (.int .i64 7) := RW.out.cell 2
        have c1 : wr.cell? ⟨g, 3, none⟩ = some (.func (.func 27) #[] #[.pointer (some ⟨g6, 0, none⟩), .pointer (some ⟨g5, 0, none⟩), .pointer (some ⟨g7, 0, none⟩), .pointer (some ⟨g3, 0, none⟩)]) := RW.out.cell 3
        have hba := (Below.refl wr.heap.size wr).alloc (Nat.le_refl _) (.cells #[Value.int .i64 7, .func (.func 27) #[] #[.pointer (some ⟨g6, 0, none⟩), .pointer (some ⟨g5, 0, none⟩), .pointer (some ⟨g7, 0, none⟩), .pointer (some ⟨g3, 0, none⟩)]] 61)
        have r0 := Row.new wr 61 [Value.int .i64 7, .func (.func 27) #[] #[.pointer (some ⟨g6, 0, none⟩), .pointer (some ⟨g5, 0, none⟩), .pointer (some ⟨g7, 0, none⟩), .pointer (some ⟨g3, 0, none⟩)]]
        have R0 := Lib.hid r0
        have BA := Lib.hid hba
        have HC := Lib.hid (rule2_ (MW.out.below hba) (HMW.out.below (hba.mono (Nat.le_trans hB HBX.out.size))) HW.out)
        have HBRK : Hid (brk x 1 = b2 x.m) := Lib.hid rfl
        clear hba r0
        generalize b2 x.m = bb at *
        go_wp2_with fail
        refine HC.out.mono ?_
        rintro e w2 ⟨rfl, hb2⟩
        have r2 := R0.out.below hb2 R0.out.lt
        have c2 : w2.cell? ⟨wr.heap.size, 0, none⟩ = some (.int .i64 7) := r2.cell 0
        have HB2 := Lib.hid (HBW.out.trans ((BA.out.trans (hb2.mono BA.out.size)).mono HBW.out.size))
        clear hb2 r2
        cases bb
        · go_wp2_with fail
          go_roundw
          case rel => exact ⟨2, by omega, by go_num, okTo_succ HOK.out HBRK.out, HB2.out⟩
          case measure => simp [intOf]
        · go_wp2_with fail
          go_ret
          exact ⟨ret_err HOK.out HBRK.out (by omega) rfl, HB1.out.trans (HB2.out.mono HB1.out.size)⟩
      · have c0 : wr.cell? ⟨g, 4, none⟩ = some (.int .i64 10) := RW.out.cell 4
        have c1 : wr.cell? ⟨g, 5, none⟩ = some (.func (.func 28) #[] #[.pointer (some ⟨g3, 0, none⟩)]) := RW.out.cell 5
        have hba := (Below.refl wr.heap.size wr).alloc (Nat.le_refl _) (.cells #[Value.int .i64 10, .func (.func 28) #[] #[.pointer (some ⟨g3, 0, none⟩)]] 61)
        have r0 := Row.new wr 61 [Value.int .i64 10, .func (.func 28) #[] #[.pointer (some ⟨g3, 0, none⟩)]]
        have R0 := Lib.hid r0
        have BA := Lib.hid hba
        have HC := Lib.hid (rule3_ (MW.out.below hba) (HMW.out.below (hba.mono (Nat.le_trans hB HBX.out.size))) (Nat.le_trans hB (Nat.le_trans HBX.out.size hba.size)) HS.out)
        have HBRK : Hid (brk x 2 = b3 x.m) := Lib.hid rfl
        clear hba r0
        generalize b3 x.m = bb at *
        go_wp2_with fail
        refine HC.out.mono ?_
        rintro e w2 ⟨rfl, hb2⟩
        have r2 := R0.out.below hb2 R0.out.lt
        have c2 : w2.cell? ⟨wr.heap.size, 0, none⟩ = some (.int .i64 10) := r2.cell 0
        have HB2 := Lib.hid (HBW.out.trans ((BA.out.trans (hb2.mono BA.out.size)).mono HBW.out.size))
        clear hb2 r2
        cases bb
        · go_wp2_with fail
          go_roundw
          case rel => exact ⟨3, by omega, by go_num, okTo_succ HOK.out HBRK.out, HB2.out⟩
          case measure => simp [intOf]
        · go_wp2_with fail
          go_ret
          exact ⟨ret_err HOK.out HBRK.out (by omega) rfl, HB1.out.trans (HB2.out.mono HB1.out.size)⟩
      · have c0 : wr.cell? ⟨g, 6, none⟩ = some (.int .i64 3) := RW.out.cell 6
        have c1 : wr.cell? ⟨g, 7, none⟩ = some (.func (.func 31) #[] #[.pointer (some ⟨g4, 0, none⟩)]) := RW.out.cell 7
        have hba := (Below.refl wr.heap.size wr).alloc (Nat.le_refl _) (.cells #[Value.int .i64 3, .func (.func 31) #[] #[.pointer (some ⟨g4, 0, none⟩)]] 61)
        have r0 := Row.new wr 61 [Value.int .i64 3, .func (.func 31) #[] #[.pointer (some ⟨g4, 0, none⟩)]]
        have R0 := Lib.hid r0
        have BA := Lib.hid hba
        have HC := Lib.hid (rule4_ (MW.out.below hba))
        have HBRK : Hid (brk x 3 = b4 x.m) := Lib.hid rfl
        clear hba r0
        generalize b4 x.m = bb at *
        go_wp2_with fail
        refine HC.out.mono ?_
        rintro e w2 ⟨rfl, hb2⟩
        have r2 := R0.out.below hb2 R0.out.lt
        have c2 : w2.cell? ⟨wr.heap.size, 0, none⟩ = some (.int .i64 3) := r2.cell 0
        have HB2 := Lib.hid (HBW.out.trans ((BA.out.trans (hb2.mono BA.out.size)).mono HBW.out.size))
        clear hb2 r2
        cases bb
        · go_wp2_with fail
          go_roundw
          case rel => exact ⟨4, by omega, by go_num, okTo_succ HOK.out HBRK.out, HB2.out⟩
          case measure => simp [intOf]
        · go_wp2_with fail
          go_ret
          exact ⟨ret_err HOK.out HBRK.out (by omega) rfl, HB1.out.trans (HB2.out.mono HB1.out.size)⟩
      · have c0 : wr.cell? ⟨g, 8, none⟩ = some (.int .i64 8) := RW.out.cell 8
        have c1 : wr.cell? ⟨g, 9, none⟩ = some (.func (.func 32) #[] #[.pointer (some ⟨g3, 0, none⟩), .pointer (some ⟨g4, 0, none⟩)]) := RW.out.cell 9
        have hba := (Below.refl wr.heap.size wr).alloc (Nat.le_refl _) (.cells #[Value.int .i64 8, .func (.func 32) #[] #[.pointer (some ⟨g3, 0, none⟩), .pointer (some ⟨g4, 0, none⟩)]] 61)
        have r0 := Row.new wr 61 [Value.int .i64 8, .func (.func 32) #[] #[.pointer (some ⟨g3, 0, none⟩), .pointer (some ⟨g4, 0, none⟩)]]
        have R0 := Lib.hid r0
        have BA := Lib.hid hba
        have HC := Lib.hid (rule5_ (MW.out.below hba) (HMW.out.below (hba.mono (Nat.le_trans hB HBX.out.size))) (Nat.le_trans hB (Nat.le_trans HBX.out.size hba.size)) HS.out HW.out)
        have HBRK : Hid (brk x 4 = b5 x.m) := Lib.hid rfl
        clear hba r0
        generalize b5 x.m = bb at *
        go_wp2_with fail
        refine HC.out.mono ?_
        rintro e w2 ⟨rfl, hb2⟩
        have r2 := R0.out.below hb2 R0.out.lt
        have c2 : w2.cell? ⟨wr.heap.size, 0, none⟩ = some (.int .i64 8) := r2.cell 0
        have HB2 := Lib.hid (HBW.out.trans ((BA.out.trans (hb2.mono BA.out.size)).mono HBW.out.size))
        clear hb2 r2
        cases bb
        · go_wp2_with fail
          go_roundw
          case rel => exact ⟨5, by omega, by go_num, okTo_succ HOK.out HBRK.out, HB2.out⟩
          case measure => simp [intOf]
        · go_wp2_with fail
          go_ret
          exact ⟨ret_err HOK.out HBRK.out (by omega) rfl, HB1.out.trans (HB2.out.mono HB1.out.size)⟩
      · have c0 : wr.cell? ⟨g, 10, none⟩ = some (.int .i64 9) := RW.out.cell 10
        have c1 : wr.cell? ⟨g, 11, none⟩ = some (.func (.func 36) #[] #[.pointer (some ⟨g3, 0, none⟩)]) := RW.out.cell 11
        have hba := (Below.refl wr.heap.size wr).alloc (Nat.le_refl _) (.cells #[Value.int .i64 9, .func (.func 36) #[] #[.pointer (some ⟨g3, 0, none⟩)]] 61)
        have r0 := Row.new wr 61 [Value.int .i64 9, .func (.func 36) #[] #[.pointer (some ⟨g3, 0, none⟩)]]
        have R0 := Lib.hid r0
        have BA := Lib.hid hba
        have HC := Lib.hid (rule6_ (MW.out.below hba) (HMW.out.below (hba.mono (Nat.le_trans hB HBX.out.size))) (Nat.le_trans hB (Nat.le_trans HBX.out.size hba.size)) HS.out HW.out)
        have HBRK : Hid (brk x 5 = b6 x.m) := Lib.hid rfl
        clear hba r0
        generalize b6 x.m = bb at *
        go_wp2_with fail
        refine HC.out.mono ?_
        rintro e w2 ⟨rfl, hb2⟩
        have r2 := R0.out.below hb2 R0.out.lt
        have c2 : w2.cell? ⟨wr.heap.size, 0, none⟩ = some (.int .i64 9) := r2.cell 0
        have HB2 := Lib.hid (HBW.out.trans ((BA.out.trans (hb2.mono BA.out.size)).mono HBW.out.size))
        clear hb2 r2
        cases bb
        · go_wp2_with fail
          go_roundw
          case rel => exact ⟨6, by omega, by go_num, okTo_succ HOK.out HBRK.out, HB2.out⟩
          case measure => simp [intOf]
        · go_wp2_with fail
          go_ret
          exact ⟨ret_err HOK.out HBRK.out (by omega) rfl, HB1.out.trans (HB2.out.mono HB1.out.size)⟩
    · have hk6 : k = 6 := by omega
      have HE : Hid (chk x = 0) := Lib.hid (chk_none (hk6 ▸ HOK.out))
      clear hk6
      go_wp2
      go_ret
      exact ⟨by rw [HE.out]; rfl, HBX.out⟩
end Go.Proofs.Ytgdikmgmpleolaa

/-
  Of part Example: what is needed here.
-/
namespace Go.Proofs.Ytgdikmgmpleolaa
open Go.RowKit
set_option linter.unusedVariables false
def xk (a : Int) : List Int := a :: List.replicate 31 0
def xSig : List Int := List.replicate 64 0
/-- the example, with whatever keys, program and account -/
def xTx (ks : List (List Int)) (p a : Int) : LTx := ⟨[xSig], ⟨false, 1, 0, 0, ks, zero32, [⟨p, [a], []⟩], []⟩⟩
def xRaw (gs gk gi kn kc : Nat) : TRaw := ⟨some ⟨gs, 0, none⟩, 1, 1, ⟨some ⟨gk, 0, none⟩, kn, kc, some ⟨gi, 0, none⟩, 1, 1, none, 0, 0⟩⟩
def xIn (ga : Nat) (p : Int) : List Value := inCells p (.slice (some ⟨ga, 0, none⟩) 1 1) (.slice none 0 0)
theorem x_in {w : World} {gs gk ga gi kn kc : Nat} {ks : List (List Int)} {p a : Int} {ts tk ta ti : TypeId} {rest : List Value} (h1 : Row w gs ts (bv xSig)) (h2 : Row w gk tk (bv ks.flatten ++ rest)) (h3 : Row w ga ta (bv [a])) (h4 : Row w gi ti (xIn ga p))
    (hk : ∀ k ∈ ks, k.length = 32) (hkn : ks.length = kn) (hkc : kn ≤ kc ∧ kc ≤ maxLen) : TxIn w w.heap.size (xRaw gs gk gi kn kc) (xTx ks p a) := by
  refine ⟨⟨rfl, fun k hk => ?_, ?_⟩, by simp [xRaw, maxLen], ⟨rfl, ⟨hkn, hk, ?_⟩, ⟨rfl, ?_⟩, ⟨rfl, fun i y h => by simp [xTx] at h⟩, hkc, by simp [xRaw, maxLen], by simp [xRaw, maxLen]⟩⟩
  · obtain rfl : k = xSig := by simpa [xTx] using hk
    rfl
  · have := h1.sees0
    simpa [xTx, xRaw, bv_length, xSig] using this
  · show Sees w w.heap.size (some ⟨gk, 0, none⟩) (kn * 32) (bv ks.flatten)
    exact h2.sees_at (o := 0) (by rw [bv_length, flatten_len ks hk, hkn]) (fun j u hu => by rw [Nat.zero_add, List.getElem?_append_left (List.getElem?_eq_some_iff.1 hu).1]; exact hu)
  · intro i y hy
    have hi : i = 0 := by
      have := (List.getElem?_eq_some_iff.1 hy).1
      simp [xTx] at this
      exact this
    subst hi
    obtain rfl : (⟨p, [a], []⟩ : LIn) = y := by simpa [xTx] using hy
    refine ⟨_, _, _, rfl, h4.lt, (h4.cell 0).trans rfl, (h4.cell 1).trans rfl, (h4.cell 2).trans rfl, ⟨_, _, rfl, ?_, Nat.le_refl _, by simp [maxLen]⟩, ⟨none, 0, rfl, Sees.nil _ _ _, Nat.le_refl _, by simp [maxLen]⟩⟩
    exact h3.sees0
theorem x_small (ks : List (List Int)) (h : ks.length ≤ 4000) (p a : Int) : Small (xTx ks p a).m := ⟨h, by simp [xTx], by simp [xTx], by simp [xTx, lookSize], by simp [xTx]⟩
theorem x_wf (ks : List (List Int)) (h : ∀ k ∈ ks, k.length = 32 ∧ AllBytes k) (p a : Int) (hp : IsByte p) (ha : IsByte a) : (xTx ks p a).m.Wf := by
  refine ⟨⟨by show (0 : Int) ≤ 1; omega, by show (1 : Int) < 256; omega⟩, ⟨by show (0 : Int) ≤ 0; omega, by show (0 : Int) < 256; omega⟩, ⟨by show (0 : Int) ≤ 0; omega, by show (0 : Int) < 256; omega⟩, h, ⟨rfl, fun z hz => ?_⟩, fun i hi => ?_, by simp [xTx]⟩
  · obtain rfl : z = 0 := List.eq_of_mem_replicate hz
    constructor <;> decide
  · obtain rfl : i = ⟨p, [a], []⟩ := by simpa [xTx] using hi
    refine ⟨hp, fun z hz => ?_, fun z hz => by simp at hz⟩
    obtain rfl : z = a := by simpa using hz
    exact ha
theorem xk_ok (a : Int) (h : IsByte a) : (xk a).length = 32 ∧ AllBytes (xk a) := ⟨rfl, fun z hz => by
  rcases List.mem_cons.1 hz with rfl | hz
  · exact h
  · obtain rfl : z = 0 := List.eq_of_mem_replicate hz
    constructor <;> decide⟩
def xks : List (List Int) := [xk 1, xk 2]
def xks3 : List (List Int) := [xk 1, xk 2, xk 2]
theorem xks_ok : ∀ k ∈ xks, k.length = 32 ∧ AllBytes k := by
  intro k hk
  simp only [xks, List.mem_cons, List.not_mem_nil, or_false] at hk
  rcases hk with rfl | rfl <;> exact xk_ok _ (by constructor <;> decide)
theorem xks3_ok : ∀ k ∈ xks3, k.length = 32 ∧ AllBytes k := by
  intro k hk
  simp only [xks3, List.mem_cons, List.not_mem_nil, or_false] at hk
  rcases hk with rfl | rfl | rfl <;> exact xk_ok _ (by constructor <;> decide)
theorem chk_a : chk (xTx xks 1 0) = 0 := by decide +kernel
theorem chk_b : chk (xTx xks 0 0) = 8 := by decide +kernel
theorem chk_c : chk (xTx xks 1 2) = 8 := by decide +kernel
theorem chk_d : chk (xTx xks3 1 0) = 9 := by decide +kernel
theorem tot_a : tot (xTx xks 1 0).m = 2 := by decide +kernel
/-- what example leaves -/
structure ExIn (w : World) (gs gk ga gi : Nat) : Prop where
  s : Row w gs 49 (bv xSig)
  k : Row w gk 41 (bv xks.flatten)
  a : Row w ga 5 (bv [0])
  i : Row w gi 47 (xIn ga 1)
  lt : gs < gk ∧ gk < ga ∧ ga < gi
def ExDone (w : World) (e : Ending) (w' : World) : Prop :=
  ∃ gs gk ga gi, e = .returned (.agg (TRaw.cells (xRaw gs gk gi 2 2) (xTx xks 1 0)).toArray) ∧ w.heap.size ≤ gs ∧ ExIn w' gs gk ga gi ∧ Below w.heap.size w w'
theorem built_xk (a : Int) : Try.prog.built 41 [(0, .int .u8 a)] = some (bv (xk a)).toArray := by kernel_rfl
theorem built_xm (gk gi : Nat) : Try.prog.built 31 [(1, .agg #[.int .u8 1, .int .u8 0, .int .u8 0]), (2, .slice (some ⟨gk, 0, none⟩) 2 2), (4, .slice (some ⟨gi, 0, none⟩) 1 1)] = some (Raw.cells (xRaw 0 gk gi 2 2).q (xTx xks 1 0).m).toArray := by kernel_rfl
section
variable {P : Program}
/-- a slice literal of two elements of many cells -/
theorem wpList_buildTwo {ops : Array Oper} {rest : List Oper} {o : Oper} {a : Act} {w : World} {Q : Exit → Act → World → Prop} (hg : o.guard = none) (t e : TypeId) (y y' : Operand) (ho : o.op = .buildSlice t 2 #[(0, y), (1, y')])
    (cs cs' : List Value) (z : Value) (size bytes : Nat) (hu : P.underlying t = some (.slice e)) (hi : (P.info? e).map (fun i => (i.zero, i.size, i.bytes)) = some (some z, size, bytes)) (hzs : z.cells.size = size) (hs0 : 0 < size) (hs1 : size ≤ 1000)
    (hcs : cs.length = size) (hcs' : cs'.length = size) (hy : a.eval y = .agg cs.toArray) (hy' : a.eval y' = .agg cs'.toArray)
    (h : wpList P ops Q rest (a.put o.dst (.slice (some ⟨w.heap.size, 0, none⟩) 2 2)) (w.alloc (.cells (cs ++ cs').toArray e))) : wpList P ops Q (o :: rest) a w := by
  obtain ⟨ie, hie, h1, h2, _⟩ := info_parts hi
  subst h2
  refine wpList_buildSlice hg t e 2 _ ho (cs ++ cs').toArray ie z hu hie h1 (by omega) (by omega) ?_ h
  have := Go.Great.fill_whole (s := ie.size) hs0 [Value.agg cs.toArray, Value.agg cs'.toArray] ((Array.range (2 * ie.size)).map (z.cells[· % z.cells.size]!)) (by simp [Value.cells, hcs, hcs']) (by simp)
  simpa [hy, hy', Value.cells] using this
end
theorem made64x (n : Nat) : (madeCells (Value.agg (zeros 64).toArray).cells (n * 64)).toList = bv (List.replicate (n * 64) 0) := by
  apply List.ext_getElem?
  intro i
  have hz : (Value.agg (zeros 64).toArray).cells.size = 64 := by kernel_rfl
  have hv : ∀ j, j < 64 → (Value.agg (zeros 64).toArray).cells[j]! = .int .u8 0 := fun j hj => by
    rw [show (Value.agg (zeros 64).toArray).cells = (zeros 64).toArray from rfl]
    have hs : j < (zeros 64).toArray.size := by simp only [List.size_toArray, zeros, List.length_replicate]; exact hj
    rw [getElem!_pos (zeros 64).toArray j hs, List.getElem_toArray]
    exact List.eq_of_mem_replicate (List.getElem_mem _)
  simp only [madeCells, hz, bv, cv, List.map_replicate, Array.toList_map, Array.toList_range]
  by_cases h : i < n * 64
  · rw [List.getElem?_map, List.getElem?_range h, List.getElem?_replicate_of_lt h]
    simp [hv (i % 64) (by omega)]
  · rw [List.getElem?_eq_none (by simp; omega), List.getElem?_eq_none (by simp; omega)]
set_option maxRecDepth 100000 in
set_option maxHeartbeats 2000000 in
theorem example_ (w : World) : Calls Try.prog 16 #[] w (ExDone w) := by
  obtain ⟨W, hW⟩ : ∃ W, W = w.alloc (.cells tzero.toArray 33) := ⟨_, rfl⟩
  have RW : Hid (Row W w.heap.size 33 tzero) := Lib.hid (by rw [hW]; exact Row.new _ _ _)
  have BW : Hid (Below w.heap.size w W) := Lib.hid (by rw [hW]; exact (Below.refl _ _).alloc (Nat.le_refl _) _)
  have ZW : Hid (W.heap.size = w.heap.size + 1) := Lib.hid (by rw [hW]; simp)
  go_enter Try.func16, Try.ntmps16
  go_upto_region 1 with fail
  have hX : ∀ c, c = tzero.toArray → w.alloc (.cells c 33) = W := by rintro _ rfl; exact hW.symm
  rw [hX]
  rotate_left
  · kernel_rfl
  clear hX hW
  obtain ⟨i0, hi, hz0, hz1, hz2⟩ := info_parts info_sig
  go_wp2_with (first
    | (at_make; go_must (refine wpList_make_full _ rfl (.const (.int .i64 1)) (.const (.int .i64 1)) 22 rfl W.heap.size 49 i0 _ 64 Try.underlying22 hi hz0 hz1 .i64 .i64 1 1 1 rfl rfl rfl rfl (by rw [hz2]; omega) (by unfold maxLen; omega) (Nat.le_refl _) ?_; intro w1 hown hgrow; have hrow := Row.of_ownN hown; have hb1 := (Below.refl W.heap.size W).grown hgrow (Nat.le_refl _) (fun k hk => by cases hk)))
    | ((with_reducible show wpList _ _ _ ({ dst := some 3, op := Op.build _ _, type := _, pos := _, after := _, guard := _ } :: _) _ _); go_must (refine wpList_plain rfl fun K hK => wp_built _ _ _ rfl (by simp only [List.map_toArray, List.map_cons, List.map_nil]; exact built_xk _) (hK _ _ ?_)))
    | ((with_reducible show wpList _ _ _ ({ dst := some 4, op := Op.build _ _, type := _, pos := _, after := _, guard := _ } :: _) _ _); go_must (refine wpList_plain rfl fun K hK => wp_built _ _ _ rfl (by simp only [List.map_toArray, List.map_cons, List.map_nil]; exact built_xk _) (hK _ _ ?_)))
    | ((with_reducible show wpList _ _ _ ({ dst := some 5, op := Op.buildSlice _ _ _, type := _, pos := _, after := _, guard := _ } :: _) _ _); go_must (refine wpList_buildTwo rfl 25 41 (.tmp 3) (.tmp 4) rfl (bv (xk 1)) (bv (xk 2)) _ 32 32 Try.underlying25 info_key (by kernel_rfl) (by omega) (by omega) (by rfl) (by rfl) ?_ ?_ ?_; go_simp; go_simp))
    | ((with_reducible show wpList _ _ _ ({ dst := some 9, op := Op.build _ _, type := _, pos := _, after := _, guard := _ } :: _) _ _); go_must (refine wpList_plain rfl fun K hK => wp_built _ _ _ rfl (by simp only [List.map_toArray, List.map_cons, List.map_nil]; exact built_xm _ _) (hK _ _ ?_)))
    | ((with_reducible show wpList _ _ _ ({ dst := some 10, op := Op.build _ _, type := _, pos := _, after := _, guard := _ } :: _) _ _); go_must (refine wpList_plain rfl fun K hK => wp_built _ _ _ rfl (by simp only [List.map_toArray, List.map_cons, List.map_nil]; exact built_tx3 (Raw.cells (xRaw 0 w1.heap.size (w1.heap.size + 1 + 1) 2 2).q (xTx xks 1 0).m) (cells_len rfl) _ _ _) (hK _ _ ?_)))
    | ((with_reducible show wpList _ _ _ ({ dst := none, op := Op.store 33 _ _, type := _, pos := _, after := _, guard := _ } :: _) _ _); go_must (refine wpList_store_whole rfl 33 (.tmp 0) (.tmp 10) rfl w.heap.size tzero (TRaw.cells (xRaw W.heap.size w1.heap.size (w1.heap.size + 1 + 1) 2 2) (xTx xks 1 0)) ((((RW.out.below hb1 RW.out.lt).alloc _).alloc _).alloc _) (by rw [tcells_len rfl]; exact size_tx) (by rw [tcells_len rfl]; rfl) tcells_one ?_ ?_ ?_; go_simp; (go_simp; rfl); intro V2 hr2 ht2)))
  have hz := hrow.lt
  have n1 := ZW.out
  have hs1 : Row w1 W.heap.size 49 (bv xSig) := by rw [made64x 1] at hrow; exact hrow
  have hk2 := Row.new w1 41 (bv (xk 1) ++ bv (xk 2))
  have ha2 := Row.new' (w1.alloc (.cells (bv (xk 1) ++ bv (xk 2)).toArray 41)) 5 (bv [0]) (g := w1.heap.size + 1) (by simp)
  have hi2 := Row.new' ((w1.alloc (.cells (bv (xk 1) ++ bv (xk 2)).toArray 41)).alloc (.cells (bv [0]).toArray 5)) 47 (xIn (w1.heap.size + 1) 1) (g := w1.heap.size + 1 + 1) (by simp)
  have hbb := (((hb1.alloc (by omega) (.cells (bv (xk 1) ++ bv (xk 2)).toArray 41)).alloc (by simp; omega) (.cells (bv [0]).toArray 5)).alloc (by simp; omega) (.cells (xIn (w1.heap.size + 1) 1).toArray 47))
  refine bodyPost_ret (results_cell_row (h := rfl) _ V2 w.heap.size 33 _ (0, 0) _ (by rfl) hr2.is Try.underlying33 rfl (by rw [List.size_toArray, tcells_len rfl]; exact size_tx)) rfl ?_
  refine ⟨W.heap.size, w1.heap.size, w1.heap.size + 1, w1.heap.size + 1 + 1, rfl, by omega, ⟨?_, ?_, ?_, ?_, by omega⟩, ?_⟩
  · exact ht2.row (((hs1.alloc _).alloc _).alloc _) (by omega)
  · exact ht2.row ((hk2.alloc _).alloc _) (by omega)
  · exact ht2.row (ha2.alloc _) (by omega)
  · exact ht2.row hi2 (by omega)
  · exact (BW.out.trans (hbb.mono (by omega))).trans (ht2.below (Nat.le_refl _))
end Go.Proofs.Ytgdikmgmpleolaa

/-
  Of part Lives5: what is needed here.
-/
namespace Go.Proofs.Ytgdikmgmpleolaa
open Go.RowKit
set_option linter.unusedVariables false
/-- a transaction in a block, its lists below it -/
structure Held (w : World) (b : Nat) (cs : List Value) (x : LTx) : Prop where
  row : Row w b 33 cs
  tx : ∃ s, cs = TRaw.cells s x ∧ TxIn w w.heap.size s x
theorem Held.below {w w' : World} {b : Nat} {cs : List Value} {x : LTx} (h : Held w b cs x) (hb : Below w.heap.size w w') : Held w' b cs x := by
  obtain ⟨s, h1, h2⟩ := h.tx
  exact ⟨h.row.below hb h.row.lt, s, h1, (h2.below hb).more hb.size⟩
theorem held_check {w : World} {b : Nat} {cs : List Value} {x : LTx} {c : Int} (h : Held w b cs x) (hs : Small x.m) (hw : x.m.Wf) (hc : chk x = c) :
    Calls Try.prog 12 #[.agg cs.toArray] w fun e w' => e = .returned (.int .i64 c) ∧ Below w.heap.size w w' := by
  obtain ⟨s, rfl, h2⟩ := h.tx
  have := check_ s x _ w h2 (Nat.le_refl _) hs hw
  rwa [hc] at this
theorem held_total {w : World} {b : Nat} {cs : List Value} {x : LTx} {c : Nat} (h : Held w b cs x) (hs : Small x.m) (hc : tot x.m = c) :
    Calls Try.prog 10 #[.agg cs.toArray] w fun e w' => e = .returned (.int .i64 c) ∧ Below w.heap.size w w' := by
  obtain ⟨s, rfl, h2⟩ := h.tx
  have := total_ s x _ w h2 (Nat.le_refl _) hs
  rwa [hc] at this
/-- the example, laid into a block of its own -/
structure Laid (w0 w : World) (b gs gk ga gi : Nat) : Prop where
  row : Row w b 33 (TRaw.cells (xRaw gs gk gi 2 2) (xTx xks 1 0))
  ex : ExIn w gs gk ga gi
  lo : w0.heap.size ≤ gs
  lt : gi < b
  b : Below w0.heap.size w0 w
theorem own_rows {w : World} {base : Nat} {e : TypeId} {size n : Nat} {v : Value} {xs : List Value} (h : w.ownsRow base e size v n xs) (hx : 0 < xs.length) (hn : 0 < n) : ∃ g c rest, v = .slice (some ⟨g, 0, none⟩) n c ∧ Row w g e (xs ++ rest) ∧ n ≤ c ∧ c ≤ maxLen := by
  rcases h.2 with ⟨hv, he⟩ | ⟨g, cap, cur, hv, hg, hh, h1, h2, h3, h4⟩
  · omega
  · refine ⟨g, cap, cur.toList.drop xs.length, hv, ⟨?_⟩, h1, h2⟩
    rw [hh]
    have h5 : xs = cur.toList.take xs.length := by
      rw [← h4, List.length_take]
      exact List.take_eq_take_min
    congr
    have h6 : xs ++ cur.toList.drop xs.length = cur.toList := by
      conv => lhs; lhs; rw [h5]
      exact List.take_append_drop _ _
    rw [h6]
theorem bv_xks3 : bv xks.flatten ++ bv (xk 2) = bv xks3.flatten := by
  rw [← bv_append]
  congr 1
set_option maxRecDepth 100000 in
set_option maxHeartbeats 8000000 in
theorem lives5 (w : World) : Calls Try.prog 8 #[] w fun e w' => e = .returned (.bool true) ∧ Below w.heap.size w w' := by
  have HSZ := Lib.hid (fun gs gk gi => show (Try.prog.info? 33).map (·.size) = some (TRaw.cells (xRaw gs gk gi 2 2) (xTx xks 1 0)).length by rw [tcells_len rfl]; exact size_tx)
  have HON := Lib.hid (fun gs gk gi => tcells_one (s := xRaw gs gk gi 2 2) (x := xTx xks 1 0))
  have HLN := Lib.hid (fun gs gk gi => show (TRaw.cells (xRaw gs gk gi 2 2) (xTx xks 1 0)).length = 40 from tcells_len rfl)
  have HLD : Hid (∀ (w0 w1 u : World) gs gk ga gi, w0.heap.size ≤ gs → ExIn w1 gs gk ga gi → Below w0.heap.size w0 w1 → Row u w1.heap.size 33 (TRaw.cells (xRaw gs gk gi 2 2) (xTx xks 1 0)) → Below w1.heap.size w1 u → Laid w0 u w1.heap.size gs gk ga gi) :=
    Lib.hid fun w0 w1 u gs gk ga gi h1 h2 h3 h4 h5 => ⟨h4, ⟨h2.s.below h5 h2.s.lt, h2.k.below h5 h2.k.lt, h2.a.below h5 h2.a.lt, h2.i.below h5 h2.i.lt, h2.lt⟩, h1, h2.i.lt, h3.trans (h5.mono h3.size)⟩
  go_enter Try.func8, Try.ntmps8
  go_wp2_with fail
  refine (example_ w).mono ?_
  rintro e w1 ⟨gs, gk, ga, gi, rfl, hlo, hex, hb1⟩
  have EX := Lib.hid (And.intro hlo (And.intro hex hb1))
  clear hlo hex hb1
  go_wp2_with ((with_reducible show wpList _ _ _ ({ dst := none, op := Op.store 33 _ _, type := _, pos := _, after := _, guard := _ } :: _) _ _); go_must (refine wpList_store_new rfl 33 (.tmp 1) (.tmp 5) rfl (TRaw.cells (xRaw gs gk gi 2 2) (xTx xks 1 0)) (HSZ.out gs gk gi) (HON.out gs gk gi) (by rw [HLN.out]; rfl) ?_ ?_ ?_; go_simp; go_simp; intro u1 hr1 hb1 hz1; have LA := Lib.hid (HLD.out _ _ _ _ _ _ _ EX.out.1 EX.out.2.1 EX.out.2.2 hr1 hb1); clear hr1 hb1 hz1))
  refine (example_ u1).mono ?_
  rintro e w2 ⟨gs2, gk2, ga2, gi2, rfl, hlo, hex, hb1⟩
  have EX2 := Lib.hid (And.intro hlo (And.intro hex hb1))
  clear hlo hex hb1
  go_upto_region 3 with ((with_reducible show wpList _ _ _ ({ dst := none, op := Op.store 33 _ _, type := _, pos := _, after := _, guard := _ } :: _) _ _); go_must (refine wpList_store_new rfl 33 (.tmp 2) (.tmp 6) rfl (TRaw.cells (xRaw gs2 gk2 gi2 2 2) (xTx xks 1 0)) (HSZ.out gs2 gk2 gi2) (HON.out gs2 gk2 gi2) (by rw [HLN.out]; rfl) ?_ ?_ ?_; go_simp; go_simp; intro u2 hr1 hb1 hz1; have LB := Lib.hid (HLD.out _ _ _ _ _ _ _ EX2.out.1 EX2.out.2.1 EX2.out.2.2 hr1 hb1); clear hr1 hb1 hz1))
  have q38 : u2.cell? ⟨w2.heap.size, 38, none⟩ = some (.slice (some ⟨gi2, 0, none⟩) 1 1) := (LB.out.row.cell 38).trans rfl
  have q0 : u2.cell? ⟨gi2, 0, none⟩ = some (.int .u8 1) := (LB.out.ex.i.cell 0).trans rfl
  have qf := LB.out.ex.i.frozen 0
  go_wp2_with fail
  clear q38 q0 qf
  have HB : Hid (Held (u2.setCell ⟨gi2, 0, none⟩ (.int .u8 0)) w2.heap.size (TRaw.cells (xRaw gs2 gk2 gi2 2 2) (xTx xks 1 0)) (xTx xks 0 0)) := Lib.hid (by
    have h := LB.out
    have hl := h.ex.lt
    have hlt := h.lt
    exact ⟨h.row.far (p := ⟨gi2, 0, none⟩) (show w2.heap.size ≠ gi2 by omega) _, _, rfl, x_in (rest := []) (h.ex.s.far (p := ⟨gi2, 0, none⟩) (show gs2 ≠ gi2 by omega) _) (by rw [List.append_nil]; exact h.ex.k.far (p := ⟨gi2, 0, none⟩) (show gk2 ≠ gi2 by omega) _) (h.ex.a.far (p := ⟨gi2, 0, none⟩) (show ga2 ≠ gi2 by omega) _) (h.ex.i.set_ 0 _) (fun k hk => (xks_ok k hk).1) rfl (by simp [maxLen])⟩)
  have BV2 : Hid (Below u1.heap.size u1 (u2.setCell ⟨gi2, 0, none⟩ (.int .u8 0))) := Lib.hid (by
    have h := LB.out
    have hl := h.ex.lt
    exact h.b.setCell (show u1.heap.size ≤ gi2 by have := h.lo; omega) _)
  generalize u2.setCell ⟨gi2, 0, none⟩ (.int .u8 0) = v2 at *
  refine (example_ v2).mono ?_
  rintro e w3 ⟨gs3, gk3, ga3, gi3, rfl, hlo, hex, hb1⟩
  have EX3 := Lib.hid (And.intro hlo (And.intro hex hb1))
  clear hlo hex hb1
  go_upto_region 5 with ((with_reducible show wpList _ _ _ ({ dst := none, op := Op.store 33 _ _, type := _, pos := _, after := _, guard := _ } :: _) _ _); go_must (refine wpList_store_new rfl 33 (.tmp 3) (.tmp 12) rfl (TRaw.cells (xRaw gs3 gk3 gi3 2 2) (xTx xks 1 0)) (HSZ.out gs3 gk3 gi3) (HON.out gs3 gk3 gi3) (by rw [HLN.out]; rfl) ?_ ?_ ?_; go_simp; go_simp; intro u3 hr1 hb1 hz1; have LC := Lib.hid (HLD.out _ _ _ _ _ _ _ EX3.out.1 EX3.out.2.1 EX3.out.2.2 hr1 hb1); clear hr1 hb1 hz1))
  have q38 : u3.cell? ⟨w3.heap.size, 38, none⟩ = some (.slice (some ⟨gi3, 0, none⟩) 1 1) := (LC.out.row.cell 38).trans rfl
  have q1 : u3.cell? ⟨gi3, 1, none⟩ = some (.slice (some ⟨ga3, 0, none⟩) 1 1) := (LC.out.ex.i.cell 1).trans rfl
  have q0 : u3.cell? ⟨ga3, 0, none⟩ = some (.int .u8 0) := (LC.out.ex.a.cell 0).trans rfl
  have qf := LC.out.ex.a.frozen 0
  go_wp2_with fail
  clear q38 q0 q1 qf
  have HC : Hid (Held (u3.setCell ⟨ga3, 0, none⟩ (.int .u8 2)) w3.heap.size (TRaw.cells (xRaw gs3 gk3 gi3 2 2) (xTx xks 1 0)) (xTx xks 1 2)) := Lib.hid (by
    have h := LC.out
    have hl := h.ex.lt
    have hlt := h.lt
    exact ⟨h.row.far (p := ⟨ga3, 0, none⟩) (show w3.heap.size ≠ ga3 by omega) _, _, rfl, x_in (rest := []) (h.ex.s.far (p := ⟨ga3, 0, none⟩) (show gs3 ≠ ga3 by omega) _) (by rw [List.append_nil]; exact h.ex.k.far (p := ⟨ga3, 0, none⟩) (show gk3 ≠ ga3 by omega) _) (h.ex.a.set_ 0 _) (h.ex.i.far (p := ⟨ga3, 0, none⟩) (show gi3 ≠ ga3 by omega) _) (fun k hk => (xks_ok k hk).1) rfl (by simp [maxLen])⟩)
  have BV3 : Hid (Below v2.heap.size v2 (u3.setCell ⟨ga3, 0, none⟩ (.int .u8 2))) := Lib.hid (by
    have h := LC.out
    have hl := h.ex.lt
    exact h.b.setCell (show v2.heap.size ≤ ga3 by have := h.lo; omega) _)
  generalize u3.setCell ⟨ga3, 0, none⟩ (.int .u8 2) = v3 at *
  refine (example_ v3).mono ?_
  rintro e w4 ⟨gs4, gk4, ga4, gi4, rfl, hlo, hex, hb1⟩
  have EX4 := Lib.hid (And.intro hlo (And.intro hex hb1))
  clear hlo hex hb1
  go_upto_region 7 with ((with_reducible show wpList _ _ _ ({ dst := none, op := Op.store 33 _ _, type := _, pos := _, after := _, guard := _ } :: _) _ _); go_must (refine wpList_store_new rfl 33 (.tmp 4) (.tmp 20) rfl (TRaw.cells (xRaw gs4 gk4 gi4 2 2) (xTx xks 1 0)) (HSZ.out gs4 gk4 gi4) (HON.out gs4 gk4 gi4) (by rw [HLN.out]; rfl) ?_ ?_ ?_; go_simp; go_simp; intro u4 hr1 hb1 hz1; have LD := Lib.hid (HLD.out _ _ _ _ _ _ _ EX4.out.1 EX4.out.2.1 EX4.out.2.2 hr1 hb1); clear hr1 hb1 hz1))
  have q5 : u4.cell? ⟨w4.heap.size, 5, none⟩ = some (.slice (some ⟨gk4, 0, none⟩) 2 2) := (LD.out.row.cell 5).trans rfl
  have HOW : Hid (u4.ownsRow gk4 41 32 (.slice (some ⟨gk4, 0, none⟩) 2 2) 2 (bv xks.flatten)) := Lib.hid ⟨by rfl, .inr ⟨gk4, 2, (bv xks.flatten).toArray, rfl, Nat.le_refl _, LD.out.ex.k.is, Nat.le_refl _, by simp [maxLen], by rfl, by rfl⟩⟩
  have HNE : Hid (some w4.heap.size ≠ (Value.slice (some ⟨gk4, 0, none⟩) 2 2).ownBlock) := Lib.hid (fun e => by
    have e2 : w4.heap.size = gk4 := Option.some.inj e
    have := LD.out.ex.lt
    have := LD.out.lt
    omega)
  have HGK : Hid (gk4 ≤ u4.heap.size) := Lib.hid (Nat.le_of_lt LD.out.ex.k.lt)
  go_upto_region 8 with (first
    | ((with_reducible show wpList _ _ _ ({ dst := some 24, op := Op.build _ _, type := _, pos := _, after := _, guard := _ } :: _) _ _); go_must (refine wpList_plain rfl fun K hK => wp_built _ _ _ rfl (by simp only [List.map_toArray, List.map_cons, List.map_nil]; exact built_xk _) (hK _ _ ?_)))
    | ((with_reducible show wpList _ _ _ ({ dst := some 25, op := Op.buildSlice _ _ _, type := _, pos := _, after := _, guard := _ } :: _) _ _); go_must (refine wpList_buildOne rfl 25 41 (.tmp 24) rfl (bv (xk 2)) _ 32 32 Try.underlying25 info_key (by kernel_rfl) (by omega) (by omega) (by rfl) ?_ ?_; go_simp))
    | (at_builtin; (with_reducible show wpList _ _ _ ({ dst := some 26, op := _, type := _, pos := _, after := _, guard := _ } :: _) _ _); go_must (refine wpList_addRow rfl (.tmp 23) (.tmp 25) 25 rfl gk4 41 _ 32 32 Try.underlying25 info_key (by kernel_rfl) (by omega) (.slice (some ⟨gk4, 0, none⟩) 2 2) 2 (bv xks.flatten) (bv (xk 2)) 1 (by rfl) (bv_one _) rfl ?_ HOW.out ?_ HGK.out (by unfold maxLen; omega) (by omega) ?_; go_simp; go_simp; intro v' w5 ho5 hg5; have ho5 : w5.ownsRow gk4 41 32 v' 3 (bv xks.flatten ++ bv (xk 2)) := ho5; obtain ⟨gd, cd, rd, rfl, hrd, hc1, hc2⟩ := own_rows ho5 (by rw [List.length_append]; have : (bv (xk 2)).length = 32 := rfl; omega) (by omega); have HRD := Lib.hid hrd; have HCD := Lib.hid (And.intro hc1 hc2); have HG5 := Lib.hid hg5; clear hrd hc1 hc2; have c5 : w5.cell? ⟨w4.heap.size, 5, none⟩ = some (.slice (some ⟨gk4, 0, none⟩) 2 2) := (hg5.row LD.out.row HNE.out).cell 5; have f5 := (hg5.row LD.out.row HNE.out).frozen 5; clear ho5 hg5)))
  clear c5 f5 q5
  have HV : Hid (Held (w5.setCell ⟨w4.heap.size, 5, none⟩ (.slice (some ⟨gd, 0, none⟩) 3 cd)) w4.heap.size (TRaw.cells (xRaw gs4 gd gi4 3 cd) (xTx xks3 1 0)) (xTx xks3 1 0)) := Lib.hid (by
    have h := LD.out
    have hl := h.ex.lt
    have hlt := h.lt
    have hr := HG5.out.row h.row HNE.out
    have hne : w4.heap.size ≠ gd := by
      intro e
      have h1 := hr.is
      have h2 := HRD.out.is
      rw [e] at h1
      rw [h1] at h2
      injection (Option.some.inj h2) with _ h3 _
      cases h3
    have oth : ∀ k, k ≠ gk4 → some k ≠ (Value.slice (some ⟨gk4, 0, none⟩) 2 2).ownBlock := fun k hk e => hk (Option.some.inj e)
    refine ⟨hr.set_ 5 _, _, rfl, x_in (tk := 41) (rest := rd) ((HG5.out.row h.ex.s (oth _ (by omega))).far (p := ⟨w4.heap.size, 5, none⟩) (show gs4 ≠ w4.heap.size by omega) _) ?_ ((HG5.out.row h.ex.a (oth _ (by omega))).far (p := ⟨w4.heap.size, 5, none⟩) (show ga4 ≠ w4.heap.size by omega) _) ((HG5.out.row h.ex.i (oth _ (by omega))).far (p := ⟨w4.heap.size, 5, none⟩) (show gi4 ≠ w4.heap.size by omega) _) (fun k hk => (xks3_ok k hk).1) rfl HCD.out⟩
    rw [← bv_xks3]
    exact HRD.out.far (p := ⟨w4.heap.size, 5, none⟩) (Ne.symm hne) _)
  have BV4 : Hid (Below v3.heap.size v3 (w5.setCell ⟨w4.heap.size, 5, none⟩ (.slice (some ⟨gd, 0, none⟩) 3 cd))) := Lib.hid (by
    have h := LD.out
    have hl := h.ex.lt
    have hlo := h.lo
    have hlt := h.lt
    exact (h.b.trans ((HG5.out.below HOW.out HGK.out).mono (by omega))).setCell (show v3.heap.size ≤ w4.heap.size by omega) _)
  generalize w5.setCell ⟨w4.heap.size, 5, none⟩ (.slice (some ⟨gd, 0, none⟩) 3 cd) = v4 at *
  have HA : Hid (Held v4 w1.heap.size (TRaw.cells (xRaw gs gk gi 2 2) (xTx xks 1 0)) (xTx xks 1 0)) := Lib.hid (by
    have h := LA.out
    have h0 : Held u1 w1.heap.size (TRaw.cells (xRaw gs gk gi 2 2) (xTx xks 1 0)) (xTx xks 1 0) := ⟨h.row, _, rfl, x_in (rest := []) h.ex.s (by rw [List.append_nil]; exact h.ex.k) h.ex.a h.ex.i (fun k hk => (xks_ok k hk).1) rfl (by simp [maxLen])⟩
    exact ((h0.below BV2.out).below BV3.out).below BV4.out)
  have HB4 := Lib.hid ((HB.out.below BV3.out).below BV4.out)
  have HC4 := Lib.hid (HC.out.below BV4.out)
  have hu := LA.out.b
  have B4 : Hid (Below w.heap.size w v4) := Lib.hid (hu.trans ((((BV2.out.trans (BV3.out.mono BV2.out.size))).trans (BV4.out.mono (BV2.out.trans (BV3.out.mono BV2.out.size)).size)).mono hu.size))
  have HSZD := Lib.hid (show (Try.prog.info? 33).map (·.size) = some (TRaw.cells (xRaw gs4 gd gi4 3 cd) (xTx xks3 1 0)).length by rw [tcells_len rfl]; exact size_tx)
  clear hu HB HC LA LB LC LD EX EX2 EX3 EX4 HNE HOW HGK HRD HCD HG5 BV2 BV3 BV4 HON HLN HLD
  have SA := Lib.hid (HSZ.out gs gk gi)
  have SB := Lib.hid (HSZ.out gs2 gk2 gi2)
  have SC := Lib.hid (HSZ.out gs3 gk3 gi3)
  generalize TRaw.cells (xRaw gs gk gi 2 2) (xTx xks 1 0) = ca at *
  generalize TRaw.cells (xRaw gs2 gk2 gi2 2 2) (xTx xks 1 0) = cb at *
  generalize TRaw.cells (xRaw gs3 gk3 gi3 2 2) (xTx xks 1 0) = cc at *
  generalize TRaw.cells (xRaw gs4 gd gi4 3 cd) (xTx xks3 1 0) = ce at *
  generalize w1.heap.size = g1 at *
  generalize w2.heap.size = g2 at *
  generalize w3.heap.size = g3 at *
  generalize w4.heap.size = g4 at *
  go_wp2_with ((with_reducible show wpList _ _ _ ({ dst := some 29, op := Op.load _ _, type := _, pos := _, after := _, guard := _ } :: _) _ _); go_must (refine wpList_load_at rfl 33 (.tmp 1) rfl ⟨g1, 0, none⟩ ca _ Try.underlying33 rfl SA.out (fun j v hv => by rw [addr_row, HA.out.row.cell, Nat.zero_add]; exact hv) ?_ ?_; go_simp))
  refine (held_check HA.out (x_small _ (by decide) _ _) (x_wf _ xks_ok _ _ (by constructor <;> decide) (by constructor <;> decide)) chk_a).mono ?_
  rintro e y1 ⟨rfl, hb⟩
  have hz := B4.out.size
  have HA := Lib.hid (HA.out.below hb)
  have HB4 := Lib.hid (HB4.out.below hb)
  have HC4 := Lib.hid (HC4.out.below hb)
  have HV := Lib.hid (HV.out.below hb)
  have B4 := Lib.hid (B4.out.trans (hb.mono hz))
  clear hb hz
  go_wp2_with ((with_reducible show wpList _ _ _ ({ dst := some 33, op := Op.load _ _, type := _, pos := _, after := _, guard := _ } :: _) _ _); go_must (refine wpList_load_atg (by kernel_rfl) 33 (.tmp 1) rfl ⟨g1, 0, none⟩ ca _ Try.underlying33 rfl SA.out (fun j v hv => by rw [addr_row, HA.out.row.cell, Nat.zero_add]; exact hv) ?_ ?_; go_simp))
  refine (held_total HA.out (x_small _ (by decide) _ _) tot_a).mono ?_
  rintro e y2 ⟨rfl, hb⟩
  have hz := B4.out.size
  have HA := Lib.hid (HA.out.below hb)
  have HB4 := Lib.hid (HB4.out.below hb)
  have HC4 := Lib.hid (HC4.out.below hb)
  have HV := Lib.hid (HV.out.below hb)
  have B4 := Lib.hid (B4.out.trans (hb.mono hz))
  clear hb hz
  go_wp2_with ((with_reducible show wpList _ _ _ ({ dst := some 38, op := Op.load _ _, type := _, pos := _, after := _, guard := _ } :: _) _ _); go_must (refine wpList_load_atg (by kernel_rfl) 33 (.tmp 2) rfl ⟨g2, 0, none⟩ cb _ Try.underlying33 rfl SB.out (fun j v hv => by rw [addr_row, HB4.out.row.cell, Nat.zero_add]; exact hv) ?_ ?_; go_simp))
  refine (held_check HB4.out (x_small _ (by decide) _ _) (x_wf _ xks_ok _ _ (by constructor <;> decide) (by constructor <;> decide)) chk_b).mono ?_
  rintro e y3 ⟨rfl, hb⟩
  have hz := B4.out.size
  have HA := Lib.hid (HA.out.below hb)
  have HB4 := Lib.hid (HB4.out.below hb)
  have HC4 := Lib.hid (HC4.out.below hb)
  have HV := Lib.hid (HV.out.below hb)
  have B4 := Lib.hid (B4.out.trans (hb.mono hz))
  clear hb hz
  go_wp2_with ((with_reducible show wpList _ _ _ ({ dst := some 43, op := Op.load _ _, type := _, pos := _, after := _, guard := _ } :: _) _ _); go_must (refine wpList_load_atg (by kernel_rfl) 33 (.tmp 3) rfl ⟨g3, 0, none⟩ cc _ Try.underlying33 rfl SC.out (fun j v hv => by rw [addr_row, HC4.out.row.cell, Nat.zero_add]; exact hv) ?_ ?_; go_simp))
  refine (held_check HC4.out (x_small _ (by decide) _ _) (x_wf _ xks_ok _ _ (by constructor <;> decide) (by constructor <;> decide)) chk_c).mono ?_
  rintro e y4 ⟨rfl, hb⟩
  have hz := B4.out.size
  have HA := Lib.hid (HA.out.below hb)
  have HB4 := Lib.hid (HB4.out.below hb)
  have HC4 := Lib.hid (HC4.out.below hb)
  have HV := Lib.hid (HV.out.below hb)
  have B4 := Lib.hid (B4.out.trans (hb.mono hz))
  clear hb hz
  go_wp2_with ((with_reducible show wpList _ _ _ ({ dst := some 48, op := Op.load _ _, type := _, pos := _, after := _, guard := _ } :: _) _ _); go_must (refine wpList_load_atg (by kernel_rfl) 33 (.tmp 4) rfl ⟨g4, 0, none⟩ ce _ Try.underlying33 rfl HSZD.out (fun j v hv => by rw [addr_row, HV.out.row.cell, Nat.zero_add]; exact hv) ?_ ?_; go_simp))
  refine (held_check HV.out (x_small _ (by decide) _ _) (x_wf _ xks3_ok _ _ (by constructor <;> decide) (by constructor <;> decide)) chk_d).mono ?_
  rintro e y5 ⟨rfl, hb⟩
  have hz := B4.out.size
  have HA := Lib.hid (HA.out.below hb)
  have HB4 := Lib.hid (HB4.out.below hb)
  have HC4 := Lib.hid (HC4.out.below hb)
  have HV := Lib.hid (HV.out.below hb)
  have B4 := Lib.hid (B4.out.trans (hb.mono hz))
  clear hb hz
  go_wp2_with fail
  go_ret
  exact ⟨rfl, B4.out⟩
end Go.Proofs.Ytgdikmgmpleolaa

/-
  Of part Great5: what is needed here.
-/
namespace Go.Proofs.Ytgdikmgmpleolaa
open Go.RowKit
set_option linter.unusedVariables false
set_option maxRecDepth 100000 in
set_option maxHeartbeats 400000 in
theorem great5 (s : TRaw) (x : LTx) (B : Nat) (w : World) (hm : TxIn w B s x) (hB : B ≤ w.heap.size) (hs : Sized x.m) :
    Calls Try.prog 7 #[.agg (s.cells x).toArray] w fun e w' => (∃ b, e = .returned (.bool b) ∧ (b = false → x.sigs.length ≤ 300 ∧ total x.m < 3000)) ∧ Below w.heap.size w w' := by
  obtain ⟨SA, sn, sc, q⟩ := s
  have hsl := hm.sigs.len
  have hsc := hm.sn
  dsimp only at hsl hsc
  have hrow := Row.new w 33 (TRaw.cells ⟨SA, sn, sc, q⟩ x)
  have hb0 := (Below.refl w.heap.size w).alloc (Nat.le_refl _) (.cells (TRaw.cells ⟨SA, sn, sc, q⟩ x).toArray 33)
  have c0 : (w.alloc (.cells (TRaw.cells ⟨SA, sn, sc, q⟩ x).toArray 33)).cell? ⟨w.heap.size, 0, none⟩ = some (.slice SA sn sc) := hrow.cell 0
  have HG := Lib.hid (great_ q x.m B _ (hm.below (hb0.mono hB)).m (Nat.le_trans hB hb0.size) hs)
  have HSM := Lib.hid (show (Try.prog.info? 31).map (·.size) = some (q.cells x.m).length by rw [size_msg, cells_len hm.m.recent])
  have HCM := Lib.hid (tcells_m (s := ⟨SA, sn, sc, q⟩) (x := x))
  dsimp only at HCM
  have HSL := Lib.hid hsl
  unfold maxLen at hsc
  generalize TRaw.cells ⟨SA, sn, sc, q⟩ x = cs at *
  have HROW := Lib.hid hrow
  have HB0 := Lib.hid hb0
  clear hrow hb0 hm hsl
  by_cases h : 300 < (sn : Int)
  · go_enter Try.func7, Try.ntmps7
    go_wp2_with fail
    go_ret
    exact ⟨⟨true, rfl, fun h => by cases h⟩, HB0.out⟩
  · go_enter Try.func7, Try.ntmps7
    go_wp2_with (first
      | ((with_reducible show wpList _ _ _ ({ dst := some 9, op := Op.load _ _, type := _, pos := _, after := _, guard := _ } :: _) _ _); go_must (refine wpList_load_atg (by kernel_rfl) 31 (.tmp 8) rfl ⟨w.heap.size, 1, none⟩ (q.cells x.m) _ Try.underlying31 rfl HSM.out (fun j u hu => by rw [addr_row, HROW.out.cell, HCM.out]; exact hu) ?_ ?_; go_simp)))
    refine HG.out.mono ?_
    rintro e w1 ⟨⟨b, rfl, hgr⟩, hb1⟩
    go_wp2_with fail
    go_ret
    exact ⟨⟨b, rfl, fun hb => ⟨by have := HSL.out; omega, hgr hb⟩⟩, HB0.out.trans (hb1.mono HB0.out.size)⟩
end Go.Proofs.Ytgdikmgmpleolaa

/-
  Of part Entry: what is needed here.
-/
namespace Go.Proofs.Ytgdikmgmpleolaa
open Go.RowKit Go.Maps Go.ChangeMaps Go.MapKept
open Go.WideElems (Fit findIdx_born findIdx_arr modify_last set_self)
set_option linter.unusedVariables false
section
variable {H : Type} {P : Program} {w : World} {t k e : TypeId} {R : Value → Option (DataW H × List MemPlace)} {b : Nat} {es : Array MapEntry} {clock : Nat}
theorem entry_two (K : WideMaps.KeyLaw P k) (ht : P.underlying t = some (.map k e)) {z : Value} (hz : ∀ u : World, (zeroValue e).run P u = .ok z u) (hb : w.heap[b]? = some (.map es clock)) (F : Fit P k R es clock)
    {key : Value} {kl : Lit} (hkey : Go.keyOf P k key = some kl) :
    ∃ (v0 : Value) (st : Nat) (es1 : Array MapEntry) (clock1 : Nat), (Instr.mapEntry t (.map (some b)) key).run P w = .ok (.tuple #[v0, goInt st]) (setBlock w b (.map es1 clock1)) ∧
      (Instr.lookup t (.map (some b)) key false).run P w = .ok v0 w ∧
      (Instr.mapUpdate t (.map (some b)) key v0).run P w = .ok () (setBlock w b (.map es1 clock1)) ∧
      ∀ (w2 : World) (val : Value), w2.heap[b]? = some (.map es1 clock1) → ∃ es' clock', (Instr.entryStore t (.map (some b)) (goInt st) val).run P w2 = .ok () (setBlock w2 b (.map es' clock')) ∧
        (Instr.mapUpdate t (.map (some b)) key val).run P w = .ok () (setBlock w b (.map es' clock')) := by
  obtain ⟨s1, s2, _⟩ := F.stamped
  rcases K.find w hkey es.toList F.keys with ⟨h1, h2⟩ | ⟨j, e0, h1, h2, h3⟩
  · refine ⟨z, clock, es.push ⟨key, z, clock⟩, clock + 1, ?_, ?_, ?_, fun w2 val hw2 => ⟨es.push ⟨key, val, clock⟩, clock + 1, ?_, ?_⟩⟩
    · simp [Instr.mapEntry, run_underlying ht, MapKept.run_getObj_map hb, K.check w false hkey, h1, hz, MapKept.run_setObj_map _ hb, Result.andThen, setBlock]
    · simp [Instr.lookup, run_underlying ht, MapKept.run_getObj_map hb, K.check w _ hkey, h1, hz, Result.andThen]
    · simp [Instr.mapUpdate, run_underlying ht, MapKept.run_getObj_map hb, K.check w false hkey, h1, MapKept.run_setObj_map _ hb, Result.andThen, setBlock]
    · have hidx : (es.push ⟨key, z, clock⟩).findIdx? (fun e => ((e.born : Nat) : Int) == ((clock : Nat) : Int)) = some es.size := by
        rw [findIdx_arr]
        have := findIdx_born (l := (es.push ⟨key, z, clock⟩).toList) (j := es.size) (e0 := ⟨key, z, clock⟩) (by
          simp only [Array.toList_push, List.map_append, List.map_cons, List.map_nil]
          refine List.nodup_append.2 ⟨s2, by simp, fun a ha c hc e1 => ?_⟩
          simp only [List.mem_singleton] at hc
          obtain ⟨x, hx, rfl⟩ := List.mem_map.1 ha
          have := s1 x hx
          omega) (by simp)
        exact this
      have hmod : (es.push ⟨key, z, clock⟩).modify es.size (fun e => { e with val := val }) = es.push ⟨key, val, clock⟩ := by
        apply Array.ext'
        rw [Array.toList_modify, Array.toList_push, Array.toList_push, ← Array.length_toList, modify_last]
      simp [Instr.entryStore, MapKept.run_getObj_map hw2, asInt, asIntOf, goInt, hidx, hmod, MapKept.run_setObj_map _ hw2, Result.andThen, setBlock]
    · simp [Instr.mapUpdate, run_underlying ht, MapKept.run_getObj_map hb, K.check w false hkey, h1, MapKept.run_setObj_map _ hb, Result.andThen, setBlock]
  · have hj : es[j]? = some e0 := by simpa using h2
    have hsame : es.modify j (fun e => { e with key := key }) = es := by
      apply Array.ext'
      rw [Array.toList_modify, modify_eq_set _ _ _ _ h2]
      have : ({ e0 with key := key } : MapEntry) = e0 := by rw [← h3]
      rw [this]
      exact set_self _ _ _ h2
    have hsame2 : es.modify j (fun e => { e with key := key, val := e0.val }) = es := by
      apply Array.ext'
      rw [Array.toList_modify, modify_eq_set _ _ _ _ h2]
      have : ({ e0 with key := key, val := e0.val } : MapEntry) = e0 := by rw [← h3]
      rw [this]
      exact set_self _ _ _ h2
    refine ⟨e0.val, e0.born, es, clock, ?_, ?_, ?_, fun w2 val hw2 => ⟨es.modify j (fun e' => { e' with key := key, val := val }), clock, ?_, ?_⟩⟩
    · simp [Instr.mapEntry, run_underlying ht, MapKept.run_getObj_map hb, K.check w false hkey, h1, hj, h3, K.stays w hkey, hsame, MapKept.run_setObj_map _ hb, Result.andThen, setBlock]
    · simp [Instr.lookup, run_underlying ht, MapKept.run_getObj_map hb, K.check w _ hkey, h1, Result.andThen]
    · simp [Instr.mapUpdate, run_underlying ht, MapKept.run_getObj_map hb, K.check w false hkey, h1, hj, h3, K.stays w hkey, hsame2, MapKept.run_setObj_map _ hb, Result.andThen, setBlock]
    · have hidx : es.findIdx? (fun e => ((e.born : Nat) : Int) == ((e0.born : Nat) : Int)) = some j := by
        rw [findIdx_arr]
        exact findIdx_born s2 h2
      have hmod : es.modify j (fun e => { e with val := val }) = es.modify j (fun e' => { e' with key := key, val := val }) := by
        apply Array.ext'
        rw [Array.toList_modify, Array.toList_modify, modify_eq_set _ _ _ _ h2, modify_eq_set _ _ _ _ h2, ← h3]
      simp [Instr.entryStore, MapKept.run_getObj_map hw2, asInt, asIntOf, goInt, hidx, hmod, MapKept.run_setObj_map _ hw2, Result.andThen, setBlock]
    · simp [Instr.mapUpdate, run_underlying ht, MapKept.run_getObj_map hb, K.check w false hkey, h1, hj, h3, K.stays w hkey, MapKept.run_setObj_map _ hb, Result.andThen, setBlock]
theorem setBlock_twice (w : World) (b : Nat) (o o' : Obj) : setBlock (setBlock w b o) b o' = setBlock w b o' := by simp [setBlock]
/-- a map's entry at a key, elements of an integer kind: the number that stands there; the way to store another one -/
theorem own_entry {q : IntKind} {n : Nat} {D : DataW H} (h : w.ownsMap P k (plainElem P e) b n D) (K : WideMaps.KeyLaw P k) (ht : P.underlying t = some (.map k e)) (he : P.underlying e = some (.int q)) (hz : ∀ u : World, (zeroValue e).run P u = .ok (.int q 0) u) (hn : n < maxLen)
    {key : Value} {kl : Lit} (hkey : Go.keyOf P k key = some kl) {c : Int} (hat : D.atKey kl (.lit (.int q 0)) = .lit (.int q c)) :
    ∃ (st : Int) (w1 : World), (Instr.lookup t (.map (some b)) key false).run P w = .ok (.int q c) w ∧ (Instr.mapEntry t (.map (some b)) key).run P w = .ok (.tuple #[.int q c, .int .i64 st]) w1 ∧ w.grownBy w1 (some b) ∧
      (Instr.lookup t (.map (some b)) key false).run P w1 = .ok (.int q c) w1 ∧
      ∀ (d : Int), (Lit.int q d).wf = true → ∃ w2, (Instr.entryStore t (.map (some b)) (.int .i64 st) (.int q d)).run P w1 = .ok () w2 ∧ w2.ownsMap P k (plainElem P e) b (n + 1) (D.put kl (.lit (.int q d))) ∧ w.grownBy w2 (some b) := by
  have hw0 : (Lit.int q 0).wf = true := by cases q <;> decide
  obtain ⟨c', hlk, hat', hwc⟩ := h.lookup_int (Keyed.of_law K) ht he (hz w) hkey
  obtain rfl : c' = c := by rw [hat] at hat'; injection hat' with h1; injection h1 with _ h2; exact h2.symm
  have hown := h
  obtain ⟨es, clock, hb, F, hs, hD⟩ := h
  obtain ⟨v0, st, es1, clock1, hm, hl, hu, hall⟩ := entry_two K ht hz hb F hkey
  obtain rfl : v0 = .int q c' := by rw [hl] at hlk; injection hlk
  obtain ⟨w', hu', ho', hg'⟩ := hown.update (Keyed.of_law K) ht hn hkey (plainElem_int he hwc)
  have hw' : w' = setBlock w b (.map es1 clock1) := by rw [hu] at hu'; injection hu' with _ h2; exact h2.symm
  rw [hw'] at ho' hg'
  have hat1 : (D.put kl (.lit (.int q c'))).atKey kl (.lit (.int q 0)) = .lit (.int q c') := atKey_put_same hown.isMap ((Keyed.of_law K).key hkey) _ _
  obtain ⟨c2, hl2, hat2, _⟩ := ho'.lookup_int (Keyed.of_law K) ht he (hz _) hkey
  obtain rfl : c2 = c' := by rw [hat1] at hat2; injection hat2 with h1; injection h1 with _ h2; exact h2.symm
  refine ⟨st, _, hlk, hm, hg', hl2, fun d hd => ?_⟩
  obtain ⟨es', clock', h1, h2⟩ := hall (setBlock w b (.map es1 clock1)) (.int q d) (heap_setBlock_same hb _)
  obtain ⟨w2, h3, h4, h5⟩ := hown.update (Keyed.of_law K) ht hn hkey (plainElem_int he hd)
  have hw2 : w2 = setBlock w b (.map es' clock') := by rw [h2] at h3; injection h3 with _ h6; exact h6.symm
  refine ⟨w2, ?_, h4, h5⟩
  rw [hw2]
  rw [setBlock_twice] at h1
  exact h1
end
end Go.Proofs.Ytgdikmgmpleolaa

/-
  Of part HoldWalk: what is needed here.
-/
namespace Go.Proofs.Ytgdikmgmpleolaa
open Go.RowKit Go.Maps
set_option linter.unusedVariables false
/-- what a transaction is that breaks no rule -/
structure Holds (x : LTx) : Prop where
  s : x.m.s ≠ 0 ∧ (x.sigs.length : Int) = x.m.s
  r : x.m.r < x.m.s
  o : x.m.s + x.m.o ≤ (x.m.keys.length : Int)
  l : ∀ l ∈ x.m.looks, l.wr.length + l.rd.length ≠ 0
  t : tot x.m ≤ 64
  i : ∀ i ∈ x.m.ins, (i.p ≠ 0 ∧ i.p < (x.m.keys.length : Int)) ∧ ∀ a ∈ i.acc, a < (tot x.m : Int)
  n : x.m.keys.Nodup
theorem holds_of {x : LTx} (h : chk x = 0) : Holds x := by
  have h1 : b1 x = false := by cases e : b1 x; rfl; simp [chk, e] at h
  have h2 : b2 x.m = false := by cases e : b2 x.m; rfl; simp [chk, h1, e] at h
  have h3 : b3 x.m = false := by cases e : b3 x.m; rfl; simp [chk, h1, h2, e] at h
  have h4 : b4 x.m = false := by cases e : b4 x.m; rfl; simp [chk, h1, h2, h3, e] at h
  have h5 : b5 x.m = false := by cases e : b5 x.m; rfl; simp [chk, h1, h2, h3, h4, e] at h
  have h6 : b6 x.m = false := by cases e : b6 x.m; rfl; simp [chk, h1, h2, h3, h4, h5, e] at h
  have g1 := of_decide_eq_false h1
  have g2 := of_decide_eq_false h2
  have g4 := of_decide_eq_false h4
  have g6 := of_decide_eq_false h6
  refine ⟨⟨fun e => g1 (.inl e), Classical.byContradiction fun e => g1 (.inr e)⟩, by omega, by omega, fun l hl e => ?_, by omega, fun i hi => ⟨⟨fun e => ?_, ?_⟩, fun a ha => ?_⟩, Classical.byContradiction g6⟩
  · have : x.m.looks.any noix = true := List.any_eq_true.2 ⟨l, hl, by unfold noix ixs; exact decide_eq_true e⟩
    unfold b3 at h3
    rw [this] at h3
    cases h3
  · have : x.m.ins.any (stray x.m.keys.length (tot x.m)) = true := List.any_eq_true.2 ⟨i, hi, by simp [stray, pstray, e]⟩
    unfold b5 at h5
    rw [this] at h5
    cases h5
  · refine Classical.byContradiction fun e => ?_
    have : x.m.ins.any (stray x.m.keys.length (tot x.m)) = true := List.any_eq_true.2 ⟨i, hi, by simp [stray, pstray]; left; right; omega⟩
    unfold b5 at h5
    rw [this] at h5
    cases h5
  · refine Classical.byContradiction fun e => ?_
    have : x.m.ins.any (stray x.m.keys.length (tot x.m)) = true := List.any_eq_true.2 ⟨i, hi, by
      unfold stray
      rw [Bool.or_eq_true]
      right
      exact List.any_eq_true.2 ⟨a, ha, decide_eq_true (by omega)⟩⟩
    unfold b5 at h5
    rw [this] at h5
    cases h5
def i1 : DataW Unit := .lit (.int .i64 1)
theorem zero_int (w : World) : (zeroValue 3).run Try.prog w = .ok (.int .i64 0) w := by kernel_rfl
set_option maxRecDepth 100000 in
set_option maxHeartbeats 8000000 in
theorem hold_walk (s : TRaw) (x : LTx) (w : World) (hm : TxIn w w.heap.size s x) (hs : Sized x.m) (hwf : x.m.Wf) :
    Calls Try.prog 4 #[.agg (s.cells x).toArray] w fun e w' => e = .returned (.bool true) ∧ Below w.heap.size w w' := by
  have hmm := @run_makeMap Try.prog
  have hrow := Row.new w 33 (s.cells x)
  have hb0 := (Below.refl w.heap.size w).alloc (Nat.le_refl _) (.cells (s.cells x).toArray 33)
  have hm0 := hm.below hb0
  have HG := Lib.hid (great5 s x w.heap.size _ hm0 hb0.size hs)
  have HTS := Lib.hid (show (Try.prog.info? 33).map (·.size) = some (s.cells x).length by rw [size_tx, tcells_len hm.m.recent])
  have HTR := Lib.hid (fun (V : World) (h : Row V w.heap.size 33 (s.cells x)) => TxRow.of h hm.m.recent)
  have HCK := Lib.hid (fun (V : World) (h : TxIn V w.heap.size s x) (hz : w.heap.size ≤ V.heap.size) (hsm : Small x.m) => check_ s x w.heap.size V h hz hsm hwf)
  have HTT := Lib.hid (fun (V : World) (h : TxIn V w.heap.size s x) (hz : w.heap.size ≤ V.heap.size) (hsm : Small x.m) => total_ s x w.heap.size V h hz hsm)
  have lk := hm.m.keys.len
  have ll := hm.m.looks.len
  have li := hm.m.ins.len
  have lsg := hm.sigs.len
  have hsn := hm.sn
  obtain ⟨s0, s1⟩ : 0 ≤ x.m.s ∧ x.m.s < 256 := hwf.s
  obtain ⟨r0, r1⟩ : 0 ≤ x.m.r ∧ x.m.r < 256 := hwf.r
  obtain ⟨o0, o1⟩ : 0 ≤ x.m.o ∧ x.m.o < 256 := hwf.o
  generalize s.cells x = cs at *
  obtain ⟨SA, sn, sc, KA, kn, kc, IA, n, ic, LA, ln, lc⟩ := s
  dsimp only at lk ll li lsg hsn
  unfold maxLen at hsn
  have HLK := Lib.hid lk
  have HLL := Lib.hid ll
  have HLI := Lib.hid li
  have HLS := Lib.hid lsg
  have HROW := Lib.hid hrow
  have HM0 := Lib.hid hm0
  have HB0 := Lib.hid hb0
  have HW := Lib.hid hwf
  clear hrow hb0 hm0 hm hs hwf lk ll li lsg
  go_enter Try.func4, Try.ntmps4
  go_wp2_with ((with_reducible show wpList _ _ _ ({ dst := some 13, op := Op.load _ _, type := _, pos := _, after := _, guard := _ } :: _) _ _); go_must (refine wpList_load_whole rfl 33 (.tmp 1) rfl w.heap.size 33 cs _ Try.underlying33 rfl HTS.out HROW.out ?_ ?_; go_simp))
  refine HG.out.mono ?_
  rintro e w1 ⟨⟨b, rfl, hgr⟩, hb1⟩
  have HB1 := Lib.hid (HB0.out.trans (hb1.mono HB0.out.size))
  have HM1 := Lib.hid (HM0.out.below (hb1.mono HB0.out.size))
  have HR1 := Lib.hid (HROW.out.below hb1 HROW.out.lt)
  clear hb1 HG HM0 HROW
  cases b
  rotate_left
  · clear hgr
    go_wp2_with fail
    refine (lives5 _).mono ?_
    rintro e w2 ⟨rfl, hb2⟩
    go_wp2_with fail
    go_ret
    exact ⟨rfl, HB1.out.trans (hb2.mono HB1.out.size)⟩
  obtain ⟨hsg, ht⟩ := hgr rfl
  have HSM := Lib.hid (Small.of ht)
  have HC1 := Lib.hid (HCK.out w1 HM1.out HB1.out.size HSM.out)
  clear hgr hsg ht HCK
  go_wp2_with ((with_reducible show wpList _ _ _ ({ dst := some 16, op := Op.load _ _, type := _, pos := _, after := _, guard := _ } :: _) _ _); go_must (refine wpList_load_atg (by kernel_rfl) 33 (.tmp 1) rfl ⟨w.heap.size, 0, none⟩ cs _ Try.underlying33 rfl HTS.out (fun j v hv => by rw [addr_row, HR1.out.cell, Nat.zero_add]; exact hv) ?_ ?_; go_simp))
  refine HC1.out.mono ?_
  rintro e w2 ⟨rfl, hb2⟩
  have HB2 := Lib.hid (HB1.out.trans (hb2.mono HB1.out.size))
  have HM2 := Lib.hid (HM1.out.below (hb2.mono HB1.out.size))
  have HR2 := Lib.hid (HR1.out.below hb2 HR1.out.lt)
  clear hb2 HM1 HR1 HC1
  by_cases hck : chk x = 0
  rotate_left
  · have hcb : (chk x != 0) = true := by simp [hck]
    generalize chk x = cx at *
    clear hck
    go_wp2_with fail
    refine (lives5 _).mono ?_
    rintro e w3 ⟨rfl, hb3⟩
    go_wp2_with fail
    go_ret
    exact ⟨rfl, HB2.out.trans (hb3.mono HB2.out.size)⟩
  have HH := Lib.hid (holds_of hck)
  have hcb : (chk x != 0) = false := by simp [hck]
  clear hck
  generalize chk x = cx at *
  have k1 : kn ≤ 4000 := by have := HLK.out; have := HSM.out.keys; omega
  have k2 : ln ≤ 4000 := by have := HLL.out; have := HSM.out.looks; omega
  have k3 : n ≤ 4000 := by have := HLI.out; have := HSM.out.ins; omega
  have hh1 := HH.out.s
  have hh2 := HH.out.r
  have hh3 := HH.out.o
  rw [HLS.out] at hh1
  rw [HLK.out] at hh3
  have htt := HH.out.t
  have HTW : Hid (tot x.m = kn + lookSize x.m.looks) := Lib.hid (by unfold tot; rw [HLK.out])
  obtain ⟨d0, d2, d3, d4, d5, d38, d39⟩ := HTR.out _ HR2.out
  dsimp only at d0 d5 d38 d39
  have hbx := (Below.refl w2.heap.size w2).alloc (Nat.le_refl _) (.cells #[Value.int .u8 x.m.s, .int .u8 x.m.r, .int .u8 x.m.o] 24)
  have RT := Lib.hid (HR2.out.below hbx HR2.out.lt)
  have RH := Lib.hid (Row.new w2 24 [Value.int .u8 x.m.s, .int .u8 x.m.r, .int .u8 x.m.o])
  have BW := Lib.hid (HB2.out.trans (hbx.mono HB2.out.size))
  have HM3 := Lib.hid (HM2.out.below (hbx.mono HB2.out.size))
  obtain ⟨v, hv⟩ : ∃ v, v = x.m.s := ⟨_, rfl⟩
  obtain ⟨r, hr⟩ : ∃ v, v = x.m.r := ⟨_, rfl⟩
  obtain ⟨o, ho⟩ : ∃ v, v = x.m.o := ⟨_, rfl⟩
  rw [← hv, ← hr, ← ho] at RT RH BW HM3
  rw [← hv] at d2 s0 s1 hh1 hh2 hh3
  rw [← hr] at d3 r0 r1 hh2
  rw [← ho] at d4 o0 o1 hh3
  obtain ⟨hv0, hsnv⟩ := hh1
  have HSNV := Lib.hid hsnv
  have HV0 := Lib.hid hv0
  clear hbx hv hr ho hsnv hv0
  obtain ⟨t, htot⟩ : ∃ t, t = tot x.m := ⟨_, rfl⟩
  have HTOT := Lib.hid htot
  rw [← htot] at htt HTW HTT
  clear htot
  go_upto_region 4 with fail
  clear d0 d2 d3 d4 d5 d38 d39 HR2 HM2
  generalize w2.alloc (.cells #[Value.int .u8 v, .int .u8 r, .int .u8 o] 24) = W at *
  generalize w2.heap.size = gh at *
  obtain ⟨d0, d2, d3, d4, d5, d38, d39⟩ := HTR.out _ RT.out
  dsimp only at d0 d5 d38 d39
  have e0 : W.cell? ⟨gh, 0, none⟩ = some (.int .u8 v) := RH.out.cell 0
  have e1 : W.cell? ⟨gh, 1, none⟩ = some (.int .u8 r) := RH.out.cell 1
  have e2 : W.cell? ⟨gh, 2, none⟩ = some (.int .u8 o) := RH.out.cell 2
  clear d2 d3 d4
  go_wp2_with fail
  go_loopw [5, 6] (fun aa i wr => ∃ (k j t : Nat), k ≤ ln ∧ i = .int .i64 k ∧ aa = .int .i64 t ∧ t = kn + lookSize (x.m.looks.take k) ∧ t ≤ 8000 ∧ wr = W.drewN j) (fun aa i _ => ln - (intOf i).toNat)
  case atStart => exact ⟨0, 0, kn, Nat.zero_le _, rfl, rfl, by simp [lookSize], by omega, rfl⟩
  case round =>
    obtain ⟨k, j, t', hk, rfl, rfl, hsum, hs9, rfl⟩ := hrel
    have HSU := Lib.hid hsum
    clear hsum
    by_cases hlt : k < ln
    · obtain ⟨a, y, va, vd, rfl, hab, hx, hat⟩ := HM3.out.m.looks.get hlt
      have hx2 := HSM.out.wr (List.mem_of_getElem? hx)
      have hnz := HH.out.l y (List.mem_of_getElem? hx)
      have hz := lookSize_succ hx
      have hz2 := lookSize_take (l := x.m.looks) (k + 1)
      have hz3 := HSM.out.sum
      have hc1 : W.cell? ((a.add (k * 34)).add 32) = some va := hat.cells 32 va (by rw [List.getElem?_append_right (by rw [bv_length, hat.len]; exact Nat.le_refl _), bv_length, hat.len]; rfl)
      have hc2 : W.cell? ((a.add (k * 34)).add 33) = some vd := hat.cells 33 vd (by rw [List.getElem?_append_right (by rw [bv_length, hat.len]; omega), bv_length, hat.len]; rfl)
      obtain ⟨A1, c1, rfl, _, _, _⟩ := hat.wr.is
      obtain ⟨A2, c2, rfl, _, _, _⟩ := hat.rd.is
      have q1 : W.cell? ⟨(a.add (k * 34)).block, (a.add (k * 34)).off + 32, none⟩ = some (.slice A1 y.wr.length c1) := hc1
      have q2 : W.cell? ⟨(a.add (k * 34)).block, (a.add (k * 34)).off + 33, none⟩ = some (.slice A2 y.rd.length c2) := hc2
      have HZ : Hid (t' + (y.wr.length + y.rd.length) = kn + lookSize (x.m.looks.take (k + 1))) := Lib.hid (by have := HSU.out; omega)
      have hz4 : t' + (y.wr.length + y.rd.length) ≤ 8000 := by have := HZ.out; omega
      obtain ⟨g1, g2⟩ := hx2
      generalize y.wr.length = n1 at *
      generalize y.rd.length = n2 at *
      have hnb : ((n1 : Int) + n2 == 0) = false := by simp; omega
      clear hx hat hz hz2 hz3 hc1 hc2 hnz
      go_wp2_with fail
      go_quiet (fail)
      go_wp2_with fail
      go_roundw
      case rel => exact ⟨k + 1, j + nq, t' + (n1 + n2), by omega, by go_num, by go_num, HZ.out, hz4, by simp⟩
      case measure => simp [intOf]; omega
    have hkn : k = ln := by omega
    obtain rfl : t' = t := by
      have h1 := HSU.out
      rw [hkn, List.take_of_length_le (by rw [HLL.out]; exact Nat.le_refl _)] at h1
      have := HTW.out
      omega
    clear hkn HSU hs9
    have f1 : ((sn : Int) != v) = false := by have := HSNV.out; simp [this]
    have f2 : ¬ v < 1 := by have := HV0.out; omega
    have f3 : ¬ v - r < 1 := by omega
    have f4 : ¬ (kn : Int) - v - o < 0 := by omega
    have f5 : ¬ (64 : Int) < t' := by omega
    have HTT2 := Lib.hid (HTT.out (W.drewN j) (HM3.out.keep fun p hp => rfl) BW.out.size HSM.out)
    have RTJ := Lib.hid (RT.out.drewN j)
    have BWJ := Lib.hid (below_drewN BW.out j)
    have HMJ : Hid (TxIn (W.drewN j) w.heap.size _ x) := Lib.hid (HM3.out.keep fun p hp => rfl)
    go_wp2_with ((with_reducible show wpList _ _ _ ({ dst := some 99, op := Op.load _ _, type := _, pos := _, after := _, guard := _ } :: _) _ _); go_must (refine wpList_load_atg (by kernel_rfl) 33 (.tmp 1) rfl ⟨w.heap.size, 0, none⟩ cs _ Try.underlying33 rfl HTS.out (fun j v hv => by rw [addr_row, RTJ.out.cell, Nat.zero_add]; exact hv) ?_ ?_; go_simp))
    refine HTT2.out.mono ?_
    rintro e w3 ⟨rfl, hb3⟩
    have R3 := Lib.hid (RTJ.out.below hb3 RTJ.out.lt)
    have B3 := Lib.hid (BWJ.out.trans (hb3.mono BWJ.out.size))
    have M3 := Lib.hid (HMJ.out.below (hb3.mono BWJ.out.size))
    have f6 : ((t' : Int) != t') = false := by simp
    clear hb3 RTJ BWJ HMJ HTT2 d0 d5 d38 d39 e0 e1 e2 RT RH BW HM3 HTT
    obtain ⟨_, _, _, _, d5, d38, _⟩ := HTR.out _ R3.out
    dsimp only at d5 d38
    go_wp2_with fail
    clear f1 f2 f3 f4 f5 f6
    have HLT0 : Hid (w.heap.size < w3.heap.size) := Lib.hid R3.out.lt
    have d5b : ∀ V : World, Below w3.heap.size w3 V → V.cell? ⟨w.heap.size, 5, none⟩ = some (.slice KA kn kc) := fun V hb => (hb.cell (p := ⟨w.heap.size, 5, none⟩) HLT0.out).trans d5
    have d38b : ∀ V : World, Below w3.heap.size w3 V → V.cell? ⟨w.heap.size, 38, none⟩ = some (.slice IA n ic) := fun V hb => (hb.cell (p := ⟨w.heap.size, 38, none⟩) HLT0.out).trans d38
    have D5B := Lib.hid d5b
    have D38B := Lib.hid d38b
    obtain ⟨bm, hbm⟩ : ∃ g, g = w3.heap.size := ⟨_, rfl⟩
    have HBM := Lib.hid hbm
    have HOM : Hid ((w3.alloc (.map #[] 0)).ownsMap Try.prog 41 (plainElem Try.prog 3) bm 0 (.map [] : DataW Unit)) := Lib.hid (by rw [hbm]; exact World.ownsMap_made _ _ _ _)
    have BOM : Hid (Below w3.heap.size w3 (w3.alloc (.map #[] 0))) := Lib.hid ((Below.refl _ _).alloc (Nat.le_refl _) _)
    rw [← hbm]
    clear d5 d38 d5b d38b hbm
    go_loopw [9] (fun i wr => ∃ q : Nat, q ≤ kn ∧ i = .int .i64 q ∧ wr.ownsMap Try.prog 41 (plainElem Try.prog 3) bm q (KSet i1 (x.m.keys.take q)) ∧ Below w3.heap.size w3 wr) (fun i _ => kn - (intOf i).toNat)
    case atStart => exact ⟨0, Nat.zero_le _, rfl, HOM.out, BOM.out⟩
    case round =>
      obtain ⟨q, hq, rfl, hown, hbw⟩ := hrel
      have HO := Lib.hid hown
      have HBW := Lib.hid hbw
      clear hown hbw
      by_cases hql : q < kn
      · obtain ⟨a, y, ha, hab, hx, hat⟩ := (M3.out.m.below (HBW.out.mono B3.out.size)).keys.get hql
        obtain rfl : KA = some a := ha
        have hyb := HW.out.keys y (List.mem_of_getElem? hx)
        have hle : ∀ z ∈ x.m.keys.take q, z.length = 32 ∧ AllBytes z := fun z hz => HW.out.keys z (List.mem_of_mem_take hz)
        have hnot : y ∉ x.m.keys.take q := ((nodup_take_succ hx).1 ((List.take_sublist _ _).nodup HH.out.n)).2
        have HC : Hid ((KSet i1 (x.m.keys.take q)).atKey (KL y) (.lit (.int .i64 0)) = .lit (.int .i64 0)) := Lib.hid (by rw [KSet_at i1 _ _ hle y hyb, if_neg hnot])
        have HSX := Lib.hid (show (Try.prog.info? 41).map (·.size) = some (bv y).length by rw [bv_length, hat.len]; exact size_key)
        have CA : Hid (∀ j u, (bv y)[j]? = some u → wr.cell? ((a.add (q * 32)).add j) = some u) := Lib.hid hat.cells
        have HKL := Lib.hid (KL_is hyb.1 hyb.2)
        have HTK := Lib.hid (show (x.m.keys.take (q + 1)) = x.m.keys.take q ++ [y] by rw [List.take_add_one, hx]; rfl)
        have HLT : Hid (w.heap.size < w3.heap.size ∧ a.block < w3.heap.size) := Lib.hid ⟨HLT0.out, Nat.lt_of_lt_of_le hab B3.out.size⟩
        have d5r : wr.drew.cell? ⟨w.heap.size, 5, none⟩ = some (.slice (some a) kn kc) := D5B.out wr HBW.out
        have wr1 : IntKind.i64.wrap 1 = 1 := IntWalk.i64_in _ (by omega)
        generalize bv y = X at *
        clear hyb hle hnot hx hat hab
        go_wp2_with fail
        have HS0 : Hid (wr.drew.cell? ⟨w.heap.size, 5, none⟩ = some (.slice (some a) kn kc) ∧ (∀ j u, X[j]? = some u → wr.drew.cell? ((a.add (q * 32)).add j) = some u)) := Lib.hid ⟨d5r, CA.out⟩
        have HO0 : Hid (wr.drew.ownsMap Try.prog 41 (plainElem Try.prog 3) bm q (KSet i1 (x.m.keys.take q))) := Lib.hid HO.out.drew
        have BD0 : Hid (Below w3.heap.size w3 wr.drew) := Lib.hid HBW.out.drew
        refine wp_region_held_drew (S := fun V => V.cell? ⟨w.heap.size, 5, none⟩ = some (.slice (some a) kn kc) ∧ (∀ j u, X[j]? = some u → V.cell? ((a.add (q * 32)).add j) = some u)) (by kernel_rfl) HS0.out (fun _ => ?_)
        have hgs : w.heap.size < wr.drew.heap.size ∧ a.block < wr.drew.heap.size ∧ bm ≠ w.heap.size ∧ bm ≠ a.block := ⟨Nat.lt_of_lt_of_le HLT.out.1 HBW.out.size, Nat.lt_of_lt_of_le HLT.out.2 HBW.out.size, Ne.symm (Nat.ne_of_lt (Nat.lt_of_lt_of_eq HLT.out.1 HBM.out.symm)), Ne.symm (Nat.ne_of_lt (Nat.lt_of_lt_of_eq HLT.out.2 HBM.out.symm))⟩
        have HGS := Lib.hid hgs
        clear hgs
        generalize wr.drew = V0 at *
        refine takeL (i := 0) (v := ?_) rfl (by kernel_rfl) (by kernel_rfl) (by kernel_rfl) (fun _ _ _ h => h) (Or.inl ⟨by rfl, ?_⟩) HS0.out ?_
        rotate_left
        · intro w hw
          try dsimp only at hw
          obtain ⟨q0, q1⟩ := hw
          go_simp
          try with_reducible rfl
        try simp only [Act.put, List.setIfInBounds_toArray, List.set_cons_zero, List.set_cons_succ]
        refine takeL (i := 1) (v := ?_) rfl (by kernel_rfl) (by kernel_rfl) (by kernel_rfl) (fun _ _ _ h => h) (Or.inl ⟨by rfl, ?_⟩) HS0.out ?_
        rotate_left
        · intro w hw
          try dsimp only at hw
          obtain ⟨q0, q1⟩ := hw
          go_simp
          try with_reducible rfl
        try simp only [Act.put, List.setIfInBounds_toArray, List.set_cons_zero, List.set_cons_succ]
        refine takeL (i := 2) (v := ?_) rfl (by kernel_rfl) (by kernel_rfl) (by kernel_rfl) (fun _ _ _ h => h) (Or.inl ⟨by rfl, ?_⟩) HS0.out ?_
        rotate_left
        · intro w hw
          try dsimp only at hw
          obtain ⟨q0, q1⟩ := hw
          go_simp
          try with_reducible rfl
        try simp only [Act.put, List.setIfInBounds_toArray, List.set_cons_zero, List.set_cons_succ]
        refine takeL (i := 3) (v := ?_) rfl (by kernel_rfl) (by kernel_rfl) (by kernel_rfl) (fun _ _ _ h => h) (Or.inl ⟨by rfl, ?_⟩) HS0.out ?_
        rotate_left
        · intro w hw
          try dsimp only at hw
          obtain ⟨q0, q1⟩ := hw
          go_simp
          try with_reducible rfl
        try simp only [Act.put, List.setIfInBounds_toArray, List.set_cons_zero, List.set_cons_succ]
        refine takeL (i := 4) (v := ?_) rfl (by kernel_rfl) (by kernel_rfl) (by kernel_rfl) (fun _ _ _ h => h) (Or.inl ⟨by rfl, ?_⟩) HS0.out ?_
        rotate_left
        · intro w hw
          try dsimp only at hw
          obtain ⟨q0, q1⟩ := hw
          go_simp
          try with_reducible rfl
        try simp only [Act.put, List.setIfInBounds_toArray, List.set_cons_zero, List.set_cons_succ]
        refine takeL (i := 5) (v := ?_) rfl (by kernel_rfl) (by kernel_rfl) (by kernel_rfl) (fun _ _ _ h => h) (Or.inl ⟨by rfl, ?_⟩) HS0.out ?_
        rotate_left
        · intro w hw
          try dsimp only at hw
          obtain ⟨q0, q1⟩ := hw
          go_simp
          try with_reducible rfl
        try simp only [Act.put, List.setIfInBounds_toArray, List.set_cons_zero, List.set_cons_succ]
        refine takeL (i := 6) (v := .agg X.toArray) rfl (by kernel_rfl) (by kernel_rfl) (by kernel_rfl) (fun _ _ _ h => h) (Or.inl ⟨by kernel_rfl, fun w hw => ?_⟩) HS0.out ?_
        · exact exec_load_at w 41 (.tmp 114) rfl (a.add (q * 32)) X _ Try.underlying41 rfl HSX.out hw.2 (by go_simp)
        try simp only [Act.put, List.setIfInBounds_toArray, List.set_cons_zero, List.set_cons_succ]
        obtain ⟨st, V1, hl0, hm1, hg1, hl1, hst⟩ := own_entry HO0.out arr_key.law Try.underlying45 Try.underlying3 zero_int (by unfold maxLen; omega) HKL.out HC.out
        obtain ⟨V2, hs2, ho2, hg2⟩ := hst 1 (by decide)
        have HSV : Hid (∀ V : World, V0.grownBy V (some bm) → V.cell? ⟨w.heap.size, 5, none⟩ = some (.slice (some a) kn kc) ∧ (∀ j u, X[j]? = some u → V.cell? ((a.add (q * 32)).add j) = some u)) := Lib.hid fun V hg => ⟨(hg.cell_far _ HGS.out.1 (by intro e; exact HGS.out.2.2.1 (Option.some.inj e).symm)).trans HS0.out.1, fun j u hu => (hg.cell_far _ (by rw [addr_block, addr_block]; exact HGS.out.2.1) (by rw [addr_block, addr_block]; intro e; exact HGS.out.2.2.2 (Option.some.inj e).symm)).trans (HS0.out.2 j u hu)⟩
        have HS1 := Lib.hid (HSV.out V1 hg1)
        have HS2 := Lib.hid (HSV.out V2 hg2)
        have O2 := Lib.hid ho2
        have BD2 := Lib.hid (BD0.out.grown hg2 BD0.out.size (fun j hj => by cases hj; exact Nat.le_of_eq HBM.out.symm))
        clear hst hg1 hg2 ho2
        refine readyL2 (i := 7) (j := 9) rfl rfl (by kernel_rfl) (by kernel_rfl) (by kernel_rfl) (fun K hK => ?_) (fun K hK => ?_)
        · go_simp
          refine hK.out _ _ HS0.out ?_
          clear hK K
          try simp only [Act.put, List.setIfInBounds_toArray, List.set_cons_zero, List.set_cons_succ]
          refine takeL (i := 8) (v := ?_) rfl (by kernel_rfl) (by kernel_rfl) (by kernel_rfl) (fun _ _ _ h => h) (Or.inl ⟨by rfl, ?_⟩) HS0.out ?_
          rotate_left
          · intro w hw
            try dsimp only at hw
            go_simp
            try with_reducible rfl
          try simp only [Act.put, List.setIfInBounds_toArray, List.set_cons_zero, List.set_cons_succ]
          refine readyL (i := 9) rfl (by kernel_rfl) (by kernel_rfl) fun K hK => ?_
          go_simp
          refine hK.out _ _ HS1.out ?_
          clear hK K
          try simp only [Act.put, List.setIfInBounds_toArray, List.set_cons_zero, List.set_cons_succ]
          refine takeL (i := 10) (v := ?_) rfl (by kernel_rfl) (by kernel_rfl) (by kernel_rfl) (fun _ _ _ h => h) (Or.inl ⟨by rfl, ?_⟩) HS1.out ?_
          rotate_left
          · intro w hw
            try dsimp only at hw
            go_simp
            try with_reducible rfl
          try simp only [Act.put, List.setIfInBounds_toArray, List.set_cons_zero, List.set_cons_succ]
          refine readyL (i := 11) rfl (by kernel_rfl) (by kernel_rfl) fun K hK => ?_
          go_simp
          refine hK.out _ _ HS2.out ?_
          clear hK K
          try simp only [Act.put, List.setIfInBounds_toArray, List.set_cons_zero, List.set_cons_succ]
          refine wpAnyH_done (by kernel_rfl) ?_ _
          go_wp2_with fail
          go_roundw
          case rel => exact ⟨q + 1, by omega, by go_num, by rw [HTK.out, KSet_snoc]; exact O2.out, BD2.out⟩
          case measure => simp [intOf]; omega
        · go_simp
          refine hK.out _ _ HS1.out ?_
          clear hK K
          try simp only [Act.put, List.setIfInBounds_toArray, List.set_cons_zero, List.set_cons_succ]
          refine takeL (i := 10) (v := ?_) rfl (by kernel_rfl) (by kernel_rfl) (by kernel_rfl) (fun _ _ _ h => h) (Or.inl ⟨by rfl, ?_⟩) HS1.out ?_
          rotate_left
          · intro w hw
            try dsimp only at hw
            go_simp
            try with_reducible rfl
          try simp only [Act.put, List.setIfInBounds_toArray, List.set_cons_zero, List.set_cons_succ]
          refine readyL (i := 7) rfl (by kernel_rfl) (by kernel_rfl) fun K hK => ?_
          go_simp
          refine hK.out _ _ HS1.out ?_
          clear hK K
          try simp only [Act.put, List.setIfInBounds_toArray, List.set_cons_zero, List.set_cons_succ]
          refine takeL (i := 8) (v := ?_) rfl (by kernel_rfl) (by kernel_rfl) (by kernel_rfl) (fun _ _ _ h => h) (Or.inl ⟨by rfl, ?_⟩) HS1.out ?_
          rotate_left
          · intro w hw
            try dsimp only at hw
            go_simp
            try with_reducible rfl
          try simp only [Act.put, List.setIfInBounds_toArray, List.set_cons_zero, List.set_cons_succ]
          refine readyL (i := 11) rfl (by kernel_rfl) (by kernel_rfl) fun K hK => ?_
          go_simp
          refine hK.out _ _ HS2.out ?_
          clear hK K
          try simp only [Act.put, List.setIfInBounds_toArray, List.set_cons_zero, List.set_cons_succ]
          refine wpAnyH_done (by kernel_rfl) ?_ _
          go_wp2_with fail
          go_roundw
          case rel => exact ⟨q + 1, by omega, by go_num, by rw [HTK.out, KSet_snoc]; exact O2.out, BD2.out⟩
          case measure => simp [intOf]; omega
      have hqn : q = kn := by omega
      have HSIZE : Hid (Go.Maps.size (KSet i1 (x.m.keys.take q)) = kn) := Lib.hid (by
        rw [hqn, List.take_of_length_le (by rw [HLK.out]; exact Nat.le_refl _), KSet_size i1 _ HW.out.keys HH.out.n, HLK.out])
      clear hqn
      generalize KSet i1 (x.m.keys.take q) = DD at *
      obtain ⟨wm, hwm⟩ : ∃ u : World, u = wr := ⟨_, rfl⟩
      subst hwm
      go_wp2_with fail
      go_loopw [10] (fun i wr => ∃ k : Nat, k ≤ n ∧ i = .int .i64 k ∧ Below wm.heap.size wm wr) (fun i _ => n - (intOf i).toNat)
      case atStart => exact ⟨0, Nat.zero_le _, rfl, Below.refl _ _⟩
      case round =>
        obtain ⟨i, hi, rfl, hbz⟩ := hrel
        have HBZ := Lib.hid hbz
        have HB3Z := Lib.hid (HBW.out.trans (hbz.mono HBW.out.size))
        have c38 := D38B.out wr HB3Z.out
        have HMW := Lib.hid (M3.out.m.below (HB3Z.out.mono B3.out.size))
        have BWZ := Lib.hid (B3.out.trans (HB3Z.out.mono B3.out.size))
        clear hbz
        by_cases hlt : i < n
        · obtain ⟨a, y, va, vd, rfl, hab, hx, hat⟩ := HMW.out.ins.get hlt
          obtain ⟨⟨p0, p1⟩, hacb, _⟩ := HW.out.ins y (List.mem_of_getElem? hx)
          have hacl := HSM.out.acc y (List.mem_of_getElem? hx)
          obtain ⟨⟨g0, g1⟩, g2⟩ := HH.out.i y (List.mem_of_getElem? hx)
          rw [HLK.out] at g1
          obtain ⟨A1, c1, rfl, hs1, hn1, hn2⟩ := hat.acc.is
          obtain ⟨A2, c2, rfl, _, _, _⟩ := hat.dat.is
          have HACB := Lib.hid hacb
          have HG2 := Lib.hid g2
          have HSE := Lib.hid hs1
          have HL := Lib.hid (size_in y.p (Value.slice A1 y.acc.length c1) (Value.slice A2 y.dat.length c2))
          have HAT := Lib.hid hat.cells
          have H1 := Lib.hid (inCells_one (p := y.p) hat.acc hat.dat)
          have HL3 : Hid ((inCells y.p (Value.slice A1 y.acc.length c1) (Value.slice A2 y.dat.length c2)).length = 3) := Lib.hid rfl
          have HIC : Hid (∀ (V : World) (g : Nat), Row V g 47 (inCells y.p (Value.slice A1 y.acc.length c1) (Value.slice A2 y.dat.length c2)) → V.cell? ⟨g, 0, none⟩ = some (.int .u8 y.p) ∧ V.cell? ⟨g, 1, none⟩ = some (.slice A1 y.acc.length c1)) := Lib.hid fun V g h => ⟨(in_cells h).1, (in_cells h).2.1⟩
          clear hx hacb hs1 hat g2
          generalize inCells y.p (Value.slice A1 y.acc.length c1) (Value.slice A2 y.dat.length c2) = lc' at *
          obtain ⟨p, hp⟩ : ∃ p, p = y.p := ⟨_, rfl⟩
          rw [← hp] at p0 p1 HIC g0 g1
          clear hp
          obtain ⟨m, hm⟩ : ∃ m, m = y.acc.length := ⟨_, rfl⟩
          rw [← hm] at hacl HIC HSE hn1
          have HM := Lib.hid hm
          clear hm
          have h1 : ¬ p < 1 := by omega
          have h2 : ¬ (kn : Int) - 1 < p := by omega
          clear g0
          go_wp2_with (first
            | ((with_reducible show wpList _ _ _ ({ dst := some 133, op := Op.load _ _, type := _, pos := _, after := _, guard := _ } :: _) _ _); go_must (refine wpList_load_at rfl 47 (.tmp 132) rfl (a.add (i * 3)) lc' _ Try.underlying47 rfl HL.out HAT.out ?_ ?_; go_simp))
            | ((with_reducible show wpList _ _ _ ({ dst := none, op := Op.store 47 _ _, type := _, pos := _, after := _, guard := _ } :: _) _ _); go_must (refine wpList_store_new rfl 47 (.tmp 11) (.tmp 133) rfl lc' HL.out H1.out (by rw [HL3.out]; rfl) ?_ ?_ ?_; go_simp; go_simp; intro w5 hr5 hb5 hz5; obtain ⟨i0, i1⟩ := HIC.out w5 _ hr5; have B5 := Lib.hid hb5; clear hr5 hb5 hz5)))
          have HS5 := Lib.hid (HSE.out.below (B5.out.mono BWZ.out.size))
          clear h1 h2
          go_loop [12] (fun jv => ∃ j : Nat, j ≤ m ∧ jv = .int .i64 j) (fun jv => m - (intOf jv).toNat)
          case atStart => exact ⟨0, Nat.zero_le _, rfl⟩
          case round =>
            obtain ⟨j, hj, rfl⟩ := hrel
            by_cases hjl : j < m
            · obtain ⟨b, rfl, hbb, hcb⟩ := HS5.out.byte hjl
              have hzx := getD_at (l := y.acc) (k := j) (by have := HM.out; omega)
              obtain ⟨z0, z1⟩ := HACB.out _ (List.mem_of_getElem? hzx)
              have hzt := HG2.out _ (List.mem_of_getElem? hzx)
              rw [← HTOT.out] at hzt
              clear hzx
              generalize y.acc.getD j 0 = z at *
              have h3 : ¬ (t' : Int) - 1 < z := by omega
              go_wp2_with fail
              go_round
              case rel => exact ⟨j + 1, by omega, by go_num⟩
              case measure => simp [intOf]; omega
            · go_wp2_with fail
              go_roundw
              case rel => exact ⟨i + 1, by omega, by go_num, HBZ.out.trans (B5.out.mono HBZ.out.size)⟩
              case measure => simp [intOf]; omega
        have HOZ : Hid (wr.ownsMap Try.prog 41 (plainElem Try.prog 3) bm q DD) := Lib.hid (HO.out.kept (grown_none HBZ.out) (by simp))
        have hsz : ((Go.Maps.size DD : Nat) : Int) = (kn : Int) := by rw [HSIZE.out]
        go_wp2_with ((with_reducible show wpList _ _ _ ({ dst := some 162, op := _, type := _, pos := _, after := _, guard := _ } :: _) _ _); refine wpList_len_own _ rfl _ 45 rfl 41 3 Try.underlying45 _ bm q _ rfl HOZ.out ?_)
        refine (lives5 _).mono ?_
        rintro e w6 ⟨rfl, hb6⟩
        go_wp2_with fail
        go_ret
        exact ⟨rfl, BWZ.out.trans (hb6.mono BWZ.out.size)⟩
end Go.Proofs.Ytgdikmgmpleolaa

/-
  Of part AppendN: what is needed here.
-/
namespace Go.Proofs.Ytgdikmgmpleolaa
open Go.RowKit
set_option linter.unusedVariables false
section
variable {P : Program} {w : World} {base : Nat} {t ty e : TypeId} {i : TypeInfo} {z : Value} {size bytes : Nat} {v : Value} {n m c B : Nat} {A : Option Addr} {xs news : List Value}
theorem run_append_nothingN (ht : P.underlying t = some (.slice e)) (hi : P.info? e = some i) (hown : w.ownsRow base e size v n xs) (c : Nat) :
    (Builtin.append_ #[t, t] ty #[v, .slice none 0 c]).run P w = .ok v w := by
  rcases hown.2 with ⟨rfl, rfl⟩ | ⟨g, cap, cur, rfl, _, _, hnc, _⟩ <;>
    simp [Builtin.append_, run_underlying ht, sizeOf, typeInfo, Builtin.lenOf, Builtin.firstCells, storeCells, *]
theorem wp_appendN {o : Oper} {a : Act} {K : Act → World → Prop} {Q : Exit → Act → World → Prop} (s x : Operand) (t e : TypeId) (z : Value) (size bytes : Nat)
    (ho : o.op = .call { callee := .builtin .append, args := #[s, x], argTypes := #[t, t] })
    (ht : P.underlying t = some (.slice e)) (hi : (P.info? e).map (fun i => (i.zero, i.size, i.bytes)) = some (some z, size, bytes)) (hzs : z.cells.size = size) (hs0 : 0 < size)
    (v : Value) (n : Nat) (xs : List Value) (base B : Nat) (A : Option Addr) (m c : Nat) (news : List Value)
    (hs : a.eval s = v) (hown : w.ownsRow base e size v n xs) (hx : a.eval x = .slice A m c) (hr : Sees w B A (m * size) news) (h1 : ∀ u ∈ news, u.oneCell' = true)
    (hnm : n + m ≤ maxLen) (hbytes : (n + m) * bytes ≤ 140737488355328) (hbase : base ≤ w.heap.size)
    (h : ∀ v' w', w'.ownsRow base e size v' (n + m) (xs ++ news) → Grew w w' v v' → K (a.put o.dst v') w') : o.wp P a w K Q := by
  obtain ⟨i0, hi, hz0, hz1, hz2⟩ := info_parts hi
  have hrun : ∃ v' w', (Builtin.append_ #[t, t] o.type #[v, .slice A m c]).run P w = .ok v' w' ∧ w'.ownsRow base e size v' (n + m) (xs ++ news) ∧ Grew w w' v v' := by
    cases A with
    | none =>
      have hn : news = [] := by
        cases news with
        | nil => rfl
        | cons u r =>
          obtain ⟨a, h, _⟩ := hr.cell 0 u rfl
          cases h
      subst hn
      have hl : m * size = 0 := by simpa using hr.len.symm
      obtain rfl : m = 0 := by
        rcases Nat.mul_eq_zero.1 hl with h | h
        · exact h
        · omega
      exact ⟨v, w, run_append_nothingN ht hi hown c, by simpa using hown, Grew.refl _ _⟩
    | some ad =>
      obtain ⟨v', w', hrun, h2, h3, _, h5⟩ := run_append_own_at (P := P) w base t o.type e i0 z size bytes ht hi hz0 hz1 hz2 hzs hs0 v n xs hown ad m c news hr.len
        (fun j u hu => by
          obtain ⟨a, h, _, hc⟩ := hr.cell j u hu
          cases h
          exact hc) h1 hnm hbytes hbase
      refine ⟨v', w', hrun, h2, ⟨h3, fun k hk => ?_⟩⟩
      rcases h5 with h5 | h5
      · exact .inl (h5 ▸ hk)
      · rw [h5] at hk
        cases hk
        exact .inr (Nat.le_refl _)
  obtain ⟨v', w', hr2, h2, h3⟩ := hrun
  unfold Oper.wp execOp
  simp only [ho, resolve, invoke, builtin, Sem.run_bind, Sem.run_pure, Result.andThen_ok, List.map_toArray, List.map_cons, List.map_nil, hs, hx, hr2]
  exact h v' w' h2 h3
theorem wpList_appendN {ops : Array Oper} {rest : List Oper} {o : Oper} {a : Act} {Q : Exit → Act → World → Prop} (hgd : o.guard = none) (s x : Operand) (t e : TypeId) (z : Value) (size bytes : Nat)
    (ho : o.op = .call { callee := .builtin .append, args := #[s, x], argTypes := #[t, t] })
    (ht : P.underlying t = some (.slice e)) (hi : (P.info? e).map (fun i => (i.zero, i.size, i.bytes)) = some (some z, size, bytes)) (hzs : z.cells.size = size) (hs0 : 0 < size)
    (v : Value) (n : Nat) (xs : List Value) (base B : Nat) (A : Option Addr) (m c : Nat) (news : List Value)
    (hs : a.eval s = v) (hown : w.ownsRow base e size v n xs) (hx : a.eval x = .slice A m c) (hr : Sees w B A (m * size) news) (h1 : ∀ u ∈ news, u.oneCell' = true)
    (hnm : n + m ≤ maxLen) (hbytes : (n + m) * bytes ≤ 140737488355328) (hbase : base ≤ w.heap.size)
    (h : ∀ v' w', w'.ownsRow base e size v' (n + m) (xs ++ news) → Grew w w' v v' → wpList P ops Q rest (a.put o.dst v') w') : wpList P ops Q (o :: rest) a w :=
  wpList_plain hgd fun _ hK => wp_appendN s x t e z size bytes ho ht hi hzs hs0 v n xs base B A m c news hs hown hx hr h1 hnm hbytes hbase fun v' w' h2 h3 => hK _ _ (h v' w' h2 h3)
end
theorem own_nilN (w : World) (base : Nat) (e : TypeId) (size : Nat) : w.ownsRow base e size (.slice none 0 0) 0 [] := World.ownsRow_nil w base e size
theorem own_form2 {w : World} {base : Nat} {e : TypeId} {size n : Nat} {v : Value} {xs : List Value} (h : w.ownsRow base e size v n xs) : ∃ A c, v = .slice A n c ∧ Sees w w.heap.size A (n * size) xs ∧ n ≤ c ∧ c ≤ maxLen ∧ (∀ g, v.ownBlock = some g → base ≤ g ∧ g < w.heap.size) := by
  have hlt := h.lt
  rcases h.2 with ⟨rfl, rfl⟩ | ⟨g, cap, cur, rfl, hg, hh, h1, h2, h3, h4⟩
  · have hx : xs = [] := List.eq_nil_of_length_eq_zero (by simpa using h.1)
    subst hx
    exact ⟨none, 0, rfl, by rw [Nat.zero_mul]; exact Sees.nil _ _ _, Nat.le_refl _, by simp [maxLen], hlt⟩
  · refine ⟨_, cap, rfl, ⟨h.1, fun j u hu => ⟨_, rfl, (Array.getElem?_eq_some_iff.1 hh).1, h.cells (g := g) rfl j u hu⟩⟩, h1, h2, hlt⟩
/-- a list of instructions as cells -/
structure InsCells (w : World) (B : Nat) (l : List LIn) (news : List Value) : Prop where
  len : news.length = l.length * 3
  at_ : ∀ i x, l[i]? = some x → ∃ va vd, news[i * 3]? = some (.int .u8 x.p) ∧ news[i * 3 + 1]? = some va ∧ news[i * 3 + 2]? = some vd ∧ BytesIn w B va x.acc ∧ BytesIn w B vd x.dat
  one : ∀ u ∈ news, u.oneCell' = true
theorem BytesIn.one {w : World} {B : Nat} {v : Value} {l : List Int} (h : BytesIn w B v l) : v.oneCell' = true := by
  obtain ⟨A, c, rfl, _⟩ := h.is
  rfl
theorem InsIn.cells {w : World} {B n : Nat} {A : Option Addr} {l : List LIn} (h : InsIn w B A n l) : ∃ news, InsCells w B l news ∧ Sees w B A (n * 3) news := by
  obtain ⟨ps, hps, hp⟩ : ∃ ps : List (Value × Value), ps.length = l.length ∧ ∀ i x p, l[i]? = some x → ps[i]? = some p → ∃ a, A = some a ∧ a.block < B ∧ w.cell? (a.add (i * 3)) = some (.int .u8 x.p) ∧ w.cell? (a.add (i * 3 + 1)) = some p.1 ∧ w.cell? (a.add (i * 3 + 2)) = some p.2 ∧ BytesIn w B p.1 x.acc ∧ BytesIn w B p.2 x.dat := by
    obtain ⟨ps, h1, h2⟩ := list_of (α := Value × Value) (p := fun i p => ∀ x, l[i]? = some x → ∃ a, A = some a ∧ a.block < B ∧ w.cell? (a.add (i * 3)) = some (.int .u8 x.p) ∧ w.cell? (a.add (i * 3 + 1)) = some p.1 ∧ w.cell? (a.add (i * 3 + 2)) = some p.2 ∧ BytesIn w B p.1 x.acc ∧ BytesIn w B p.2 x.dat) l.length fun i hi => by
      obtain ⟨a, va, vd, e1, e2, e3, e4, e5, e6, e7⟩ := h.at_ i _ (List.getElem?_eq_getElem hi)
      refine ⟨(va, vd), fun x hx => ?_⟩
      rw [List.getElem?_eq_getElem hi] at hx
      obtain rfl := Option.some.inj hx
      exact ⟨a, e1, e2, e3, e4, e5, e6, e7⟩
    exact ⟨ps, h1, fun i x p hx hp => h2 i p hp x hx⟩
  let f : Nat → Value := fun j => if j % 3 = 0 then .int .u8 ((l.getD (j / 3) ⟨0, [], []⟩).p) else if j % 3 = 1 then (ps.getD (j / 3) (undef, undef)).1 else (ps.getD (j / 3) (undef, undef)).2
  have hf : ∀ i x, l[i]? = some x → ∃ p, ps[i]? = some p ∧ f (i * 3) = .int .u8 x.p ∧ f (i * 3 + 1) = p.1 ∧ f (i * 3 + 2) = p.2 := by
    intro i x hx
    have hi := (List.getElem?_eq_some_iff.1 hx).1
    obtain ⟨p, hpi⟩ : ∃ p, ps[i]? = some p := ⟨_, List.getElem?_eq_getElem (by omega)⟩
    have hl : l.getD i ⟨0, [], []⟩ = x := by rw [List.getD_eq_getElem?_getD, hx]; rfl
    have hq : ps.getD i (undef, undef) = p := by rw [List.getD_eq_getElem?_getD, hpi]; rfl
    refine ⟨p, hpi, ?_, ?_, ?_⟩
    · show (if i * 3 % 3 = 0 then _ else _) = _
      rw [if_pos (by omega), show i * 3 / 3 = i by omega, hl]
    · show (if (i * 3 + 1) % 3 = 0 then _ else _) = _
      rw [if_neg (by omega), if_pos (by omega), show (i * 3 + 1) / 3 = i by omega, hq]
    · show (if (i * 3 + 2) % 3 = 0 then _ else _) = _
      rw [if_neg (by omega), if_neg (by omega), show (i * 3 + 2) / 3 = i by omega, hq]
  have hget : ∀ j, j < l.length * 3 → ((List.range (l.length * 3)).map f)[j]? = some (f j) := fun j hj => by rw [List.getElem?_map, List.getElem?_range hj]; rfl
  have hall : ∀ j, j < l.length * 3 → ∃ a, A = some a ∧ a.block < B ∧ w.cell? (a.add j) = some (f j) ∧ (f j).oneCell' = true := by
    intro j hj
    have hx := List.getElem?_eq_getElem (l := l) (i := j / 3) (by omega)
    obtain ⟨p, hpi, f0, f1, f2⟩ := hf _ _ hx
    obtain ⟨a, e1, e2, e3, e4, e5, e6, e7⟩ := hp _ _ _ hx hpi
    refine ⟨a, e1, e2, ?_⟩
    rcases (show j = j / 3 * 3 ∨ j = j / 3 * 3 + 1 ∨ j = j / 3 * 3 + 2 by omega) with h | h | h
    · rw [← h] at f0 e3; rw [e3, f0]; exact ⟨rfl, rfl⟩
    · rw [← h] at f1 e4; rw [e4, f1]; exact ⟨rfl, e6.one⟩
    · rw [← h] at f2 e5; rw [e5, f2]; exact ⟨rfl, e7.one⟩
  refine ⟨(List.range (l.length * 3)).map f, ⟨by simp, fun i x hx => ?_, fun u hu => ?_⟩, ⟨by rw [List.length_map, List.length_range, h.len], fun j u hu => ?_⟩⟩
  · have hi := (List.getElem?_eq_some_iff.1 hx).1
    obtain ⟨p, hpi, f0, f1, f2⟩ := hf _ _ hx
    obtain ⟨a, e1, e2, e3, e4, e5, e6, e7⟩ := hp _ _ _ hx hpi
    exact ⟨p.1, p.2, by rw [hget _ (by omega), f0], by rw [hget _ (by omega), f1], by rw [hget _ (by omega), f2], e6, e7⟩
  · obtain ⟨j, hj, rfl⟩ := List.mem_map.1 hu
    obtain ⟨_, _, _, _, h1⟩ := hall j (by simpa using hj)
    exact h1
  · have hj := (List.getElem?_eq_some_iff.1 hu).1
    rw [List.length_map, List.length_range] at hj
    rw [hget j hj] at hu
    obtain ⟨a, e1, e2, e3, _⟩ := hall j hj
    exact ⟨a, e1, e2, by rw [e3, Option.some.inj hu]⟩
theorem InsCells.below {w w' : World} {B : Nat} {l : List LIn} {news : List Value} (h : InsCells w B l news) (hb : Below B w w') : InsCells w' B l news :=
  ⟨h.len, fun i x hx => by
    obtain ⟨va, vd, e1, e2, e3, e4, e5⟩ := h.at_ i x hx
    exact ⟨va, vd, e1, e2, e3, e4.below hb, e5.below hb⟩, h.one⟩
theorem InsCells.more {w : World} {B B' : Nat} {l : List LIn} {news : List Value} (h : InsCells w B l news) (hb : B ≤ B') : InsCells w B' l news :=
  ⟨h.len, fun i x hx => by
    obtain ⟨va, vd, e1, e2, e3, e4, e5⟩ := h.at_ i x hx
    exact ⟨va, vd, e1, e2, e3, e4.more hb, e5.more hb⟩, h.one⟩
theorem InsCells.in_ {w : World} {B n : Nat} {A : Option Addr} {l : List LIn} {news : List Value} (h : InsCells w B l news) (hs : Sees w B A (n * 3) news) (hn : l.length = n) : InsIn w B A n l :=
  ⟨hn, fun i x hx => by
    obtain ⟨va, vd, e1, e2, e3, e4, e5⟩ := h.at_ i x hx
    obtain ⟨a, ha, hb, c0⟩ := hs.cell _ _ e1
    obtain ⟨a1, ha1, _, c1⟩ := hs.cell _ _ e2
    obtain ⟨a2, ha2, _, c2⟩ := hs.cell _ _ e3
    rw [ha] at ha1 ha2
    obtain rfl := Option.some.inj ha1
    obtain rfl := Option.some.inj ha2
    exact ⟨a, va, vd, ha, hb, c0, c1, c2, e4, e5⟩⟩
theorem InsCells.snoc {w : World} {B : Nat} {l : List LIn} {news : List Value} (h : InsCells w B l news) {y : LIn} {va vd : Value} (hb : IsByte y.p) (ha : BytesIn w B va y.acc) (hd : BytesIn w B vd y.dat) : InsCells w B (l ++ [y]) (news ++ inCells y.p va vd) := by
  refine ⟨by rw [List.length_append, h.len, List.length_append]; simp [inCells]; omega, fun i x hx => ?_, fun u hu => ?_⟩
  · by_cases hi : i < l.length
    · rw [List.getElem?_append_left hi] at hx
      obtain ⟨va, vd, e1, e2, e3, e4, e5⟩ := h.at_ i x hx
      exact ⟨va, vd, by rw [List.getElem?_append_left (by rw [h.len]; omega)]; exact e1, by rw [List.getElem?_append_left (by rw [h.len]; omega)]; exact e2, by rw [List.getElem?_append_left (by rw [h.len]; omega)]; exact e3, e4, e5⟩
    · have hlen := (List.getElem?_eq_some_iff.1 hx).1
      rw [List.length_append, List.length_singleton] at hlen
      obtain rfl : i = l.length := by omega
      rw [List.getElem?_append_right (Nat.le_refl _), Nat.sub_self] at hx
      obtain rfl : y = x := by simpa using hx
      exact ⟨va, vd, by rw [List.getElem?_append_right (by rw [h.len]; omega), h.len, Nat.sub_self]; rfl, by rw [List.getElem?_append_right (by rw [h.len]; omega), h.len, show l.length * 3 + 1 - l.length * 3 = 1 by omega]; rfl, by rw [List.getElem?_append_right (by rw [h.len]; omega), h.len, show l.length * 3 + 2 - l.length * 3 = 2 by omega]; rfl, ha, hd⟩
  · rcases List.mem_append.1 hu with hu | hu
    · exact h.one u hu
    · exact inCells_one ha hd u hu
/-- another list of keys, of instructions -/
def withKeys (x : LTx) (ks : List (List Int)) : LTx := ⟨x.sigs, { x.m with keys := ks }⟩
def withIns (x : LTx) (l : List LIn) : LTx := ⟨x.sigs, { x.m with ins := l }⟩
def rawKeys (s : TRaw) (A : Option Addr) (n c : Nat) : TRaw := { s with q := { s.q with KA := A, kn := n, kc := c } }
def rawIns (s : TRaw) (A : Option Addr) (n c : Nat) : TRaw := { s with q := { s.q with IA := A, n := n, ic := c } }
theorem cells_keys (s : TRaw) (x : LTx) (A : Option Addr) (n c : Nat) (ks : List (List Int)) : (TRaw.cells s x).set 5 (.slice A n c) = TRaw.cells (rawKeys s A n c) (withKeys x ks) := rfl
theorem cells_ins (s : TRaw) (x : LTx) (h : x.m.recent.length = 32) (A : Option Addr) (n c : Nat) (l : List LIn) : (TRaw.cells s x).set 38 (.slice A n c) = TRaw.cells (rawIns s A n c) (withIns x l) := by
  unfold TRaw.cells Raw.cells
  rw [show (38 : Nat) = 37 + 1 from rfl, List.set_cons_succ, List.set_append_right _ _ (by simp), List.set_append_right _ _ (by rw [bv_length, h]; simp), bv_length, h]
  rfl
theorem in_keys {w : World} {B g c : Nat} {s : TRaw} {x : LTx} {ks : List (List Int)} (h : TxIn w B s x) (hk : ∀ k ∈ ks, k.length = 32) {A : Option Addr} {n : Nat} (hs : Sees w B A (n * 32) (bv ks.flatten)) (hn : ks.length = n) (hc : n ≤ c ∧ c ≤ maxLen) : TxIn w B (rawKeys s A n c) (withKeys x ks) :=
  ⟨h.sigs, h.sn, ⟨h.m.recent, ⟨hn, hk, hs⟩, h.m.ins, h.m.looks, hc, h.m.n, h.m.ln⟩⟩
theorem in_ins {w : World} {B c : Nat} {s : TRaw} {x : LTx} {l : List LIn} (h : TxIn w B s x) {A : Option Addr} {n : Nat} (hs : InsIn w B A n l) (hc : n ≤ c ∧ c ≤ maxLen) : TxIn w B (rawIns s A n c) (withIns x l) :=
  ⟨h.sigs, h.sn, ⟨h.m.recent, h.m.keys, hs, h.m.looks, h.m.kn, hc, h.m.ln⟩⟩
end Go.Proofs.Ytgdikmgmpleolaa

/-
  Of part MoreMath: what is needed here.
-/
namespace Go.Proofs.Ytgdikmgmpleolaa
open Go.RowKit
set_option linter.unusedVariables false
theorem chk_same {x y : LTx} (h1 : b1 y = b1 x) (h2 : b2 y.m = b2 x.m) (h3 : b3 y.m = b3 x.m) (h4 : b4 y.m = b4 x.m) (h5 : b5 y.m = b5 x.m) (h6 : b6 y.m = b6 x.m) : chk y = chk x := by
  unfold chk
  rw [h1, h2, h3, h4, h5, h6]
theorem Holds.bs {x : LTx} (h : Holds x) : b1 x = false ∧ b2 x.m = false ∧ b3 x.m = false ∧ b4 x.m = false ∧ b5 x.m = false ∧ b6 x.m = false := by
  refine ⟨decide_eq_false fun e => ?_, decide_eq_false fun e => ?_, ?_, decide_eq_false (by have := h.t; omega), ?_, decide_eq_false fun e => e h.n⟩
  · rcases e with e | e
    · exact h.s.1 e
    · exact e h.s.2
  · have := h.r
    have := h.o
    omega
  · unfold b3
    rw [List.any_eq_false]
    intro l hl e
    exact h.l l hl (of_decide_eq_true e)
  · unfold b5
    rw [List.any_eq_false]
    intro i hi e
    unfold stray at e
    rw [Bool.or_eq_true] at e
    rcases e with e | e
    · have := of_decide_eq_true e
      have := (h.i i hi).1
      omega
    · obtain ⟨a, ha, e⟩ := List.any_eq_true.1 e
      have := of_decide_eq_true e
      have := (h.i i hi).2 a ha
      omega
theorem tot_keys (x : LTx) (ks : List (List Int)) : tot (withKeys x ks).m = ks.length + lookSize x.m.looks := rfl
theorem tot_more (x : LTx) (k : List Int) : tot (withKeys x (x.m.keys ++ [k])).m = tot x.m + 1 := by
  rw [tot_keys, List.length_append, List.length_singleton]
  unfold tot
  omega
theorem nodup_snoc {l : List (List Int)} {k : List Int} : (l ++ [k]).Nodup ↔ l.Nodup ∧ k ∉ l := by
  have := nodup_take_succ (l := l ++ [k]) (k := l.length) (x := k) (by simp)
  rwa [List.take_of_length_le (by simp), List.take_left'] at this
  rfl
/-- one key more behind the others -/
theorem chk_key {x : LTx} (h : Holds x) (k : List Int) : chk (withKeys x (x.m.keys ++ [k])) = if tot x.m = 64 then 3 else if k ∈ x.m.keys then 9 else 0 := by
  obtain ⟨h1, h2, h3, h4, h5, h6⟩ := h.bs
  have g1 : b1 (withKeys x (x.m.keys ++ [k])) = false := h1
  have hl : (withKeys x (x.m.keys ++ [k])).m.keys.length = x.m.keys.length + 1 := by simp [withKeys]
  have g2 : b2 (withKeys x (x.m.keys ++ [k])).m = false := by
    refine decide_eq_false fun e => ?_
    rw [hl] at e
    have a1 := h.r
    have a2 := h.o
    rcases e with e | e
    · exact absurd (show x.m.s ≤ x.m.r from e) (by omega)
    · have e : ((x.m.keys.length + 1 : Nat) : Int) < x.m.s + x.m.o := e
      omega
  have g3 : b3 (withKeys x (x.m.keys ++ [k])).m = false := h3
  have ht := h.t
  by_cases h64 : tot x.m = 64
  · have g4 : b4 (withKeys x (x.m.keys ++ [k])).m = true := decide_eq_true (by rw [tot_more]; omega)
    rw [if_pos h64]
    simp [chk, g1, g2, g3, g4]
  · have g4 : b4 (withKeys x (x.m.keys ++ [k])).m = false := decide_eq_false (by rw [tot_more]; omega)
    have g5 : b5 (withKeys x (x.m.keys ++ [k])).m = false := by
      unfold b5
      rw [List.any_eq_false]
      intro i hi e
      have hi : i ∈ x.m.ins := hi
      unfold stray at e
      rw [Bool.or_eq_true, hl, tot_more] at e
      rcases e with e | e
      · have := of_decide_eq_true e
        have := (h.i i hi).1
        omega
      · obtain ⟨a, ha, e⟩ := List.any_eq_true.1 e
        have := of_decide_eq_true e
        have := (h.i i hi).2 a ha
        omega
    rw [if_neg h64]
    by_cases hk : k ∈ x.m.keys
    · have g6 : b6 (withKeys x (x.m.keys ++ [k])).m = true := decide_eq_true fun e => (nodup_snoc.1 e).2 hk
      rw [if_pos hk]
      simp [chk, g1, g2, g3, g4, g5, g6]
    · have g6 : b6 (withKeys x (x.m.keys ++ [k])).m = false := decide_eq_false fun e => e (nodup_snoc.2 ⟨h.n, hk⟩)
      rw [if_neg hk]
      simp [chk, g1, g2, g3, g4, g5, g6]
/-- one instruction more, without accounts -/
theorem chk_ins {x : LTx} (h : Holds x) (p : Int) (hp : IsByte p) : chk (withIns x (x.m.ins ++ [⟨p, [], []⟩])) = if 0 < p ∧ p < (x.m.keys.length : Int) then 0 else 8 := by
  obtain ⟨h1, h2, h3, h4, h5, h6⟩ := h.bs
  have g1 : b1 (withIns x (x.m.ins ++ [⟨p, [], []⟩])) = false := h1
  have g2 : b2 (withIns x (x.m.ins ++ [⟨p, [], []⟩])).m = false := h2
  have g3 : b3 (withIns x (x.m.ins ++ [⟨p, [], []⟩])).m = false := h3
  have g4 : b4 (withIns x (x.m.ins ++ [⟨p, [], []⟩])).m = false := h4
  have g6 : b6 (withIns x (x.m.ins ++ [⟨p, [], []⟩])).m = false := h6
  have g5 : b5 (withIns x (x.m.ins ++ [⟨p, [], []⟩])).m = pstray x.m.keys.length p := by
    show (x.m.ins ++ [(⟨p, [], []⟩ : LIn)]).any (stray x.m.keys.length (tot x.m)) = _
    unfold b5 at h5
    rw [List.any_append, h5]
    simp [stray]
  have h0 := hp.1
  by_cases hc : 0 < p ∧ p < (x.m.keys.length : Int)
  · have g5 := g5.trans (show pstray x.m.keys.length p = false from decide_eq_false (by omega))
    rw [if_pos hc]
    simp [chk, g1, g2, g3, g4, g5, g6]
  · have g5 := g5.trans (show pstray x.m.keys.length p = true from decide_eq_true (by omega))
    rw [if_neg hc]
    simp [chk, g1, g2, g3, g4, g5]
/-- another number of signatures -/
theorem chk_sigs {x y : LTx} (h : Holds x) (hs : y.m.s = x.m.s) (hl : y.sigs.length = x.sigs.length + 1) : chk y = 6 := by
  have g1 : b1 y = true := decide_eq_true (by
    right
    rw [hl, hs]
    have := h.s.2
    omega)
  simp [chk, g1]
theorem small_keys {x : LTx} (h : Small x.m) {ks : List (List Int)} (hk : ks.length ≤ 4000) : Small (withKeys x ks).m := ⟨hk, h.ins, h.looks, h.sum, h.acc⟩
theorem small_ins {x : LTx} (h : Small x.m) {l : List LIn} (hk : l.length ≤ 4000) (ha : ∀ i ∈ l, i.acc.length ≤ 4000) : Small (withIns x l).m := ⟨h.keys, hk, h.looks, h.sum, ha⟩
theorem wf_keys {x : LTx} (h : x.m.Wf) {ks : List (List Int)} (hk : ∀ k ∈ ks, k.length = 32 ∧ AllBytes k) : (withKeys x ks).m.Wf := ⟨h.s, h.r, h.o, hk, h.recent, h.ins, h.looks⟩
theorem wf_ins {x : LTx} (h : x.m.Wf) {l : List LIn} (hk : ∀ i ∈ l, IsByte i.p ∧ AllBytes i.acc ∧ AllBytes i.dat) : (withIns x l).m.Wf := ⟨h.s, h.r, h.o, h.keys, h.recent, hk, h.looks⟩
end Go.Proofs.Ytgdikmgmpleolaa

/-
  Of part KeyEq: what is needed here.
-/
namespace Go.Proofs.Ytgdikmgmpleolaa
open Go.RowKit
set_option linter.unusedVariables false
def same32 (x y : List Int) (is : List Nat) : Bool := is.all fun i => x.getD i 0 == y.getD i 0
theorem eqItems_any (x y : List Int) (w : World) : ∀ (is : List Nat), (∀ i ∈ is, i < x.length ∧ i < y.length) → (Op.eqItems 9999 5 1 (bv x).toArray (bv y).toArray is).run Try.prog w = .ok (same32 x y is) w
  | [], _ => by simp [Op.eqItems, same32]
  | i :: is, h => by
    have hi := h i (by simp)
    have hc : (bv x).toArray[i]? = some (.int .u8 (x.getD i 0)) := by
      rw [List.getElem?_toArray]
      exact bv_at hi.1
    have hd : (bv y).toArray[i]? = some (.int .u8 (y.getD i 0)) := by
      rw [List.getElem?_toArray]
      exact bv_at hi.2
    have p := run_part_plain (P := Try.prog) w plainU8 (xs := (bv x).toArray) (off := i) hc
    have p2 := run_part_plain (P := Try.prog) w plainU8 (xs := (bv y).toArray) (off := i) hd
    have ih := eqItems_any x y w is fun k hk => h k (by simp [hk])
    simp only [Op.eqItems, Nat.mul_one, Sem.run_bind, p, p2, Result.andThen_ok, run_equalIn_int w 9998 5 .u8 .u8 _ _ Try.underlying5]
    cases hb : (x.getD i 0 == y.getD i 0)
    · have : same32 x y (i :: is) = false := by simp only [same32, List.all_cons, hb, Bool.false_and]
      rw [this]
      simp
    · have : same32 x y (i :: is) = same32 x y is := by simp only [same32, List.all_cons, hb, Bool.true_and]
      rw [this]
      simpa using ih
theorem same32_iff {x y : List Int} {n : Nat} (hx : x.length = n) (hy : y.length = n) : same32 x y (List.range n) = decide (x = y) := by
  rw [Bool.eq_iff_iff, decide_eq_true_iff]
  unfold same32
  rw [List.all_eq_true]
  constructor
  · intro h
    refine List.ext_getElem (by omega) fun i h1 h2 => ?_
    have := h i (by simp; omega)
    rw [beq_iff_eq, List.getD_eq_getElem?_getD, List.getD_eq_getElem?_getD, List.getElem?_eq_getElem h1, List.getElem?_eq_getElem h2] at this
    exact this
  · rintro rfl i _
    simp
theorem key_eql {x y : List Int} (hx : x.length = 32) (hy : y.length = 32) (w : World) :
    (binOp .eql 41 (.agg (bv x).toArray) (.agg (bv y).toArray)).run Try.prog w = .ok (.bool (decide (x = y))) w := by
  obtain ⟨i, hi⟩ := infoU8
  rw [run_eql_struct, show (10000 : Nat) = 9999 + 1 from rfl, run_equalIn_array w 9999 _ _ Try.underlying41 hi, cellsOfU8, eqItems_any x y w _ (fun i hi => by simp at hi; omega), same32_iff hx hy]
  rfl
end Go.Proofs.Ytgdikmgmpleolaa
