/-
  Two messages of nothing are the same.
-/
import Derived.Test.YtolijdbdpnbchaaGetMsg
import Derived.Test.YtolijdbdpnbchaaGuard
namespace Go.Proofs.Ytolijdbdpnbchaa
open Go.RowKit
set_option linter.unusedVariables false

section
variable {P : Program}
theorem wpList_load_atg {ops : Array Oper} {rest : List Oper} {op : Oper} {a : Act} {w : World} {Q : Exit → Act → World → Prop} (hw : Region.wanted op (yielded ops a.tmps) = true) (ty : TypeId) (x : Operand) (ho : op.op = .load ty x)
    (p : Addr) (cs : List Value) (d : TypeDesc) (hu : P.underlying ty = some d) (hd : d.isRow = true) (hi : (P.info? ty).map (·.size) = some cs.length) (hc : ∀ j v, cs[j]? = some v → w.cell? (p.add j) = some v)
    (hx : a.eval x = .pointer (some p)) (h : wpList P ops Q rest (a.put op.dst (.agg cs.toArray)) w) : wpList P ops Q (op :: rest) a w :=
  BigFrame.wpList_want hw fun _ hK => by
    unfold Oper.wp execOp
    simp only [ho, hx, Sem.run_bind, Sem.run_pure, run_loadAt_at w p ty cs d hc hu hd hi, Result.andThen_ok]
    exact hK _ _ h
end

theorem zero_neq (w : World) : (binOp .neq 27 (.agg (bv zero32).toArray) (.agg (bv zero32).toArray)).run Try.prog w = .ok (.bool false) w := by kernel_rfl

theorem same_key0 (w : World) : Calls Try.prog 52 #[.slice none 0 0, .slice none 0 0] w fun e w' => e = .returned (.bool true) ∧ w' = w := by
  go_enter Try.func52, Try.ntmps52
  go_wp2
  go_loopw [5] (fun i wr => i = .int .i64 0 ∧ wr = w) (fun i _ => 0)
  case atStart => exact ⟨rfl, rfl⟩
  case round =>
    obtain ⟨rfl, rfl⟩ := hrel
    go_wp2
    go_ret
    exact ⟨rfl, rfl⟩

set_option maxRecDepth 100000 in
set_option maxHeartbeats 1000000 in
theorem same_zero (w : World) : Calls Try.prog 27 #[.agg mzero.toArray, .agg mzero.toArray] w fun e w' => e = .returned (.bool true) ∧ Below w.heap.size w w' := by
  have hr0 : Row ((w.alloc (.cells mzero.toArray 31)).alloc (.cells mzero.toArray 31)) w.heap.size 31 mzero := (Row.new w 31 mzero).alloc _
  have hr1 : Row ((w.alloc (.cells mzero.toArray 31)).alloc (.cells mzero.toArray 31)) (w.heap.size + 1) 31 mzero := by
    have := Row.new (w.alloc (.cells mzero.toArray 31)) 31 mzero
    simpa using this
  have HB := Lib.hid (((Below.refl w.heap.size w).alloc (Nat.le_refl _) (.cells mzero.toArray 31)).alloc (by simp) (.cells mzero.toArray 31))
  have HR0 := Lib.hid hr0
  have HR1 := Lib.hid hr1
  clear hr0 hr1
  have c0 : mzero[0]? = some (.bool false) := rfl
  have c1 : mzero[1]? = some (.int .u8 0) := rfl
  have c2 : mzero[2]? = some (.int .u8 0) := rfl
  have c3 : mzero[3]? = some (.int .u8 0) := rfl
  have c4 : mzero[4]? = some (.slice none 0 0) := rfl
  have c37 : mzero[37]? = some (.slice none 0 0) := rfl
  have c38 : mzero[38]? = some (.slice none 0 0) := rfl
  have H5 := Lib.hid (show ∀ j u, (bv zero32)[j]? = some u → mzero[5 + j]? = some u from fun j u h => cells_recent (q := ⟨none, 0, 0, none, 0, 0, none, 0, 0⟩) (m := ⟨false, 0, 0, 0, [], zero32, [], []⟩) h)
  have ZN := zero_neq
  have HSZ := Lib.hid (show (Try.prog.info? 27).map (·.size) = some (bv zero32).length by rw [size_hash, bv_length, zero32_len])
  generalize mzero = mz at *
  generalize (bv zero32) = z32 at *
  go_enter Try.func27, Try.ntmps27
  go_wp2_with (first
    | ((with_reducible show wpList _ _ _ ({ dst := some 21, op := Op.load _ _, type := _, pos := _, after := _, guard := _ } :: _) _ _); go_must (refine wpList_load_atg (by kernel_rfl) 27 (.tmp 20) rfl ⟨w.heap.size, 5, none⟩ z32 _ Try.underlying27 rfl HSZ.out (fun j u hu => by rw [addr_row, HR0.out.cell]; exact H5.out j u hu) ?_ ?_; go_simp))
    | ((with_reducible show wpList _ _ _ ({ dst := some 23, op := Op.load _ _, type := _, pos := _, after := _, guard := _ } :: _) _ _); go_must (refine wpList_load_atg (by kernel_rfl) 27 (.tmp 22) rfl ⟨w.heap.size + 1, 5, none⟩ z32 _ Try.underlying27 rfl HSZ.out (fun j u hu => by rw [addr_row, HR1.out.cell]; exact H5.out j u hu) ?_ ?_; go_simp)))
  refine (same_key0 _).mono ?_
  rintro e w' ⟨rfl, rfl⟩
  go_wp2_with fail
  go_loopw [5] (fun i wr => i = .int .i64 0 ∧ wr = (w.alloc (Obj.cells mz.toArray 31)).alloc (Obj.cells mz.toArray 31)) (fun i _ => 0)
  case atStart => exact ⟨rfl, rfl⟩
  case round =>
    obtain ⟨rfl, rfl⟩ := hrel
    go_wp2_with fail
    go_loopw [6] (fun i wr => i = .int .i64 0 ∧ wr = (w.alloc (Obj.cells mz.toArray 31)).alloc (Obj.cells mz.toArray 31)) (fun i _ => 0)
    case atStart => exact ⟨rfl, rfl⟩
    case round =>
      obtain ⟨rfl, rfl⟩ := hrel
      go_wp2_with fail
      go_ret
      exact ⟨rfl, HB.out⟩
end Go.Proofs.Ytolijdbdpnbchaa
