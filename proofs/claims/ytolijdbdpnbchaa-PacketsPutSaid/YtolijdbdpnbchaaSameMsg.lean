/-
  Two messages that read alike are the same: SameMessage.
-/
import Derived.Test.YtolijdbdpnbchaaSameZero
import Derived.Test.YtolijdbdpnbchaaSame
import Derived.ChangeKeysEq
import Derived.Deep.QuietTactic
import Derived.BigQuiet
namespace Go.Proofs.Ytolijdbdpnbchaa
open Go.RowKit
set_option linter.unusedVariables false

section
variable {P : Program} {ops : Array Oper} {C : World → Prop} {Q : Act → Prop} {a : Act} {o : Oper} {rest : List Oper}
/-- a value of many cells, read in a region that only reads -/
theorem quiet_load_at (hw : Region.wanted o (yielded ops a.tmps) = true) (ty : TypeId) (x : Operand) (ho : o.op = .load ty x)
    (p : Addr) (cs : List Value) (d : TypeDesc) (hu : P.underlying ty = some d) (hd : d.isRow = true) (hi : (P.info? ty).map (·.size) = some cs.length) (hc : ∀ w, C w → ∀ j v, cs[j]? = some v → w.cell? (p.add j) = some v)
    (hx : a.eval x = .pointer (some p)) (h : wpQuiet P ops C Q rest (a.put o.dst (.agg cs.toArray))) : wpQuiet P ops C Q (o :: rest) a :=
  BigFrame.wpQuiet_want hw fun K hK => ⟨_, fun w hC => by
    unfold Oper.quietAt execOp
    simp only [ho, hx, Sem.run_bind, Sem.run_pure, run_loadAt_at w p ty cs d (hc w hC) hu hd hi, Result.andThen_ok]
    exact ⟨rfl, rfl⟩, hK _ h⟩
end

theorem plainU8 : Try.prog.plainKey 5 = true := by kernel_rfl
theorem infoU8 : ∃ i, Try.prog.info? 5 = some i := by
  obtain ⟨i, h, _⟩ := info_parts info_u8
  exact ⟨i, h⟩
theorem cellsOfU8 : Try.prog.cellsOf 5 = 1 := by kernel_rfl

theorem eqItems_same (z : List Int) (w : World) : ∀ (is : List Nat), (∀ i ∈ is, i < z.length) → (Op.eqItems 9999 5 1 (bv z).toArray (bv z).toArray is).run Try.prog w = .ok true w
  | [], _ => by simp [Op.eqItems]
  | i :: is, h => by
    have hi := h i (by simp)
    have hc : (bv z).toArray[i]? = some (.int .u8 (z.getD i 0)) := by
      rw [List.getElem?_toArray]
      exact bv_at hi
    have p := run_part_plain (P := Try.prog) w plainU8 (xs := (bv z).toArray) (off := i) hc
    have ih := eqItems_same z w is fun k hk => h k (by simp [hk])
    simp only [Op.eqItems, Nat.mul_one, Sem.run_bind, p, Result.andThen_ok, run_equalIn_int w 9998 5 .u8 .u8 _ _ Try.underlying5, beq_self_eq_true, Bool.not_true, Bool.false_eq_true, if_false]
    exact ih

theorem same_neq {t : TypeId} (ht : Try.prog.underlying t = some (.array 32 5)) (z : List Int) (hz : z.length = 32) (w : World) :
    (binOp .neq t (.agg (bv z).toArray) (.agg (bv z).toArray)).run Try.prog w = .ok (.bool false) w := by
  obtain ⟨i, hi⟩ := infoU8
  rw [run_neq_struct, show (10000 : Nat) = 9999 + 1 from rfl, run_equalIn_array w 9999 _ _ ht hi, cellsOfU8, eqItems_same z w _ (fun i hi => by simp at hi; omega)]
  rfl

set_option maxRecDepth 100000 in
set_option maxHeartbeats 600000 in
theorem same_keys (A B : Option Addr) (n c d : Nat) (l : List (List Int)) (w : World) (S T : Nat) (hx : KeysIn w S A n l) (hy : KeysIn w T B n l) (hn : n ≤ maxLen) :
    Calls Try.prog 52 #[.slice A n c, .slice B n d] w fun e w' => e = .returned (.bool true) ∧ ∃ k, w' = w.drewN k := by
  unfold maxLen at hn
  have HX := Lib.hid hx
  have HY := Lib.hid hy
  clear hx hy
  go_enter Try.func52, Try.ntmps52
  go_wp2
  go_loopw [5] (fun i wr => ∃ k j : Nat, k ≤ n ∧ i = .int .i64 k ∧ wr = w.drewN j) (fun i _ => n - (intOf i).toNat)
  case atStart => exact ⟨0, 0, Nat.zero_le _, rfl, rfl⟩
  case round =>
    obtain ⟨k, j, hk, rfl, rfl⟩ := hrel
    by_cases hlt : k < n
    · obtain ⟨a, x, rfl, ha, hxl, hxa⟩ := HX.out.get hlt
      obtain ⟨b, y, rfl, hb, hyl, hyb⟩ := HY.out.get hlt
      obtain rfl : x = y := by rw [hxl] at hyl; exact Option.some.inj hyl
      have ca := hxa.cells
      have cb := hyb.cells
      have NQ := fun w => same_neq Try.underlying58 x hxa.len w
      have HSZ := Lib.hid (show (Try.prog.info? 58).map (·.size) = some (bv x).length by rw [size_key, bv_length, hxa.len])
      have CA := Lib.hid ca
      have CB := Lib.hid cb
      clear ca cb hxl hyl
      generalize bv x = X at *
      go_wp2
      refine wp_region_quiet_lit (by kernel_rfl) (by kernel_rfl) ?_
      repeat (first
        | ((with_reducible show wpQuiet _ _ _ _ ({ dst := some 20, op := Op.load _ _, type := _, pos := _, after := _, guard := _ } :: _) _); go_must (refine quiet_load_at (by kernel_rfl) 58 (.tmp 19) rfl (a.add (k * 32)) X _ Try.underlying58 rfl HSZ.out (by rintro _ ⟨nq, rfl⟩; exact CA.out) ?_ ?_; go_simp; go_simp))
        | ((with_reducible show wpQuiet _ _ _ _ ({ dst := some 24, op := Op.load _ _, type := _, pos := _, after := _, guard := _ } :: _) _); go_must (refine quiet_load_at (by kernel_rfl) 58 (.tmp 23) rfl (b.add (k * 32)) X _ Try.underlying58 rfl HSZ.out (by rintro _ ⟨nq, rfl⟩; exact CB.out) ?_ ?_; go_simp; go_simp))
        | go_big_quiet_step (fail))
      refine wpQuiet_nil ?_
      intro nq
      go_wp2
      go_roundw
      case rel => exact ⟨k + 1, j + nq, by omega, by go_num, by simp⟩
      case measure => simp [intOf]; omega
    · go_wp2
      go_ret
      exact ⟨rfl, j, rfl⟩

theorem quiet_more {P : Program} {f : FuncId} {args : Array Value} {w : World} {j n : Nat} {v : Value}
    (h : Calls P f args (w.drewN (j + n)) fun e w' => e = .returned v ∧ ∃ m, w' = (w.drewN (j + n)).drewN m) : Calls P f args (w.drewN (j + n)) fun e w'' => e = .returned v ∧ ∃ m, w'' = w.drewN (j + m) :=
  h.mono fun _ _ ⟨he, m, hm⟩ => ⟨he, n + m, by rw [hm, World.drewN_drewN, Nat.add_assoc]⟩

theorem same_yes3b (A B : Option Addr) (n m c d : Nat) (xs : List Int) (w : World) (S T : Nat)
    (hx : Sees w S A n (bv xs)) (hy : Sees w T B m (bv xs)) (hn : n ≤ maxLen) (hm : m ≤ maxLen) :
    Calls Try.prog 34 #[.slice A n c, .slice B m d] w fun e w' => e = .returned (.bool true) ∧ ∃ k, w' = w.drewN k := by
  refine (same_byte A B n m c d xs xs w S T hx hy hn hm).mono ?_
  rintro e w' ⟨rfl, k, rfl⟩
  exact ⟨by simp, k, rfl⟩

theorem lens {w w' : World} {B B' : Nat} {q q' : Raw} {m : LMsg} (h : MsgIn w B q m) (h' : MsgIn w' B' q' m) : q'.kn = q.kn ∧ q'.n = q.n ∧ q'.ln = q.ln :=
  ⟨h'.keys.len.symm.trans h.keys.len, h'.ins.len.symm.trans h.ins.len, h'.looks.len.symm.trans h.looks.len⟩

set_option maxRecDepth 100000 in
set_option maxHeartbeats 1000000 in
theorem same_msg (q q' : Raw) (m : LMsg) (B B' : Nat) (w : World) (h : MsgIn w B q m) (hB : B ≤ w.heap.size) (h' : MsgIn w B' q' m) (hB' : B' ≤ w.heap.size) :
    Calls Try.prog 27 #[.agg (q.cells m).toArray, .agg (q'.cells m).toArray] w fun e w' => e = .returned (.bool true) ∧ Below w.heap.size w w' := by
  obtain ⟨KA, kn, kc, IA, n, ic, LA, ln, lc⟩ := q
  obtain ⟨KB, kn', kd, IB, n', id, LB, ln', ld⟩ := q'
  obtain ⟨e1, e2, e3⟩ := lens h h'
  dsimp only at e1 e2 e3
  obtain rfl := e1.symm
  obtain rfl := e2.symm
  obtain rfl := e3.symm
  have hr0 := (Row.new w 31 (Raw.cells ⟨KA, kn, kc, IA, n, ic, LA, ln, lc⟩ m)).alloc (.cells (Raw.cells ⟨KB, kn, kd, IB, n, id, LB, ln, ld⟩ m).toArray 31)
  have hr1 : Row ((w.alloc (.cells (Raw.cells ⟨KA, kn, kc, IA, n, ic, LA, ln, lc⟩ m).toArray 31)).alloc (.cells (Raw.cells ⟨KB, kn, kd, IB, n, id, LB, ln, ld⟩ m).toArray 31)) (w.heap.size + 1) 31 (Raw.cells ⟨KB, kn, kd, IB, n, id, LB, ln, ld⟩ m) := by
    have := Row.new (w.alloc (.cells (Raw.cells ⟨KA, kn, kc, IA, n, ic, LA, ln, lc⟩ m).toArray 31)) 31 (Raw.cells ⟨KB, kn, kd, IB, n, id, LB, ln, ld⟩ m)
    simpa using this
  have hbw := (((Below.refl w.heap.size w).alloc (Nat.le_refl _) (.cells (Raw.cells ⟨KA, kn, kc, IA, n, ic, LA, ln, lc⟩ m).toArray 31)).alloc (by simp) (.cells (Raw.cells ⟨KB, kn, kd, IB, n, id, LB, ln, ld⟩ m).toArray 31))
  have hw : MsgIn _ B _ m := h.below (hbw.mono hB)
  have hw' : MsgIn _ B' _ m := h'.below (hbw.mono hB')
  have k1 := h.kn
  have k2 := h.n
  have k3 := h.ln
  dsimp only at k1 k2 k3
  have hrec := h.recent
  have H5 := Lib.hid (show ∀ j u, (bv m.recent)[j]? = some u → (Raw.cells ⟨KA, kn, kc, IA, n, ic, LA, ln, lc⟩ m)[5 + j]? = some u from fun j u h => cells_recent h)
  have H5' := Lib.hid (show ∀ j u, (bv m.recent)[j]? = some u → (Raw.cells ⟨KB, kn, kd, IB, n, id, LB, ln, ld⟩ m)[5 + j]? = some u from fun j u h => cells_recent h)
  have HSZ := Lib.hid (show (Try.prog.info? 27).map (·.size) = some (bv m.recent).length by rw [size_hash, bv_length, hrec])
  have NQ := fun w => same_neq Try.underlying27 m.recent hrec w
  have c0 : (Raw.cells ⟨KA, kn, kc, IA, n, ic, LA, ln, lc⟩ m)[0]? = some (.bool m.v0) := rfl
  have c1 : (Raw.cells ⟨KA, kn, kc, IA, n, ic, LA, ln, lc⟩ m)[1]? = some (.int .u8 m.s) := rfl
  have c2 : (Raw.cells ⟨KA, kn, kc, IA, n, ic, LA, ln, lc⟩ m)[2]? = some (.int .u8 m.r) := rfl
  have c3 : (Raw.cells ⟨KA, kn, kc, IA, n, ic, LA, ln, lc⟩ m)[3]? = some (.int .u8 m.o) := rfl
  have c4 : (Raw.cells ⟨KA, kn, kc, IA, n, ic, LA, ln, lc⟩ m)[4]? = some (.slice KA kn kc) := rfl
  have c37 : (Raw.cells ⟨KA, kn, kc, IA, n, ic, LA, ln, lc⟩ m)[37]? = some (.slice IA n ic) := cells_37 hrec
  have c38 : (Raw.cells ⟨KA, kn, kc, IA, n, ic, LA, ln, lc⟩ m)[38]? = some (.slice LA ln lc) := cells_38 hrec
  have d0 : (Raw.cells ⟨KB, kn, kd, IB, n, id, LB, ln, ld⟩ m)[0]? = some (.bool m.v0) := rfl
  have d1 : (Raw.cells ⟨KB, kn, kd, IB, n, id, LB, ln, ld⟩ m)[1]? = some (.int .u8 m.s) := rfl
  have d2 : (Raw.cells ⟨KB, kn, kd, IB, n, id, LB, ln, ld⟩ m)[2]? = some (.int .u8 m.r) := rfl
  have d3 : (Raw.cells ⟨KB, kn, kd, IB, n, id, LB, ln, ld⟩ m)[3]? = some (.int .u8 m.o) := rfl
  have d4 : (Raw.cells ⟨KB, kn, kd, IB, n, id, LB, ln, ld⟩ m)[4]? = some (.slice KB kn kd) := rfl
  have d37 : (Raw.cells ⟨KB, kn, kd, IB, n, id, LB, ln, ld⟩ m)[37]? = some (.slice IB n id) := cells_37 hrec
  have d38 : (Raw.cells ⟨KB, kn, kd, IB, n, id, LB, ln, ld⟩ m)[38]? = some (.slice LB ln ld) := cells_38 hrec
  generalize Raw.cells ⟨KA, kn, kc, IA, n, ic, LA, ln, lc⟩ m = ca at *
  generalize Raw.cells ⟨KB, kn, kd, IB, n, id, LB, ln, ld⟩ m = cb at *
  generalize bv m.recent = z32 at *
  have HR0 := Lib.hid hr0
  have HR1 := Lib.hid hr1
  have HB := Lib.hid hbw
  have HW := Lib.hid hw
  have HW' := Lib.hid hw'
  unfold maxLen at k1 k2 k3
  clear hr0 hr1 hbw hw hw' h h' hrec
  go_enter Try.func27, Try.ntmps27
  go_wp2_with (first
    | ((with_reducible show wpList _ _ _ ({ dst := some 21, op := Op.load _ _, type := _, pos := _, after := _, guard := _ } :: _) _ _); go_must (refine wpList_load_atg (by kernel_rfl) 27 (.tmp 20) rfl ⟨w.heap.size, 5, none⟩ z32 _ Try.underlying27 rfl HSZ.out (fun j u hu => by rw [addr_row, HR0.out.cell]; exact H5.out j u hu) ?_ ?_; go_simp))
    | ((with_reducible show wpList _ _ _ ({ dst := some 23, op := Op.load _ _, type := _, pos := _, after := _, guard := _ } :: _) _ _); go_must (refine wpList_load_atg (by kernel_rfl) 27 (.tmp 22) rfl ⟨w.heap.size + 1, 5, none⟩ z32 _ Try.underlying27 rfl HSZ.out (fun j u hu => by rw [addr_row, HR1.out.cell]; exact H5'.out j u hu) ?_ ?_; go_simp)))
  refine (same_keys KA KB kn kc kd m.keys _ B B' HW.out.keys HW'.out.keys (by unfold maxLen; omega)).mono ?_
  rintro e w5 ⟨rfl, k5, hw5⟩
  have hr5 : Row w5 w.heap.size 31 ca := by rw [hw5]; exact HR0.out.drewN k5
  have hr5' : Row w5 (w.heap.size + 1) 31 cb := by rw [hw5]; exact HR1.out.drewN k5
  have hm5 : MsgIn w5 B ⟨KA, kn, kc, IA, n, ic, LA, ln, lc⟩ m := by rw [hw5]; exact HW.out.drewN k5
  have hm5' : MsgIn w5 B' ⟨KB, kn, kd, IB, n, id, LB, ln, ld⟩ m := by rw [hw5]; exact HW'.out.drewN k5
  have hb5 : Below w.heap.size w w5 := by rw [hw5]; exact below_drewN HB.out k5
  have g37 : w5.cell? ⟨w.heap.size, 37, none⟩ = some (.slice IA n ic) := (hr5.cell 37).trans c37
  have g38 : w5.cell? ⟨w.heap.size, 38, none⟩ = some (.slice LA ln lc) := (hr5.cell 38).trans c38
  have g37' : w5.cell? ⟨w.heap.size + 1, 37, none⟩ = some (.slice IB n id) := (hr5'.cell 37).trans d37
  have g38' : w5.cell? ⟨w.heap.size + 1, 38, none⟩ = some (.slice LB ln ld) := (hr5'.cell 38).trans d38
  have HI := Lib.hid hm5.ins
  have HI' := Lib.hid hm5'.ins
  have HL := Lib.hid hm5.looks
  have HL' := Lib.hid hm5'.looks
  have HB5 := Lib.hid hb5
  clear hr5 hr5' hm5 hm5' hb5 hw5 c0 c1 c2 c3 c4 c37 c38 d0 d1 d2 d3 d4 d37 d38 H5 H5' HSZ NQ HR0 HR1 HB HW HW'
  go_wp2_with fail
  go_loopw [5] (fun i wr => ∃ k j : Nat, k ≤ n ∧ i = .int .i64 k ∧ wr = w5.drewN j) (fun i _ => n - (intOf i).toNat)
  case atStart => exact ⟨0, 0, Nat.zero_le _, rfl, rfl⟩
  case round =>
    obtain ⟨k, j, hk, rfl, rfl⟩ := hrel
    by_cases hlt : k < n
    · obtain ⟨a, x, va, vd, rfl, ha, hxl, hxa⟩ := HI.out.get hlt
      obtain ⟨b, y, vb, ve, rfl, hb, hyl, hyb⟩ := HI'.out.get hlt
      obtain rfl : x = y := by rw [hxl] at hyl; exact Option.some.inj hyl
      have p0 : w5.cell? (a.add (k * 3)) = some (.int .u8 x.p) := by have := hxa.cells 0 _ rfl; rwa [addr_add, Nat.add_zero] at this
      have p1 : w5.cell? ⟨(a.add (k * 3)).block, (a.add (k * 3)).off + 1, none⟩ = some va := hxa.cells 1 _ rfl
      have p2 : w5.cell? ⟨(a.add (k * 3)).block, (a.add (k * 3)).off + 2, none⟩ = some vd := hxa.cells 2 _ rfl
      have r0 : w5.cell? (b.add (k * 3)) = some (.int .u8 x.p) := by have := hyb.cells 0 _ rfl; rwa [addr_add, Nat.add_zero] at this
      have r1 : w5.cell? ⟨(b.add (k * 3)).block, (b.add (k * 3)).off + 1, none⟩ = some vb := hyb.cells 1 _ rfl
      have r2 : w5.cell? ⟨(b.add (k * 3)).block, (b.add (k * 3)).off + 2, none⟩ = some ve := hyb.cells 2 _ rfl
      have sa := hxa.acc
      have sd := hxa.dat
      have sb := hyb.acc
      have se := hyb.dat
      obtain ⟨A1, m1, rfl, s1, s1a, s1b⟩ := sa.is
      obtain ⟨A2, m2, rfl, s2, s2a, s2b⟩ := sd.is
      obtain ⟨A3, m3, rfl, s3, s3a, s3b⟩ := sb.is
      obtain ⟨A4, m4, rfl, s4, s4a, s4b⟩ := se.is
      have S1 := fun nn => same_yes3b A1 A3 _ _ m1 m3 x.acc (w5.drewN nn) _ _ (s1.drewN nn) (s3.drewN nn) (by omega) (by omega)
      have S2 := fun nn => same_yes3b A2 A4 _ _ m2 m4 x.dat (w5.drewN nn) _ _ (s2.drewN nn) (s4.drewN nn) (by omega) (by omega)
      have T1 := Lib.hid S1
      have T2 := Lib.hid S2
      clear S1 S2 s1 s2 s3 s4 sa sd sb se hxl hyl hxa hyb
      go_wp2_with fail
      refine wp_region_quiet_lit (by kernel_rfl) (by kernel_rfl) ?_
      repeat (go_big_quiet_step (first | (go_at_call 34; with_reducible refine quiet_more (T1.out _)) | (go_at_call 34; with_reducible refine quiet_more (T2.out _))))
      refine wpQuiet_nil ?_
      intro _ hwq
      obtain ⟨nq, hwq'⟩ := hwq
      subst hwq'
      go_wp2_with fail
      go_roundw
      case rel => exact ⟨k + 1, j + nq, by omega, by go_num, by simp⟩
      case measure => simp [intOf]; omega
    · go_wp2_with fail
      obtain ⟨w6, hw6⟩ : ∃ w6, w6 = w5.drewN j := ⟨_, rfl⟩
      have h38 : w6.cell? ⟨w.heap.size, 38, none⟩ = some (.slice LA ln lc) := by rw [hw6]; exact g38
      have h38' : w6.cell? ⟨w.heap.size + 1, 38, none⟩ = some (.slice LB ln ld) := by rw [hw6]; exact g38'
      have HL6 : Hid (LooksIn w6 B LA ln m.looks) := by rw [hw6]; exact Lib.hid (HL.out.keep fun p hp => rfl)
      have HL6' : Hid (LooksIn w6 B' LB ln m.looks) := by rw [hw6]; exact Lib.hid (HL'.out.keep fun p hp => rfl)
      have HB6 : Hid (Below w.heap.size w w6) := by rw [hw6]; exact Lib.hid (below_drewN HB5.out j)
      rw [← hw6]
      clear hw6 HL HL' HB5 g38 g38' HI HI' g37 g37'
      go_loopw [6] (fun i wr => ∃ k j : Nat, k ≤ ln ∧ i = .int .i64 k ∧ wr = w6.drewN j) (fun i _ => ln - (intOf i).toNat)
      case atStart => exact ⟨0, 0, Nat.zero_le _, rfl, rfl⟩
      case round =>
        obtain ⟨k, j, hk, rfl, rfl⟩ := hrel
        by_cases hlt : k < ln
        · obtain ⟨a, x, va, vd, rfl, ha, hxl, hxa⟩ := HL6.out.get hlt
          obtain ⟨b, y, vb, ve, rfl, hb, hyl, hyb⟩ := HL6'.out.get hlt
          obtain rfl : x = y := by rw [hxl] at hyl; exact Option.some.inj hyl
          have hx32 := hxa.len
          have p1 : w6.cell? ⟨(a.add (k * 34)).block, (a.add (k * 34)).off + 32, none⟩ = some va := hxa.cells 32 va (by rw [List.getElem?_append_right (by rw [bv_length, hx32]; exact Nat.le_refl _), bv_length, hx32]; rfl)
          have p2 : w6.cell? ⟨(a.add (k * 34)).block, (a.add (k * 34)).off + 33, none⟩ = some vd := hxa.cells 33 vd (by rw [List.getElem?_append_right (by rw [bv_length, hx32]; omega), bv_length, hx32]; rfl)
          have r1 : w6.cell? ⟨(b.add (k * 34)).block, (b.add (k * 34)).off + 32, none⟩ = some vb := hyb.cells 32 vb (by rw [List.getElem?_append_right (by rw [bv_length, hx32]; exact Nat.le_refl _), bv_length, hx32]; rfl)
          have r2 : w6.cell? ⟨(b.add (k * 34)).block, (b.add (k * 34)).off + 33, none⟩ = some ve := hyb.cells 33 ve (by rw [List.getElem?_append_right (by rw [bv_length, hx32]; omega), bv_length, hx32]; rfl)
          have CA := Lib.hid (show ∀ j u, (bv x.tab)[j]? = some u → w6.cell? ((a.add (k * 34)).add j) = some u from fun j u hu => hxa.cells j u (by rw [List.getElem?_append_left (List.getElem?_eq_some_iff.1 hu).1]; exact hu))
          have CB := Lib.hid (show ∀ j u, (bv x.tab)[j]? = some u → w6.cell? ((b.add (k * 34)).add j) = some u from fun j u hu => hyb.cells j u (by rw [List.getElem?_append_left (List.getElem?_eq_some_iff.1 hu).1]; exact hu))
          have HSZ := Lib.hid (show (Try.prog.info? 58).map (·.size) = some (bv x.tab).length by rw [size_key, bv_length, hx32])
          have NQ := fun w => same_neq Try.underlying58 x.tab hx32 w
          have sa := hxa.wr
          have sd := hxa.rd
          have sb := hyb.wr
          have se := hyb.rd
          obtain ⟨A1, m1, rfl, s1, s1a, s1b⟩ := sa.is
          obtain ⟨A2, m2, rfl, s2, s2a, s2b⟩ := sd.is
          obtain ⟨A3, m3, rfl, s3, s3a, s3b⟩ := sb.is
          obtain ⟨A4, m4, rfl, s4, s4a, s4b⟩ := se.is
          have S1 := fun nn => same_yes3b A1 A3 _ _ m1 m3 x.wr (w6.drewN nn) _ _ (s1.drewN nn) (s3.drewN nn) (by omega) (by omega)
          have S2 := fun nn => same_yes3b A2 A4 _ _ m2 m4 x.rd (w6.drewN nn) _ _ (s2.drewN nn) (s4.drewN nn) (by omega) (by omega)
          have T1 := Lib.hid S1
          have T2 := Lib.hid S2
          clear S1 S2 s1 s2 s3 s4 sa sd sb se hxl hyl hxa hyb hx32
          generalize bv x.tab = X at *
          go_wp2_with fail
          refine wp_region_quiet_lit (by kernel_rfl) (by kernel_rfl) ?_
          repeat (first
            | ((with_reducible show wpQuiet _ _ _ _ ({ dst := some 116, op := Op.load _ _, type := _, pos := _, after := _, guard := _ } :: _) _); go_must (refine quiet_load_at (by kernel_rfl) 58 (.tmp 115) rfl (a.add (k * 34)) X _ Try.underlying58 rfl HSZ.out (by rintro _ ⟨nq, rfl⟩; exact CA.out) ?_ ?_; go_simp; go_simp))
            | ((with_reducible show wpQuiet _ _ _ _ ({ dst := some 122, op := Op.load _ _, type := _, pos := _, after := _, guard := _ } :: _) _); go_must (refine quiet_load_at (by kernel_rfl) 58 (.tmp 121) rfl (b.add (k * 34)) X _ Try.underlying58 rfl HSZ.out (by rintro _ ⟨nq, rfl⟩; exact CB.out) ?_ ?_; go_simp; go_simp))
            | go_big_quiet_step (first | (go_at_call 34; with_reducible refine quiet_more (T1.out _)) | (go_at_call 34; with_reducible refine quiet_more (T2.out _))))
          refine wpQuiet_nil ?_
          intro nq
          go_wp2_with fail
          go_roundw
          case rel => exact ⟨k + 1, j + nq, by omega, by go_num, by simp⟩
          case measure => simp [intOf]; omega
        · go_wp2_with fail
          go_ret
          exact ⟨rfl, below_drewN HB6.out j⟩
end Go.Proofs.Ytolijdbdpnbchaa
