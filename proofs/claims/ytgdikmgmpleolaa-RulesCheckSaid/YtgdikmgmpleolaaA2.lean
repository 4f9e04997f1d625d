/-
  Parts joined: TwinK CameIn Enc Tx SameTx SheetS PutTx Sigs TwinS TxMsg GetTx Twin.
-/
import Derived.Below
import Derived.Laws.OwnMore
import Derived.Deep.AppendLies
import Derived.Deep.Draws
import Derived.Lib.Hide
import Derived.Laws.MakeOwn
import Derived.Laws.CopyOwn
import Derived.Laws.Rows
import Derived.Maps.AppendAt
import Derived.OwnWalk
import Derived.Laws.BitsAllLaws
import Derived.WalkKit
import Derived.Test.YtgdikmgmpleolaaRows
import Derived.WalkSpells
import Derived.WalkLawsBesides
import Derived.IntWalk
import Derived.Deep.MidRow
import Derived.Deep.WholeRow
import Derived.Great.BuildSlice
import Derived.Recover
import Derived.Deep.RegionHeld
import Derived.Deep.QuietTactic
import Derived.BigQuiet
import Derived.ChangeKeysEq
import Derived.Deep.RegionHeld2
import Derived.Deep.CutBlock
import Derived.Laws.Tables
import Derived.ProofKit
import Derived.OpenShut
import Derived.ShutString
import Derived.ChangeOld
import Derived.Lib.SmallJoins
import Derived.Laws.Slices
import Derived.Test.YtgdikmgmpleolaaA1
/-
  Of part TwinK: what is needed here.
-/
namespace Go.Proofs.Ytgdikmgmpleolaa
open Go.RowKit
set_option linter.unusedVariables false
theorem made_len (z : Value) (n : Nat) : (madeCells z.cells n).toList.length = n := by simp [madeCells]
theorem Row.of_ownN {w : World} {base N size g : Nat} {e : TypeId} {xs : List Value} (h : w.ownsRow base e size (.slice (some ⟨g, 0, none⟩) N N) N xs) : Row w g e xs := by
  rcases h.2 with ⟨h1, _⟩ | ⟨g', cap, cur, h1, h2, h3, h4, h5, h6, h7⟩
  · cases h1
  · cases h1
    refine ⟨?_⟩
    rw [h3, ← h7, ← h6, ← Array.length_toList, List.take_length]
/-- keys that stand in a row -/
theorem keys_row {w : World} {g : Nat} {l : List (List Int)} {ys : List Value} {n : Nat} (hr : Row w g 41 (bv l.flatten ++ ys)) (hn : l.length = n) (h32 : ∀ k ∈ l, k.length = 32) {B : Nat} (hB : g < B) : KeysIn w B (some ⟨g, 0, none⟩) n l :=
  ⟨hn, h32, ⟨by rw [bv_length, flatten_len l h32, hn], fun i u hu => ⟨_, rfl, hB, by
    rw [addr_row, hr.cell, Nat.zero_add, List.getElem?_append_left (List.getElem?_eq_some_iff.1 hu).1]
    exact hu⟩⟩⟩
theorem keys_set {k : Nat} {l : List (List Int)} {x : List Int} {cs : List Value} (h32 : ∀ k ∈ l, k.length = 32) (hx : l[k]? = some x) :
    (bv (l.take k).flatten ++ cs.drop (k * 32)).take (k * 32) ++ bv x ++ (bv (l.take k).flatten ++ cs.drop (k * 32)).drop (k * 32 + (bv x).length) = bv (l.take (k + 1)).flatten ++ cs.drop ((k + 1) * 32) := by
  have hk := (List.getElem?_eq_some_iff.1 hx).1
  have hl : (bv (l.take k).flatten).length = k * 32 := by
    rw [bv_length, flatten_len _ (fun y hy => h32 y (List.mem_of_mem_take hy)), List.length_take]
    congr 1; omega
  have hxl := h32 x (List.mem_of_getElem? hx)
  rw [List.take_left' hl, bv_length, hxl, show k * 32 + 32 = (bv (l.take k).flatten).length + 32 by rw [hl], List.drop_length_add_append, List.drop_drop, flatten_take_succ hx, bv_append, show k * 32 + 32 = (k + 1) * 32 by omega]
set_option maxRecDepth 100000 in
set_option maxHeartbeats 1000000 in
theorem twinK (A : Option Addr) (n c : Nat) (l : List (List Int)) (z : List Int) (w : World) (S : Nat)
    (hx : KeysIn w S A n l) (hS : S ≤ w.heap.size) (hn : n ≤ 1000000000) (hz : z.length = 32) :
    Calls Try.prog 42 #[.slice A n c, .agg (bv z).toArray] w fun e w' => ∃ g, e = .returned (.slice (some ⟨g, 0, none⟩) n (n + 3)) ∧ w.heap.size ≤ g ∧ Row w' g 41 (bv l.flatten ++ keyRow 3 z) ∧ Below w.heap.size w w' := by
  have HX := Lib.hid hx
  have HZ := Lib.hid hz
  have RB := Lib.hid (Row.new w 41 (bv z))
  have hb0 : Below w.heap.size w (w.alloc (Obj.cells (bv z).toArray 41)) := (Below.refl _ _).alloc (Nat.le_refl _) _
  have HB0 := Lib.hid hb0
  have z0 : (w.alloc (Obj.cells (bv z).toArray 41)).heap.size = w.heap.size + 1 := by simp
  clear hx hb0
  go_enter Try.func42, Try.ntmps42
  go_upto_region 1 with fail
  generalize (w.alloc (Obj.cells (bv z).toArray 41)) = W at *
  have ZW := Lib.hid z0
  clear z0
  go_wp2_with (first
    | (at_make; (obtain ⟨i0, hi, hz0, hz1, hz2⟩ := info_parts info_key); go_must (refine wpList_make_full _ rfl (.tmp 10) (.tmp 10) 25 rfl W.heap.size 41 i0 _ 32 Try.underlying25 hi hz0 hz1 .i64 .i64 _ _ (n + 3) rfl rfl (by simp) (by simp) (by rw [hz2]; omega) (by unfold maxLen; omega) (Nat.le_refl _) ?_; intro w1 hown hgrow; have hrow := Row.of_ownN hown; have hb1 := (Below.refl W.heap.size W).grown hgrow (Nat.le_refl _) (fun k hk => by cases hk))))
  have hlen := made_len (.agg (zeros 32).toArray) ((n + 3) * 32)
  generalize (madeCells (Value.agg (zeros 32).toArray).cells ((n + 3) * 32)).toList = cs at *
  have HL := Lib.hid hlen
  have R := Lib.hid hrow
  have RB1 := Lib.hid (RB.out.below hb1 (by have := ZW.out; omega))
  have HB1 := Lib.hid (HB0.out.trans (hb1.mono (by have := ZW.out; omega)))
  have HZ1 : Hid (W.heap.size < w1.heap.size) := Lib.hid hrow.lt
  clear hlen hrow hown hgrow hb1 RB HB0
  have lenl := HX.out.len
  go_loopw [6] (fun i wr => ∃ k : Nat, k ≤ n ∧ i = .int .i64 k ∧ Row wr W.heap.size 41 (bv (l.take k).flatten ++ cs.drop (k * 32)) ∧ Below W.heap.size w1 wr) (fun i _ => n - (intOf i).toNat)
  case atStart => exact ⟨0, Nat.zero_le _, rfl, by simpa [bv, cv] using R.out, Below.refl _ _⟩
  case round =>
  clear R
  obtain ⟨k, hk, rfl, hr, hb⟩ := hrel
  have RR := Lib.hid hr
  have HB := Lib.hid hb
  clear hr hb
  by_cases hlt : k < n
  · obtain ⟨a, x, rfl, hab, hxl, hat⟩ := HX.out.get hlt
    have HX1 := Lib.hid hxl
    have HB2 := Lib.hid (HB1.out.trans (HB.out.mono (by have := ZW.out; omega)))
    have HAT := Lib.hid (hat.keep hab fun p hp => HB2.out.cell (by omega))
    have HSZ := Lib.hid (size_key' hat.len)
    have HCL : Hid (k * 32 + (bv x).length ≤ (bv (l.take k).flatten ++ cs.drop (k * 32)).length) := by
      have h1 := HL.out
      have h2 : (bv (l.take k).flatten).length = k * 32 := by
        rw [bv_length, flatten_len _ (fun y hy => HX.out.each y (List.mem_of_mem_take hy)), List.length_take]
        congr 1; omega
      refine Lib.hid ?_
      rw [List.length_append, h2, List.length_drop, bv_length, hat.len]
      omega
    clear hxl hat
    go_wp2_with (first
      | ((with_reducible show wpList _ _ _ ({ dst := some 23, op := Op.load _ _, type := _, pos := _, after := _, guard := _ } :: _) _ _); go_must (refine wpList_load_at rfl 41 (.tmp 22) rfl (a.add (k * 32)) (bv x) _ Try.underlying41 rfl HSZ.out HAT.out.cells ?_ ?_; go_simp))
      | ((with_reducible show wpList _ _ _ ({ dst := none, op := Op.store 41 _ _, type := _, pos := _, after := _, guard := _ } :: _) _ _); go_must (refine wpList_store_part rfl 41 (.tmp 24) (.tmp 23) rfl W.heap.size 41 (k * 32) _ (bv x) RR.out HSZ.out HCL.out (bv_one x) ?_ ?_ ?_; go_simp; go_simp; intro w2 hr2 ht2; have HR2 := Lib.hid hr2; have HT2 := Lib.hid ht2; clear hr2 ht2)))
    go_roundw
    case rel =>
      refine ⟨k + 1, by omega, by go_num, ?_, HB.out.trans (HT2.out.below (Nat.le_refl _))⟩
      have := HR2.out
      rwa [keys_set HX.out.each HX1.out] at this
    case measure => simp [intOf]; omega
  · obtain rfl : k = n := by omega
    have R2 : Hid (Row wr W.heap.size 41 (bv l.flatten ++ cs.drop (k * 32))) := by
      have := RR.out
      rw [List.take_of_length_le (by omega)] at this
      exact Lib.hid this
    have HFL : Hid ((bv l.flatten).length = k * 32) := Lib.hid (by rw [bv_length, flatten_len l HX.out.each, HX.out.len])
    clear RR
    go_wp2_with fail
    go_loopw [7] (fun i wr => ∃ j : Nat, j ≤ 3 ∧ i = .int .i64 j ∧ Row wr W.heap.size 41 (bv l.flatten ++ (keyRow j z ++ (cs.drop (k * 32)).drop (j * 32))) ∧ Below W.heap.size w1 wr) (fun i _ => 3 - (intOf i).toNat)
    case atStart => exact ⟨0, Nat.zero_le _, rfl, by simpa [keyRow] using R2.out, HB.out⟩
    case round =>
      clear R2 HB
      obtain ⟨j, hj, rfl, hr, hb⟩ := hrel
      have RR := Lib.hid hr
      have HB := Lib.hid hb
      clear hr hb
      by_cases hlt : j < 3
      · have HBX := Lib.hid (RB1.out.below HB.out (by have := ZW.out; omega))
        have HCL : Hid ((k + j) * 32 + (bv z).length ≤ (bv l.flatten ++ (keyRow j z ++ (cs.drop (k * 32)).drop (j * 32))).length) := by
          have h1 := HL.out
          have h2 := HFL.out
          have h3 := keyRow_len j HZ.out
          refine Lib.hid ?_
          rw [List.length_append, List.length_append, h2, h3, List.length_drop, List.length_drop, bv_length, HZ.out]
          omega
        go_wp2_with (first
          | ((with_reducible show wpList _ _ _ ({ dst := some 34, op := Op.load _ _, type := _, pos := _, after := _, guard := _ } :: _) _ _); go_must (refine wpList_load_whole rfl 41 (.tmp 3) rfl w.heap.size 41 (bv z) _ Try.underlying41 rfl (size_key' HZ.out) HBX.out ?_ ?_; go_simp))
          | ((with_reducible show wpList _ _ _ ({ dst := none, op := Op.store 41 _ _, type := _, pos := _, after := _, guard := _ } :: _) _ _); go_must (refine wpList_store_part rfl 41 (.tmp 35) (.tmp 34) rfl W.heap.size 41 ((k + j) * 32) _ (bv z) RR.out (size_key' HZ.out) HCL.out (bv_one z) ?_ ?_ ?_; go_simp; go_simp; intro w2 hr2 ht2; have HR2 := Lib.hid hr2; have HT2 := Lib.hid ht2; clear hr2 ht2)))
        go_roundw
        case rel =>
          refine ⟨j + 1, by omega, by go_num, ?_, HB.out.trans (HT2.out.below (Nat.le_refl _))⟩
          have := HR2.out
          have e := keyRow_set (k := j) HZ.out (bv l.flatten) (cs.drop (k * 32)) (by have := HL.out; rw [List.length_drop]; omega)
          rw [HFL.out, ← Nat.add_mul] at e
          rwa [e] at this
        case measure => simp [intOf]; omega
      · obtain rfl : j = 3 := by omega
        have R3 : Hid (Row wr W.heap.size 41 (bv l.flatten ++ keyRow 3 z)) := by
          have := RR.out
          rw [List.drop_of_length_le (by have := HL.out; rw [List.length_drop]; omega), List.append_nil] at this
          exact Lib.hid this
        clear RR
        go_wp2_with fail
        go_ret
        exact ⟨W.heap.size, rfl, by have := ZW.out; omega, R3.out, HB1.out.trans (HB.out.mono (by have := ZW.out; omega))⟩
/-- the mark behind keys -/
def mk0 : List Int := [165, 90, 0, 0, 0, 0, 0, 0, 0, 0, 0, 0, 0, 0, 0, 0, 0, 0, 0, 0, 0, 0, 0, 0, 0, 0, 0, 0, 0, 0, 0, 0]
theorem built_mk0 : Try.prog.built 41 [(0, .int .u8 165), (1, .int .u8 90)] = some (bv mk0).toArray := by kernel_rfl
set_option maxRecDepth 100000 in
set_option maxHeartbeats 400000 in
theorem markKey (w : World) : Calls Try.prog 43 #[] w fun e w' => e = .returned (.agg (bv mk0).toArray) ∧ Below w.heap.size w w' := by
  go_enter Try.func43, Try.ntmps43
  go_wp2_with (first
    | ((with_reducible show wpList _ _ _ ({ dst := some 1, op := Op.build _ _, type := _, pos := _, after := _, guard := _ } :: _) _ _); go_must (refine wpList_plain rfl fun K hK => wp_built _ _ _ rfl (by simp only [List.map_toArray, List.map_cons, List.map_nil]; exact built_mk0) (hK _ _ ?_)))
    | ((with_reducible show wpList _ _ _ ({ dst := none, op := Op.store 41 _ _, type := _, pos := _, after := _, guard := _ } :: _) _ _); go_must (refine wpList_store_new rfl 41 (.tmp 0) (.tmp 1) rfl (bv mk0) size_key (bv_one _) rfl ?_ ?_ ?_; go_simp; go_simp; intro w1 hr1 hb1 hz1; have HR1 := Lib.hid hr1; have HB1 := Lib.hid hb1; clear hr1 hb1)))
  refine bodyPost_ret (results_cell_row (h := rfl) _ w1 w.heap.size 41 _ (0, 0) _ (by rfl) HR1.out.is Try.underlying41 rfl size_key) rfl ?_
  exact ⟨rfl, HB1.out⟩
set_option maxRecDepth 100000 in
set_option maxHeartbeats 400000 in
/-- TwinKeys -/
theorem twinKeys (A : Option Addr) (n c : Nat) (l : List (List Int)) (w : World) (S : Nat) (hx : KeysIn w S A n l) (hS : S ≤ w.heap.size) (hn : n ≤ 1000000000) :
    Calls Try.prog 24 #[.slice A n c] w fun e w' => ∃ g, e = .returned (.slice (some ⟨g, 0, none⟩) n (n + 3)) ∧ w.heap.size ≤ g ∧ Row w' g 41 (bv l.flatten ++ keyRow 3 mk0) ∧ Below w.heap.size w w' := by
  have HX := Lib.hid hx
  clear hx
  go_enter Try.func24, Try.ntmps24
  go_wp2_with fail
  refine (markKey w).mono ?_
  rintro e w1 ⟨rfl, hb1⟩
  have HB1 := Lib.hid hb1
  have HT := Lib.hid (twinK A n c l mk0 w1 w.heap.size ((HX.out.more hS).below HB1.out) HB1.out.size hn rfl)
  clear hb1
  generalize hC : (bv mk0).toArray = C at *
  go_wp2_with fail
  rw [← hC]
  refine (hC ▸ HT.out).mono ?_
  rintro e w2 ⟨g, rfl, hg, hr, hb⟩
  have R := Lib.hid hr
  clear hr
  go_wp2_with fail
  go_ret
  exact ⟨g, rfl, Nat.le_trans HB1.out.size hg, R.out, HB1.out.trans (hb.mono HB1.out.size)⟩
theorem keyRow_at {j n : Nat} {z : List Int} (hz : z.length = 32) (hj : j < n) {i : Nat} {u : Value} (hu : (bv z)[i]? = some u) : (keyRow n z)[j * 32 + i]? = some u := by
  unfold keyRow
  have hl : ∀ (i : Nat) y, (List.replicate n (bv z))[i]? = some y → y.length = 32 := fun i y hy => by
    have := List.eq_of_mem_replicate (List.mem_of_getElem? hy)
    rw [this, bv_length, hz]
  exact flatten_at 32 (List.replicate n (bv z)) j (bv z) hl (by rw [List.getElem?_replicate_of_lt hj]) i u hu
set_option maxRecDepth 100000 in
set_option maxHeartbeats 1000000 in
theorem leftK (g : Nat) (B : Option Addr) (n d : Nat) (l : List (List Int)) (z : List Int) (w : World) (S : Nat)
    (hr : Row w g 41 (bv l.flatten ++ keyRow 3 z)) (hy : KeysIn w S B n l) (hS : S ≤ w.heap.size) (hn : n ≤ 1000000000) (hz : z.length = 32) :
    Calls Try.prog 51 #[.slice (some ⟨g, 0, none⟩) n (n + 3), .slice B n d, .agg (bv z).toArray] w fun e w' => e = .returned (.bool true) ∧ Below w.heap.size w w' := by
  have hb0 : Below w.heap.size w (w.alloc (Obj.cells (bv z).toArray 41)) := (Below.refl _ _).alloc (Nat.le_refl _) _
  have RB := Lib.hid (Row.new w 41 (bv z))
  have R := Lib.hid (hr.alloc (Obj.cells (bv z).toArray 41))
  have HB0 := Lib.hid hb0
  have hlen := hy.len
  have h32 := hy.each
  have HFL : Hid ((bv l.flatten).length = n * 32) := Lib.hid (by rw [bv_length, flatten_len l h32, hlen])
  have HK := Lib.hid (same_keys (some ⟨g, 0, none⟩) B n (n + 3) d l _ w.heap.size w.heap.size (keys_row R.out hlen h32 hr.lt) ((hy.more hS).below hb0) (by unfold maxLen; omega))
  have NQ := fun w => same_neq Try.underlying41 z hz w
  have HZ := Lib.hid hz
  clear hr hy hb0 h32 hlen
  go_enter Try.func51, Try.ntmps51
  go_upto_region 1 with fail
  generalize (w.alloc (Obj.cells (bv z).toArray 41)) = W at *
  go_wp2_with fail
  refine HK.out.mono ?_
  rintro e w1 ⟨rfl, k, rfl⟩
  go_wp2_with fail
  go_loopw [8] (fun i wr => ∃ j q : Nat, j ≤ 3 ∧ i = .int .i64 j ∧ wr = W.drewN q) (fun i _ => 3 - (intOf i).toNat)
  case atStart => exact ⟨0, k, Nat.zero_le _, rfl, rfl⟩
  case round =>
    obtain ⟨j, q, hj, rfl, rfl⟩ := hrel
    by_cases hlt : j < 3
    · have CA := Lib.hid (show ∀ i u, (bv z)[i]? = some u → W.cell? ((⟨g, (n + j) * 32, none⟩ : Addr).add i) = some u from fun i u hu => by
        rw [addr_row, R.out.cell, List.getElem?_append_right (by rw [HFL.out]; omega), HFL.out, show (n + j) * 32 + i - n * 32 = j * 32 + i by omega]
        exact keyRow_at HZ.out hlt hu)
      have CB := Lib.hid (show ∀ i u, (bv z)[i]? = some u → W.cell? ((⟨w.heap.size, 0, none⟩ : Addr).add i) = some u from fun i u hu => by
        rw [addr_row, RB.out.cell, Nat.zero_add]; exact hu)
      have HSZ := Lib.hid (size_key' HZ.out)
      generalize bv z = X at *
      go_wp2
      refine wp_region_quiet_lit (by kernel_rfl) (by kernel_rfl) ?_
      repeat (first
        | ((with_reducible show wpQuiet _ _ _ _ ({ dst := some 36, op := Op.load _ _, type := _, pos := _, after := _, guard := _ } :: _) _); go_must (refine quiet_load_at (by kernel_rfl) 41 (.tmp 35) rfl ⟨g, (n + j) * 32, none⟩ X _ Try.underlying41 rfl HSZ.out (by rintro _ ⟨nq, rfl⟩; exact CA.out) ?_ ?_; go_simp; go_simp))
        | ((with_reducible show wpQuiet _ _ _ _ ({ dst := some 37, op := Op.load _ _, type := _, pos := _, after := _, guard := _ } :: _) _); go_must (refine quiet_load_at (by kernel_rfl) 41 (.tmp 5) rfl ⟨w.heap.size, 0, none⟩ X _ Try.underlying41 rfl HSZ.out (by rintro _ ⟨nq, rfl⟩; exact CB.out) ?_ ?_; go_simp; go_simp))
        | go_big_quiet_step (fail))
      refine wpQuiet_nil ?_
      intro nq
      go_wp2
      go_roundw
      case rel => exact ⟨j + 1, q + nq, by omega, by go_num, by simp⟩
      case measure => simp [intOf]; omega
    · go_wp2
      go_ret
      exact ⟨rfl, below_drewN HB0.out q⟩
set_option maxRecDepth 100000 in
set_option maxHeartbeats 400000 in
/-- LeftKeys -/
theorem leftKeys (g : Nat) (B : Option Addr) (n d : Nat) (l : List (List Int)) (w : World) (S : Nat)
    (hr : Row w g 41 (bv l.flatten ++ keyRow 3 mk0)) (hy : KeysIn w S B n l) (hS : S ≤ w.heap.size) (hn : n ≤ 1000000000) :
    Calls Try.prog 40 #[.slice (some ⟨g, 0, none⟩) n (n + 3), .slice B n d] w fun e w' => e = .returned (.bool true) ∧ Below w.heap.size w w' := by
  have HX := Lib.hid hy
  have R := Lib.hid hr
  clear hy hr
  go_enter Try.func40, Try.ntmps40
  go_wp2_with fail
  refine (markKey w).mono ?_
  rintro e w1 ⟨rfl, hb1⟩
  have HB1 := Lib.hid hb1
  have HT := Lib.hid (leftK g B n d l mk0 w1 w.heap.size (R.out.below HB1.out R.out.lt) ((HX.out.more hS).below HB1.out) HB1.out.size hn rfl)
  clear hb1
  generalize hC : (bv mk0).toArray = C at *
  go_wp2_with fail
  rw [← hC]
  refine (hC ▸ HT.out).mono ?_
  rintro e w2 ⟨rfl, hb⟩
  go_wp2_with fail
  go_ret
  exact ⟨rfl, HB1.out.trans (hb.mono HB1.out.size)⟩
end Go.Proofs.Ytgdikmgmpleolaa

/-
  Of part CameIn: what is needed here.
-/
namespace Go.Proofs.Ytgdikmgmpleolaa
open Go.RowKit
set_option linter.unusedVariables false
open Go.ChangeShapes Go.WideShapes in
/-- an array of integers that came in by value -/
theorem open_int_array {H : Type} {enc : TypeId × Value → H} {P : Program} {w : World} {base : Nat} {sp : Nat → Bool} {held : Bool} {r : Reach} {b0 t e n : Nat} {q : IntKind} {v : Value} {d : DataW H} {p : List MemPlace}
    (ht : P.underlying t = some (.array n e)) (he : P.underlying e = some (.int q)) (hce : P.cellsOf e = 1) (hct : P.cellsOf t = n)
    (hv : Value.okWide P w r b0 t v) (h : DataW.Trod enc P w base sp held t v d p) : ∃ zs : List Int, v = .agg (cv q zs).toArray ∧ zs.length = n ∧ ∀ z ∈ zs, (Lit.int q z).wf = true := by
  simp only [Value.okWide, ht] at hv
  obtain ⟨cs, rfl, h2, _⟩ := hv
  obtain ⟨fuel, hf⟩ := h
  obtain ⟨xs, m, _, _, hl, hxs, hat⟩ := DataW.trod_array ht hf
  have each : ∀ i (hi : i < n), ∃ z, cs.toList[i]? = some (.int q z) ∧ (Lit.int q z).wf = true := by
    intro i hi
    have h1 := hat i hi
    have hx : xs[i]? = some xs[i] := List.getElem?_eq_getElem (by omega)
    rw [hce, hx] at h1
    obtain ⟨z, hz, _, hw⟩ := DataW.trod_int he h1
    refine ⟨z, ?_, hw⟩
    have := congrArg List.head? hz
    simpa [Value.cells, List.head?_take] using this
  have hcs : cs.toList.length = n := by rw [hct] at h2; simpa using h2
  refine ⟨cs.toList.map fun v => match v with | .int _ z => z | _ => 0, ?_, by simpa using hcs, ?_⟩
  · congr 1
    apply Array.ext_getElem?
    intro i
    by_cases hi : i < n
    · obtain ⟨z, hz, _⟩ := each i hi
      have hz' : cs[i]? = some (.int q z) := by simpa using hz
      simp [cv, hz']
    · have e1 : cs[i]? = none := Array.getElem?_eq_none (by simp at hcs; omega)
      simp [cv, e1]
  · intro z hz
    simp only [List.mem_map] at hz
    obtain ⟨u, hu, rfl⟩ := hz
    obtain ⟨i, hi, he⟩ := List.getElem_of_mem hu
    obtain ⟨z, hz, hw⟩ := each i (by omega)
    rw [List.getElem?_eq_getElem hi, he] at hz
    cases hz
    exact hw
end Go.Proofs.Ytgdikmgmpleolaa

/-
  Of part Enc: what is needed here.
-/
namespace Go.Proofs.Ytgdikmgmpleolaa
open Go.RowKit
set_option linter.unusedVariables false
theorem AllBytes.map {α : Type} {f : α → List Int} {l : List α} (h : ∀ x ∈ l, AllBytes (f x)) : AllBytes (l.flatMap f) := fun z hz => by
  obtain ⟨x, hx, hz⟩ := List.mem_flatMap.1 hz
  exact h x hx z hz
end Go.Proofs.Ytgdikmgmpleolaa

/-
  Of part Tx: what is needed here.
-/
namespace Go.Proofs.Ytgdikmgmpleolaa
open Go.RowKit
set_option linter.unusedVariables false
/-- a transaction -/
structure LTx where
  sigs : List (List Int)
  m : LMsg
/-- all numbers are bytes, signatures have 64 of them -/
structure LTx.Wf (x : LTx) : Prop where
  sigs : ∀ s ∈ x.sigs, s.length = 64 ∧ AllBytes s
  m : x.m.Wf
theorem flat64_len : ∀ (l : List (List Int)), (∀ y ∈ l, y.length = 64) → l.flatten.length = l.length * 64
  | [], _ => rfl
  | y :: r, h => by
    have := flat64_len r (fun z hz => h z (by simp [hz]))
    have hy := h y (by simp)
    simp only [List.flatten_cons, List.length_append, List.length_cons, this, hy]
    omega
/-- signatures that lie below block B -/
structure SigsIn (w : World) (B : Nat) (A : Option Addr) (n : Nat) (l : List (List Int)) : Prop where
  len : l.length = n
  each : ∀ k ∈ l, k.length = 64
  sees : Sees w B A (n * 64) (bv l.flatten)
/-- where a transaction's lists lie -/
structure TRaw where
  SA : Option Addr
  sn : Nat
  sc : Nat
  q : Raw
/-- a transaction's cells -/
def TRaw.cells (s : TRaw) (x : LTx) : List Value := .slice s.SA s.sn s.sc :: s.q.cells x.m
/-- a transaction's lists lie below block B -/
structure TxIn (w : World) (B : Nat) (s : TRaw) (x : LTx) : Prop where
  sigs : SigsIn w B s.SA s.sn x.sigs
  sn : s.sn ≤ s.sc ∧ s.sc ≤ maxLen
  m : MsgIn w B s.q x.m
section
variable {w w' : World} {B B' : Nat}
theorem SigsIn.keep {A : Option Addr} {n : Nat} {l : List (List Int)} (h : SigsIn w B A n l) (hk : ∀ p : Addr, p.block < B → w'.cell? p = w.cell? p) : SigsIn w' B A n l := ⟨h.len, h.each, h.sees.keep hk⟩
theorem SigsIn.more {A : Option Addr} {n : Nat} {l : List (List Int)} (h : SigsIn w B A n l) (hB : B ≤ B') : SigsIn w B' A n l := ⟨h.len, h.each, h.sees.more hB⟩
theorem SigsIn.below {A : Option Addr} {n : Nat} {l : List (List Int)} (h : SigsIn w B A n l) (hb : Below B w w') : SigsIn w' B A n l := h.keep fun _ hp => hb.cell hp
variable {s : TRaw} {x : LTx}
theorem TxIn.keep (h : TxIn w B s x) (hk : ∀ p : Addr, p.block < B → w'.cell? p = w.cell? p) : TxIn w' B s x := ⟨h.sigs.keep hk, h.sn, h.m.keep hk⟩
theorem TxIn.more (h : TxIn w B s x) (hB : B ≤ B') : TxIn w B' s x := ⟨h.sigs.more hB, h.sn, h.m.more hB⟩
theorem TxIn.below (h : TxIn w B s x) (hb : Below B w w') : TxIn w' B s x := h.keep fun _ hp => hb.cell hp
theorem TxIn.alloc (h : TxIn w B s x) (hB : B ≤ w.heap.size) (o : Obj) : TxIn (w.alloc o) B s x := h.keep fun p hp => World.cell?_alloc_lt w o p (by omega)
theorem TxIn.drewN (h : TxIn w B s x) (n : Nat) : TxIn (w.drewN n) B s x := h.keep fun p hp => rfl
theorem tcells_len (h : x.m.recent.length = 32) : (s.cells x).length = 40 := by simp [TRaw.cells, cells_len h]
theorem tcells_m (j : Nat) : (s.cells x)[1 + j]? = (s.q.cells x.m)[j]? := by unfold TRaw.cells; rw [show 1 + j = j + 1 by omega]; rfl
theorem tcells_one : ∀ u ∈ s.cells x, u.oneCell' = true := by
  intro u hu
  rcases List.mem_cons.1 hu with rfl | hu
  · rfl
  · exact cells_one u hu
end
theorem size_tx : (Try.prog.info? 33).map (·.size) = some 40 := by kernel_rfl
theorem size_sig : (Try.prog.info? 49).map (·.size) = some 64 := by kernel_rfl
theorem flatten_get64 : ∀ (l : List (List Int)) (k : Nat) (x : List Int), (∀ y ∈ l, y.length = 64) → l[k]? = some x → ∀ j, j < 64 → l.flatten[k * 64 + j]? = x[j]?
  | [], k, x, _, h, _, _ => by simp at h
  | y :: r, 0, x, hl, h, j, hj => by
    have : y = x := by simpa using h
    subst this
    have hy := hl y (by simp)
    rw [List.flatten_cons, List.getElem?_append_left (by omega)]
    simp
  | y :: r, k + 1, x, hl, h, j, hj => by
    have hy := hl y (by simp)
    rw [List.flatten_cons, List.getElem?_append_right (by omega)]
    have := flatten_get64 r k x (fun z hz => hl z (by simp [hz])) (by simpa using h) j hj
    rw [← this]
    congr 1
    omega
/-- the k-th signature -/
structure SigAt (w : World) (a : Addr) (k : Nat) (x : List Int) : Prop where
  cells : ∀ j u, (bv x)[j]? = some u → w.cell? ((a.add (k * 64)).add j) = some u
  len : x.length = 64
theorem SigsIn.get {w : World} {B n : Nat} {A : Option Addr} {l : List (List Int)} (h : SigsIn w B A n l) {k : Nat} (hk : k < n) : ∃ a x, A = some a ∧ a.block < B ∧ l[k]? = some x ∧ SigAt w a k x := by
  obtain ⟨x, hx⟩ : ∃ x, l[k]? = some x := ⟨_, List.getElem?_eq_getElem (by rw [h.len]; exact hk)⟩
  have hxl := h.each x (List.mem_of_getElem? hx)
  obtain ⟨a, u, e, hb, _, _⟩ := h.sees.at_ (k := k * 64) (by omega)
  refine ⟨a, x, e, hb, hx, fun j u hu => ?_, hxl⟩
  have hj : j < 64 := by have := (List.getElem?_eq_some_iff.1 hu).1; rw [bv_length] at this; omega
  rw [bv_getElem?, ← flatten_get64 l k x h.each hx j hj, ← bv_getElem?] at hu
  obtain ⟨a', e', _, hc⟩ := h.sees.cell _ u hu
  rw [e] at e'
  cases e'
  rw [addr_add]
  exact hc
theorem SigAt.keep {w w' : World} {B k : Nat} {a : Addr} {x : List Int} (h : SigAt w a k x) (ha : a.block < B) (hk : ∀ p : Addr, p.block < B → w'.cell? p = w.cell? p) : SigAt w' a k x :=
  ⟨fun j u hu => (hk _ (by rw [addr_block, addr_block]; exact ha)).trans (h.cells j u hu), h.len⟩
def tzero : List Value := .slice none 0 0 :: mzero
end Go.Proofs.Ytgdikmgmpleolaa

/-
  Of part SameTx: what is needed here.
-/
namespace Go.Proofs.Ytgdikmgmpleolaa
open Go.RowKit
set_option linter.unusedVariables false
theorem same_neq64 {t : TypeId} (ht : Try.prog.underlying t = some (.array 64 5)) (z : List Int) (hz : z.length = 64) (w : World) :
    (binOp .neq t (.agg (bv z).toArray) (.agg (bv z).toArray)).run Try.prog w = .ok (.bool false) w := by
  obtain ⟨i, hi⟩ := infoU8
  rw [run_neq_struct, show (10000 : Nat) = 9999 + 1 from rfl, run_equalIn_array w 9999 _ _ ht hi, cellsOfU8, eqItems_same z w _ (fun i hi => by simp at hi; omega)]
  rfl
set_option maxRecDepth 100000 in
set_option maxHeartbeats 600000 in
theorem same_sigs (A B : Option Addr) (n c d : Nat) (l : List (List Int)) (w : World) (S T : Nat) (hx : SigsIn w S A n l) (hy : SigsIn w T B n l) (hn : n ≤ maxLen) :
    Calls Try.prog 38 #[.slice A n c, .slice B n d] w fun e w' => e = .returned (.bool true) ∧ ∃ k, w' = w.drewN k := by
  unfold maxLen at hn
  have HX := Lib.hid hx
  have HY := Lib.hid hy
  clear hx hy
  go_enter Try.func38, Try.ntmps38
  go_wp2
  go_loopw [5] (fun i wr => ∃ k j : Nat, k ≤ n ∧ i = .int .i64 k ∧ wr = w.drewN j) (fun i _ => n - (intOf i).toNat)
  case atStart => exact ⟨0, 0, Nat.zero_le _, rfl, rfl⟩
  case round =>
    obtain ⟨k, j, hk, rfl, rfl⟩ := hrel
    by_cases hlt : k < n
    · obtain ⟨a, x, rfl, ha, hxl, hxa⟩ := HX.out.get hlt
      obtain ⟨b, y, rfl, hb, hyl, hyb⟩ := HY.out.get hlt
      obtain rfl : x = y := by rw [hxl] at hyl; exact Option.some.inj hyl
      have ca := hxa.cells
      have cb := hyb.cells
      have NQ := fun w => same_neq64 Try.underlying49 x hxa.len w
      have HSZ := Lib.hid (show (Try.prog.info? 49).map (·.size) = some (bv x).length by rw [size_sig, bv_length, hxa.len])
      have CA := Lib.hid ca
      have CB := Lib.hid cb
      clear ca cb hxl hyl
      generalize bv x = X at *
      go_wp2
      refine wp_region_quiet_lit (by kernel_rfl) (by kernel_rfl) ?_
      repeat (first
        | ((with_reducible show wpQuiet _ _ _ _ ({ dst := some 20, op := Op.load _ _, type := _, pos := _, after := _, guard := _ } :: _) _); go_must (refine quiet_load_at (by kernel_rfl) 49 (.tmp 19) rfl (a.add (k * 64)) X _ Try.underlying49 rfl HSZ.out (by rintro _ ⟨nq, rfl⟩; exact CA.out) ?_ ?_; go_simp; go_simp))
        | ((with_reducible show wpQuiet _ _ _ _ ({ dst := some 24, op := Op.load _ _, type := _, pos := _, after := _, guard := _ } :: _) _); go_must (refine quiet_load_at (by kernel_rfl) 49 (.tmp 23) rfl (b.add (k * 64)) X _ Try.underlying49 rfl HSZ.out (by rintro _ ⟨nq, rfl⟩; exact CB.out) ?_ ?_; go_simp; go_simp))
        | go_big_quiet_step (fail))
      refine wpQuiet_nil ?_
      intro nq
      go_wp2
      go_roundw
      case rel => exact ⟨k + 1, j + nq, by omega, by go_num, by simp⟩
      case measure => simp [intOf]; omega
    · go_wp2
      go_ret
      exact ⟨rfl, j, rfl⟩
end Go.Proofs.Ytgdikmgmpleolaa

/-
  Of part SheetS: what is needed here.
-/
namespace Go.Proofs.Ytgdikmgmpleolaa
open Go.RowKit
set_option linter.unusedVariables false
theorem sigRow_len (n : Nat) {z : List Int} (hz : z.length = 64) : (keyRow n z).length = n * 64 := by
  unfold keyRow
  induction n with
  | zero => rfl
  | succ n ih => rw [List.replicate_succ, List.flatten_cons, List.length_append, ih, bv_length, hz]; omega
theorem sigRow_set {k : Nat} {z : List Int} (hz : z.length = 64) (xs ys : List Value) (hys : (k + 1) * 64 ≤ ys.length) :
    (xs ++ (keyRow k z ++ ys.drop (k * 64))).take (xs.length + k * 64) ++ bv z ++ (xs ++ (keyRow k z ++ ys.drop (k * 64))).drop (xs.length + k * 64 + (bv z).length) = xs ++ (keyRow (k + 1) z ++ ys.drop ((k + 1) * 64)) := by
  have hl := sigRow_len k hz
  have hl2 : (xs ++ keyRow k z).length = xs.length + k * 64 := by rw [List.length_append, hl]
  have e2 : xs.length + k * 64 + (bv z).length = (xs ++ keyRow k z).length + 64 := by rw [hl2, bv_length, hz]
  rw [← List.append_assoc, List.take_left' hl2, e2, List.drop_length_add_append, List.drop_drop, keyRow_succ, show k * 64 + 64 = (k + 1) * 64 by omega]
  simp only [List.append_assoc]
theorem size_sig' {z : List Int} (hz : z.length = 64) : (Try.prog.info? 49).map (·.size) = some (bv z).length := by rw [size_sig, bv_length, hz]
end Go.Proofs.Ytgdikmgmpleolaa

/-
  Of part PutTx: what is needed here.
-/
namespace Go.Proofs.Ytgdikmgmpleolaa
open Go.RowKit
set_option linter.unusedVariables false
theorem flat64_take_succ {l : List (List Int)} {k : Nat} {x : List Int} (h : l[k]? = some x) : (l.take (k + 1)).flatten = (l.take k).flatten ++ x := by
  rw [List.take_add_one, List.flatten_append, h]
  simp
end Go.Proofs.Ytgdikmgmpleolaa

/-
  Of part Sigs: what is needed here.
-/
namespace Go.Proofs.Ytgdikmgmpleolaa
open Go.RowKit
set_option linter.unusedVariables false
/-- a list of signatures of the call's own, its block from lo to hi -/
structure SigsV (w : World) (lo hi : Nat) (v : Value) (l : List (List Int)) : Prop where
  own : w.ownsRow lo 49 64 v l.length (bv l.flatten)
  lt : ∀ g, v.ownBlock = some g → g < hi
  each : ∀ y ∈ l, y.length = 64
theorem info_sig : (Try.prog.info? 49).map (fun i => (i.zero, i.size, i.bytes)) = some (some (.agg (zeros 64).toArray), 64, 64) := by kernel_rfl
end Go.Proofs.Ytgdikmgmpleolaa

/-
  Of part TwinS: what is needed here.
-/
namespace Go.Proofs.Ytgdikmgmpleolaa
open Go.RowKit
set_option linter.unusedVariables false
/-- sigs that stand in a row -/
theorem sigs_row {w : World} {g : Nat} {l : List (List Int)} {ys : List Value} {n : Nat} (hr : Row w g 49 (bv l.flatten ++ ys)) (hn : l.length = n) (h64 : ∀ k ∈ l, k.length = 64) {B : Nat} (hB : g < B) : SigsIn w B (some ⟨g, 0, none⟩) n l :=
  ⟨hn, h64, ⟨by rw [bv_length, flat64_len l h64, hn], fun i u hu => ⟨_, rfl, hB, by
    rw [addr_row, hr.cell, Nat.zero_add, List.getElem?_append_left (List.getElem?_eq_some_iff.1 hu).1]
    exact hu⟩⟩⟩
theorem sigs_set {k : Nat} {l : List (List Int)} {x : List Int} {cs : List Value} (h64 : ∀ k ∈ l, k.length = 64) (hx : l[k]? = some x) :
    (bv (l.take k).flatten ++ cs.drop (k * 64)).take (k * 64) ++ bv x ++ (bv (l.take k).flatten ++ cs.drop (k * 64)).drop (k * 64 + (bv x).length) = bv (l.take (k + 1)).flatten ++ cs.drop ((k + 1) * 64) := by
  have hk := (List.getElem?_eq_some_iff.1 hx).1
  have hl : (bv (l.take k).flatten).length = k * 64 := by
    rw [bv_length, flat64_len _ (fun y hy => h64 y (List.mem_of_mem_take hy)), List.length_take]
    congr 1; omega
  have hxl := h64 x (List.mem_of_getElem? hx)
  rw [List.take_left' hl, bv_length, hxl, show k * 64 + 64 = (bv (l.take k).flatten).length + 64 by rw [hl], List.drop_length_add_append, List.drop_drop, flat64_take_succ hx, bv_append, show k * 64 + 64 = (k + 1) * 64 by omega]
set_option maxRecDepth 100000 in
set_option maxHeartbeats 1000000 in
theorem twinS (A : Option Addr) (n c : Nat) (l : List (List Int)) (z : List Int) (w : World) (S : Nat)
    (hx : SigsIn w S A n l) (hS : S ≤ w.heap.size) (hn : n ≤ 1000000000) (hz : z.length = 64) :
    Calls Try.prog 17 #[.slice A n c, .agg (bv z).toArray] w fun e w' => ∃ g, e = .returned (.slice (some ⟨g, 0, none⟩) n (n + 3)) ∧ w.heap.size ≤ g ∧ Row w' g 49 (bv l.flatten ++ keyRow 3 z) ∧ Below w.heap.size w w' := by
  have HX := Lib.hid hx
  have HZ := Lib.hid hz
  have RB := Lib.hid (Row.new w 49 (bv z))
  have hb0 : Below w.heap.size w (w.alloc (Obj.cells (bv z).toArray 49)) := (Below.refl _ _).alloc (Nat.le_refl _) _
  have HB0 := Lib.hid hb0
  have z0 : (w.alloc (Obj.cells (bv z).toArray 49)).heap.size = w.heap.size + 1 := by simp
  clear hx hb0
  go_enter Try.func17, Try.ntmps17
  go_upto_region 1 with fail
  generalize (w.alloc (Obj.cells (bv z).toArray 49)) = W at *
  have ZW := Lib.hid z0
  clear z0
  go_wp2_with (first
    | (at_make; (obtain ⟨i0, hi, hz0, hz1, hz2⟩ := info_parts info_sig); go_must (refine wpList_make_full _ rfl (.tmp 10) (.tmp 10) 22 rfl W.heap.size 49 i0 _ 64 Try.underlying22 hi hz0 hz1 .i64 .i64 _ _ (n + 3) rfl rfl (by simp) (by simp) (by rw [hz2]; omega) (by unfold maxLen; omega) (Nat.le_refl _) ?_; intro w1 hown hgrow; have hrow := Row.of_ownN hown; have hb1 := (Below.refl W.heap.size W).grown hgrow (Nat.le_refl _) (fun k hk => by cases hk))))
  have hlen := made_len (.agg (zeros 64).toArray) ((n + 3) * 64)
  generalize (madeCells (Value.agg (zeros 64).toArray).cells ((n + 3) * 64)).toList = cs at *
  have HL := Lib.hid hlen
  have R := Lib.hid hrow
  have RB1 := Lib.hid (RB.out.below hb1 (by have := ZW.out; omega))
  have HB1 := Lib.hid (HB0.out.trans (hb1.mono (by have := ZW.out; omega)))
  have HZ1 : Hid (W.heap.size < w1.heap.size) := Lib.hid hrow.lt
  clear hlen hrow hown hgrow hb1 RB HB0
  have lenl := HX.out.len
  go_loopw [6] (fun i wr => ∃ k : Nat, k ≤ n ∧ i = .int .i64 k ∧ Row wr W.heap.size 49 (bv (l.take k).flatten ++ cs.drop (k * 64)) ∧ Below W.heap.size w1 wr) (fun i _ => n - (intOf i).toNat)
  case atStart => exact ⟨0, Nat.zero_le _, rfl, by simpa [bv, cv] using R.out, Below.refl _ _⟩
  case round =>
  clear R
  obtain ⟨k, hk, rfl, hr, hb⟩ := hrel
  have RR := Lib.hid hr
  have HB := Lib.hid hb
  clear hr hb
  by_cases hlt : k < n
  · obtain ⟨a, x, rfl, hab, hxl, hat⟩ := HX.out.get hlt
    have HX1 := Lib.hid hxl
    have HB2 := Lib.hid (HB1.out.trans (HB.out.mono (by have := ZW.out; omega)))
    have HAT := Lib.hid (hat.keep hab fun p hp => HB2.out.cell (by omega))
    have HSZ := Lib.hid (size_sig' hat.len)
    have HCL : Hid (k * 64 + (bv x).length ≤ (bv (l.take k).flatten ++ cs.drop (k * 64)).length) := by
      have h1 := HL.out
      have h2 : (bv (l.take k).flatten).length = k * 64 := by
        rw [bv_length, flat64_len _ (fun y hy => HX.out.each y (List.mem_of_mem_take hy)), List.length_take]
        congr 1; omega
      refine Lib.hid ?_
      rw [List.length_append, h2, List.length_drop, bv_length, hat.len]
      omega
    clear hxl hat
    go_wp2_with (first
      | ((with_reducible show wpList _ _ _ ({ dst := some 23, op := Op.load _ _, type := _, pos := _, after := _, guard := _ } :: _) _ _); go_must (refine wpList_load_at rfl 49 (.tmp 22) rfl (a.add (k * 64)) (bv x) _ Try.underlying49 rfl HSZ.out HAT.out.cells ?_ ?_; go_simp))
      | ((with_reducible show wpList _ _ _ ({ dst := none, op := Op.store 49 _ _, type := _, pos := _, after := _, guard := _ } :: _) _ _); go_must (refine wpList_store_part rfl 49 (.tmp 24) (.tmp 23) rfl W.heap.size 49 (k * 64) _ (bv x) RR.out HSZ.out HCL.out (bv_one x) ?_ ?_ ?_; go_simp; go_simp; intro w2 hr2 ht2; have HR2 := Lib.hid hr2; have HT2 := Lib.hid ht2; clear hr2 ht2)))
    go_roundw
    case rel =>
      refine ⟨k + 1, by omega, by go_num, ?_, HB.out.trans (HT2.out.below (Nat.le_refl _))⟩
      have := HR2.out
      rwa [sigs_set HX.out.each HX1.out] at this
    case measure => simp [intOf]; omega
  · obtain rfl : k = n := by omega
    have R2 : Hid (Row wr W.heap.size 49 (bv l.flatten ++ cs.drop (k * 64))) := by
      have := RR.out
      rw [List.take_of_length_le (by omega)] at this
      exact Lib.hid this
    have HFL : Hid ((bv l.flatten).length = k * 64) := Lib.hid (by rw [bv_length, flat64_len l HX.out.each, HX.out.len])
    clear RR
    go_wp2_with fail
    go_loopw [7] (fun i wr => ∃ j : Nat, j ≤ 3 ∧ i = .int .i64 j ∧ Row wr W.heap.size 49 (bv l.flatten ++ (keyRow j z ++ (cs.drop (k * 64)).drop (j * 64))) ∧ Below W.heap.size w1 wr) (fun i _ => 3 - (intOf i).toNat)
    case atStart => exact ⟨0, Nat.zero_le _, rfl, by simpa [keyRow] using R2.out, HB.out⟩
    case round =>
      clear R2 HB
      obtain ⟨j, hj, rfl, hr, hb⟩ := hrel
      have RR := Lib.hid hr
      have HB := Lib.hid hb
      clear hr hb
      by_cases hlt : j < 3
      · have HBX := Lib.hid (RB1.out.below HB.out (by have := ZW.out; omega))
        have HCL : Hid ((k + j) * 64 + (bv z).length ≤ (bv l.flatten ++ (keyRow j z ++ (cs.drop (k * 64)).drop (j * 64))).length) := by
          have h1 := HL.out
          have h2 := HFL.out
          have h3 := sigRow_len j HZ.out
          refine Lib.hid ?_
          rw [List.length_append, List.length_append, h2, h3, List.length_drop, List.length_drop, bv_length, HZ.out]
          omega
        go_wp2_with (first
          | ((with_reducible show wpList _ _ _ ({ dst := some 34, op := Op.load _ _, type := _, pos := _, after := _, guard := _ } :: _) _ _); go_must (refine wpList_load_whole rfl 49 (.tmp 3) rfl w.heap.size 49 (bv z) _ Try.underlying49 rfl (size_sig' HZ.out) HBX.out ?_ ?_; go_simp))
          | ((with_reducible show wpList _ _ _ ({ dst := none, op := Op.store 49 _ _, type := _, pos := _, after := _, guard := _ } :: _) _ _); go_must (refine wpList_store_part rfl 49 (.tmp 35) (.tmp 34) rfl W.heap.size 49 ((k + j) * 64) _ (bv z) RR.out (size_sig' HZ.out) HCL.out (bv_one z) ?_ ?_ ?_; go_simp; go_simp; intro w2 hr2 ht2; have HR2 := Lib.hid hr2; have HT2 := Lib.hid ht2; clear hr2 ht2)))
        go_roundw
        case rel =>
          refine ⟨j + 1, by omega, by go_num, ?_, HB.out.trans (HT2.out.below (Nat.le_refl _))⟩
          have := HR2.out
          have e := sigRow_set (k := j) HZ.out (bv l.flatten) (cs.drop (k * 64)) (by have := HL.out; rw [List.length_drop]; omega)
          rw [HFL.out, ← Nat.add_mul] at e
          rwa [e] at this
        case measure => simp [intOf]; omega
      · obtain rfl : j = 3 := by omega
        have R3 : Hid (Row wr W.heap.size 49 (bv l.flatten ++ keyRow 3 z)) := by
          have := RR.out
          rw [List.drop_of_length_le (by have := HL.out; rw [List.length_drop]; omega), List.append_nil] at this
          exact Lib.hid this
        clear RR
        go_wp2_with fail
        go_ret
        exact ⟨W.heap.size, rfl, by have := ZW.out; omega, R3.out, HB1.out.trans (HB.out.mono (by have := ZW.out; omega))⟩
/-- the mark behind signatures -/
def mk64 : List Int := 165 :: 90 :: List.replicate 62 0
theorem built_mk64 : Try.prog.built 49 [(0, .int .u8 165), (1, .int .u8 90)] = some (bv mk64).toArray := by kernel_rfl
theorem mk64_len : mk64.length = 64 := by decide
set_option maxRecDepth 100000 in
set_option maxHeartbeats 400000 in
theorem markSig (w : World) : Calls Try.prog 18 #[] w fun e w' => e = .returned (.agg (bv mk64).toArray) ∧ Below w.heap.size w w' := by
  go_enter Try.func18, Try.ntmps18
  go_wp2_with (first
    | ((with_reducible show wpList _ _ _ ({ dst := some 1, op := Op.build _ _, type := _, pos := _, after := _, guard := _ } :: _) _ _); go_must (refine wpList_plain rfl fun K hK => wp_built _ _ _ rfl (by simp only [List.map_toArray, List.map_cons, List.map_nil]; exact built_mk64) (hK _ _ ?_)))
    | ((with_reducible show wpList _ _ _ ({ dst := none, op := Op.store 49 _ _, type := _, pos := _, after := _, guard := _ } :: _) _ _); go_must (refine wpList_store_new rfl 49 (.tmp 0) (.tmp 1) rfl (bv mk64) size_sig (bv_one _) rfl ?_ ?_ ?_; go_simp; go_simp; intro w1 hr1 hb1 hz1; have HR1 := Lib.hid hr1; have HB1 := Lib.hid hb1; clear hr1 hb1)))
  refine bodyPost_ret (results_cell_row (h := rfl) _ w1 w.heap.size 49 _ (0, 0) _ (by rfl) HR1.out.is Try.underlying49 rfl size_sig) rfl ?_
  exact ⟨rfl, HB1.out⟩
theorem sigRow_at {j n : Nat} {z : List Int} (hz : z.length = 64) (hj : j < n) {i : Nat} {u : Value} (hu : (bv z)[i]? = some u) : (keyRow n z)[j * 64 + i]? = some u := by
  unfold keyRow
  have hl : ∀ (i : Nat) y, (List.replicate n (bv z))[i]? = some y → y.length = 64 := fun i y hy => by
    have := List.eq_of_mem_replicate (List.mem_of_getElem? hy)
    rw [this, bv_length, hz]
  exact flatten_at 64 (List.replicate n (bv z)) j (bv z) hl (by rw [List.getElem?_replicate_of_lt hj]) i u hu
set_option maxRecDepth 100000 in
set_option maxHeartbeats 1000000 in
theorem leftS (g : Nat) (B : Option Addr) (n d : Nat) (l : List (List Int)) (z : List Int) (w : World) (S : Nat)
    (hr : Row w g 49 (bv l.flatten ++ keyRow 3 z)) (hy : SigsIn w S B n l) (hS : S ≤ w.heap.size) (hn : n ≤ 1000000000) (hz : z.length = 64) :
    Calls Try.prog 22 #[.slice (some ⟨g, 0, none⟩) n (n + 3), .slice B n d, .agg (bv z).toArray] w fun e w' => e = .returned (.bool true) ∧ Below w.heap.size w w' := by
  have hb0 : Below w.heap.size w (w.alloc (Obj.cells (bv z).toArray 49)) := (Below.refl _ _).alloc (Nat.le_refl _) _
  have RB := Lib.hid (Row.new w 49 (bv z))
  have R := Lib.hid (hr.alloc (Obj.cells (bv z).toArray 49))
  have HB0 := Lib.hid hb0
  have hlen := hy.len
  have h64 := hy.each
  have HFL : Hid ((bv l.flatten).length = n * 64) := Lib.hid (by rw [bv_length, flat64_len l h64, hlen])
  have HK := Lib.hid (same_sigs (some ⟨g, 0, none⟩) B n (n + 3) d l _ w.heap.size w.heap.size (sigs_row R.out hlen h64 hr.lt) ((hy.more hS).below hb0) (by unfold maxLen; omega))
  have NQ := fun w => same_neq64 Try.underlying49 z hz w
  have HZ := Lib.hid hz
  clear hr hy hb0 h64 hlen
  go_enter Try.func22, Try.ntmps22
  go_upto_region 1 with fail
  generalize (w.alloc (Obj.cells (bv z).toArray 49)) = W at *
  go_wp2_with fail
  refine HK.out.mono ?_
  rintro e w1 ⟨rfl, k, rfl⟩
  go_wp2_with fail
  go_loopw [8] (fun i wr => ∃ j q : Nat, j ≤ 3 ∧ i = .int .i64 j ∧ wr = W.drewN q) (fun i _ => 3 - (intOf i).toNat)
  case atStart => exact ⟨0, k, Nat.zero_le _, rfl, rfl⟩
  case round =>
    obtain ⟨j, q, hj, rfl, rfl⟩ := hrel
    by_cases hlt : j < 3
    · have CA := Lib.hid (show ∀ i u, (bv z)[i]? = some u → W.cell? ((⟨g, (n + j) * 64, none⟩ : Addr).add i) = some u from fun i u hu => by
        rw [addr_row, R.out.cell, List.getElem?_append_right (by rw [HFL.out]; omega), HFL.out, show (n + j) * 64 + i - n * 64 = j * 64 + i by omega]
        exact sigRow_at HZ.out hlt hu)
      have CB := Lib.hid (show ∀ i u, (bv z)[i]? = some u → W.cell? ((⟨w.heap.size, 0, none⟩ : Addr).add i) = some u from fun i u hu => by
        rw [addr_row, RB.out.cell, Nat.zero_add]; exact hu)
      have HSZ := Lib.hid (size_sig' HZ.out)
      generalize bv z = X at *
      go_wp2
      refine wp_region_quiet_lit (by kernel_rfl) (by kernel_rfl) ?_
      repeat (first
        | ((with_reducible show wpQuiet _ _ _ _ ({ dst := some 36, op := Op.load _ _, type := _, pos := _, after := _, guard := _ } :: _) _); go_must (refine quiet_load_at (by kernel_rfl) 49 (.tmp 35) rfl ⟨g, (n + j) * 64, none⟩ X _ Try.underlying49 rfl HSZ.out (by rintro _ ⟨nq, rfl⟩; exact CA.out) ?_ ?_; go_simp; go_simp))
        | ((with_reducible show wpQuiet _ _ _ _ ({ dst := some 37, op := Op.load _ _, type := _, pos := _, after := _, guard := _ } :: _) _); go_must (refine quiet_load_at (by kernel_rfl) 49 (.tmp 5) rfl ⟨w.heap.size, 0, none⟩ X _ Try.underlying49 rfl HSZ.out (by rintro _ ⟨nq, rfl⟩; exact CB.out) ?_ ?_; go_simp; go_simp))
        | go_big_quiet_step (fail))
      refine wpQuiet_nil ?_
      intro nq
      go_wp2
      go_roundw
      case rel => exact ⟨j + 1, q + nq, by omega, by go_num, by simp⟩
      case measure => simp [intOf]; omega
    · go_wp2
      go_ret
      exact ⟨rfl, below_drewN HB0.out q⟩
end Go.Proofs.Ytgdikmgmpleolaa

/-
  Of part TxMsg: what is needed here.
-/
namespace Go.Proofs.Ytgdikmgmpleolaa
open Go.RowKit
set_option linter.unusedVariables false
theorem wp_store_part {P : Program} {op : Oper} {a : Act} {w : World} {K : Act → World → Prop} {Q : Exit → Act → World → Prop} (ty : TypeId) (x y : Operand) (ho : op.op = .store ty x y)
    (g t o : Nat) (c cs : List Value) (hr : Row w g t c) (hi : (P.info? ty).map (·.size) = some cs.length) (hl : o + cs.length ≤ c.length) (h1 : ∀ u ∈ cs, u.oneCell' = true)
    (hx : a.eval x = .pointer (some ⟨g, o, none⟩)) (hy : a.eval y = .agg cs.toArray)
    (h : ∀ w', Row w' g t (c.take o ++ cs ++ c.drop (o + cs.length)) → Turned w w' g → K (a.put op.dst undef) w') : op.wp P a w K Q :=
  wp_store_mid ty x y ho g o cs.toArray hx hy (fun j hj => ⟨by
      have hj' : j < cs.length := by simpa using hj
      rw [hr.cell, List.getElem?_eq_getElem (by omega)]; rfl, hr.frozen _⟩) (by simpa using hi) (all_oneCell_toArray h1)
    (h _ (by simpa using row_setCells cs w o c hr hl) (turned_setCells cs w o))
end Go.Proofs.Ytgdikmgmpleolaa

/-
  Of part GetTx: what is needed here.
-/
namespace Go.Proofs.Ytgdikmgmpleolaa
open Go.RowKit
set_option linter.unusedVariables false
/-- a transaction of the call's own, in the blocks from lo to hi -/
structure TxV (w : World) (lo hi : Nat) (s : TRaw) (x : LTx) : Prop where
  short : x.sigs.length ≤ 65535
  is : ∃ mid, lo ≤ mid ∧ mid ≤ hi ∧ SigsV w lo mid (.slice s.SA s.sn s.sc) x.sigs ∧ MsgV w mid hi s.q x.m
theorem SigsV.stay {w w' : World} {lo hi : Nat} {v : Value} {l : List (List Int)} (h : SigsV w lo hi v l) (hk : ∀ k, lo ≤ k → k < hi → w'.heap[k]? = w.heap[k]?) : SigsV w' lo hi v l := by
  refine ⟨⟨h.own.1, ?_⟩, h.lt, h.each⟩
  rcases h.own.2 with h2 | ⟨g, cap, cur, hv, hg, hh, r⟩
  · exact .inl h2
  · exact .inr ⟨g, cap, cur, hv, hg, (hk g hg (h.lt g (by rw [hv]; rfl))).trans hh, r⟩
theorem SigsV.form {w : World} {lo hi : Nat} {v : Value} {l : List (List Int)} (h : SigsV w lo hi v l) : ∃ A c, v = .slice A l.length c := by
  rcases h.own.2 with ⟨rfl, h2⟩ | ⟨g, cap, cur, rfl, _⟩
  · exact ⟨_, _, by rw [h2]⟩
  · exact ⟨_, _, rfl⟩
theorem SigsV.in_ {w : World} {lo hi : Nat} {A : Option Addr} {n c : Nat} {l : List (List Int)} (h : SigsV w lo hi (.slice A n c) l) : SigsIn w hi A n l ∧ n ≤ c ∧ c ≤ maxLen := by
  obtain ⟨A', c', e⟩ := h.form
  cases e
  refine ⟨⟨rfl, h.each, ⟨by rw [bv_length, flat64_len l h.each], fun i u hu => ?_⟩⟩, own_caps h.own⟩
  obtain ⟨g, rfl, h1, h2, h3, h4⟩ := own_cell h.own hu
  exact ⟨_, rfl, h.lt g h1, by rw [addr_row, Nat.zero_add]; exact h4⟩
theorem TxV.in_ {w : World} {lo hi : Nat} {s : TRaw} {x : LTx} (h : TxV w lo hi s x) : TxIn w hi s x := by
  obtain ⟨mid, h1, h2, h3, h4⟩ := h.is
  obtain ⟨h5, h6⟩ := h3.in_
  exact ⟨h5.more h2, h6, h4.in_⟩
theorem TxV.stay {w w' : World} {lo hi : Nat} {s : TRaw} {x : LTx} (h : TxV w lo hi s x) (hz : w.heap.size ≤ w'.heap.size) (hk : ∀ k, lo ≤ k → k < hi → w'.heap[k]? = w.heap[k]?) : TxV w' lo hi s x := by
  obtain ⟨mid, h1, h2, h3, h4⟩ := h.is
  exact ⟨h.short, mid, h1, h2, h3.stay fun k a b => hk k a (by omega), h4.stay hz fun k a b => hk k (by omega) b⟩
theorem TxV.more {w : World} {lo hi hi' : Nat} {s : TRaw} {x : LTx} (h : TxV w lo hi s x) (hh : hi ≤ hi') : TxV w lo hi' s x := by
  obtain ⟨mid, h1, h2, h3, h4⟩ := h.is
  exact ⟨h.short, mid, h1, by omega, h3, h4.more hh⟩
end Go.Proofs.Ytgdikmgmpleolaa

/-
  Of part Twin: what is needed here.
-/
namespace Go.Proofs.Ytgdikmgmpleolaa
open Go.RowKit
set_option linter.unusedVariables false
theorem row_copy {w1 : World} {g t : Nat} {zs : List Int} {k r : Nat} (hk : k < zs.length) (R : Row w1 g t (bv (zs.take k ++ List.replicate (zs.length - k + r) 0))) :
    Row (w1.setCell ⟨g, k, none⟩ (.int .u8 (zs.getD k 0))) g t (bv (zs.take (k + 1) ++ List.replicate (zs.length - (k + 1) + r) 0)) := by
  have h := R.set_ k (.int .u8 (zs.getD k 0))
  have e : (bv (zs.take k ++ List.replicate (zs.length - k + r) 0)).set k (.int .u8 (zs.getD k 0)) = bv (zs.take (k + 1) ++ List.replicate (zs.length - (k + 1) + r) 0) := by
    rw [show zs.length - k + r = zs.length - (k + 1) + r + 1 by omega, List.replicate_succ, List.take_succ_eq_append_getElem hk, List.getD_eq_getElem?_getD, List.getElem?_eq_getElem hk]
    simp only [bv, cv, List.map_append, List.map_cons]
    rw [List.set_append_right _ _ (by simp; omega)]
    simp [Nat.min_eq_left (Nat.le_of_lt hk)]
  rwa [e] at h
theorem row_mark {w1 : World} {g t : Nat} {zs : List Int} {j : Nat} {m : Int} (hj : j < 3) (R : Row w1 g t (bv (zs ++ (List.replicate j m ++ List.replicate (3 - j) 0)))) :
    Row (w1.setCell ⟨g, zs.length + j, none⟩ (.int .u8 m)) g t (bv (zs ++ (List.replicate (j + 1) m ++ List.replicate (3 - (j + 1)) 0))) := by
  have h := R.set_ (zs.length + j) (.int .u8 m)
  obtain rfl | rfl | rfl : j = 0 ∨ j = 1 ∨ j = 2 := by omega
  all_goals simpa [bv, cv, List.set_append, List.replicate] using h
set_option maxHeartbeats 800000 in
theorem twin_byte (A : Option Addr) (n c : Nat) (zs : List Int) (m : Int) (w : World) (S : Nat)
    (hx : Sees w S A n (bv zs)) (hS : S ≤ w.heap.size) (hn : n ≤ 1099511627776) :
    Calls Try.prog 44 #[.slice A n c, .int .u8 m] w fun e w' => ∃ g, e = .returned (.slice (some ⟨g, 0, none⟩) n (n + 3)) ∧ w.heap.size ≤ g ∧ Row w' g 5 (bv (zs ++ List.replicate 3 m)) ∧ Below w.heap.size w w' := by
  obtain ⟨i0, hi, hz0, hz1, hz2⟩ := info_parts info_u8
  have l0 : zs.length = n := by have := hx.len; rwa [bv_length] at this
  subst l0
  go_enter Try.func44, Try.ntmps44
  go_wp2_with (first
    | (at_make; go_must (refine wpList_make_full _ rfl (.tmp 10) (.tmp 10) 42 rfl w.heap.size 5 i0 _ 1 Try.underlying42 hi hz0 hz1 .i64 .i64 _ _ (zs.length + 3) rfl rfl (by simp) (by simp) (by rw [hz2]; omega) (by unfold maxLen; omega) (Nat.le_refl _) ?_); intro w1 hown hgrow))
  rw [made_bytes] at hown
  have R := Lib.hid (Row.of_own hown)
  have hb1 := (Below.refl w.heap.size w).grown hgrow (Nat.le_refl _) (fun k hk => by cases hk)
  clear hown hgrow hi hz0 hz1 hz2
  go_loopw [6] (fun i wr => ∃ k : Nat, k ≤ zs.length ∧ i = .int .i64 k ∧ Row wr w.heap.size 5 (bv (zs.take k ++ List.replicate (zs.length - k + 3) 0)) ∧ Below w.heap.size w wr) (fun i _ => zs.length - (intOf i).toNat)
  case atStart => exact ⟨0, Nat.zero_le _, rfl, by simpa using R.out, hb1⟩
  case round =>
    obtain ⟨k, hk, rfl, hr, hbr⟩ := hrel
    clear R hb1
    have RR := Lib.hid hr
    by_cases hlt : k < zs.length
    · obtain ⟨a, rfl, ha, hca⟩ := ((hx.below (hbr.mono hS))).byte hlt
      have f0 := hr.frozen k
      have c0 := hr.cell k
      rw [bv_getElem?, List.getElem?_append_right (by simp; omega), List.getElem?_replicate_of_lt (by simp; omega)] at c0
      have c0 : wr.cell? ⟨w.heap.size, k, none⟩ = some (.int .u8 0) := c0
      have HS := Lib.hid (row_copy (r := 3) hlt hr)
      generalize zs.getD k 0 = z at *
      clear hr
      go_wp2
      go_roundw
      case rel => exact ⟨k + 1, by omega, by go_num, HS.out, hbr.setCell (Nat.le_refl _) _⟩
      case measure => simp [intOf]; omega
    · have hk' : k = zs.length := by omega
      have R2 : Hid (Row wr w.heap.size 5 (bv (zs ++ List.replicate 3 0))) := by
        have := hr
        rw [hk'] at this
        simpa using Lib.hid this
      clear hr hk' RR
      go_wp2
      go_loopw [7] (fun i wr => ∃ j : Nat, j ≤ 3 ∧ i = .int .i64 j ∧ Row wr w.heap.size 5 (bv (zs ++ (List.replicate j m ++ List.replicate (3 - j) 0))) ∧ Below w.heap.size w wr) (fun i _ => 3 - (intOf i).toNat)
      case atStart => exact ⟨0, Nat.zero_le _, rfl, by simpa using R2.out, hbr⟩
      case round =>
        obtain ⟨j, hj, rfl, hr, hbr2⟩ := hrel
        clear R2 hbr
        have RR := Lib.hid hr
        by_cases hlt : j < 3
        · have f0 := hr.frozen (zs.length + j)
          have c0 := hr.cell (zs.length + j)
          rw [bv_getElem?, List.getElem?_append_right (by omega), List.getElem?_append_right (by simp), List.getElem?_replicate_of_lt (by simp; omega)] at c0
          have c0 : wr.cell? ⟨w.heap.size, zs.length + j, none⟩ = some (.int .u8 0) := c0
          clear hr
          go_wp2
          go_roundw
          case rel => exact ⟨j + 1, by omega, by go_num, row_mark hlt RR.out, hbr2.setCell (Nat.le_refl _) _⟩
          case measure => simp [intOf]; omega
        · have hj3 : j = 3 := by omega
          have R3 : Hid (Row wr w.heap.size 5 (bv (zs ++ List.replicate 3 m))) := by
            have := hr
            rw [hj3] at this
            simpa using Lib.hid this
          clear hr hj3 RR
          go_wp2
          go_ret
          exact ⟨w.heap.size, rfl, Nat.le_refl _, R3.out, hbr2⟩
set_option maxHeartbeats 400000 in
/-- TwinBytes. -/
theorem twinBytes (A : Option Addr) (n c : Nat) (zs : List Int) (w : World) (S : Nat)
    (hx : Sees w S A n (bv zs)) (hS : S ≤ w.heap.size) (hn : n ≤ 1099511627776) :
    Calls Try.prog 25 #[.slice A n c] w fun e w' => ∃ g, e = .returned (.slice (some ⟨g, 0, none⟩) n (n + 3)) ∧ w.heap.size ≤ g ∧ Row w' g 5 (bv (zs ++ List.replicate 3 165)) ∧ Below w.heap.size w w' := by
  have H := Lib.hid (twin_byte A n c zs 165 w S hx hS hn)
  go_enter Try.func25, Try.ntmps25
  go_wp2_with fail
  refine H.out.mono ?_
  rintro e w1 ⟨g, rfl, hg, hr, hb⟩
  have R := Lib.hid hr
  clear hr
  go_wp2_with fail
  go_ret
  exact ⟨g, rfl, hg, R.out, hb⟩
set_option maxHeartbeats 800000 in
theorem left_byte (g : Nat) (B : Option Addr) (n d : Nat) (zs : List Int) (m : Int) (w : World) (S : Nat)
    (hr : Row w g 5 (bv (zs ++ List.replicate 3 m))) (hy : Sees w S B n (bv zs)) (hn : n ≤ 1099511627776) :
    Calls Try.prog 52 #[.slice (some ⟨g, 0, none⟩) n (n + 3), .slice B n d, .int .u8 m] w fun e w' => e = .returned (.bool true) ∧ ∃ k, w' = w.drewN k := by
  have l0 : zs.length = n := by have := hy.len; rwa [bv_length] at this
  subst l0
  have hs : Sees w w.heap.size (some ⟨g, 0, none⟩) zs.length (bv zs) := ⟨bv_length _, fun i u hu => ⟨_, rfl, hr.lt, by
    rw [addr_row, hr.cell, bv_append, Nat.zero_add, List.getElem?_append_left (List.getElem?_eq_some_iff.1 hu).1]; exact hu⟩⟩
  have SB := Lib.hid (same_byte (some ⟨g, 0, none⟩) B zs.length zs.length (zs.length + 3) d zs zs w _ _ hs hy (by unfold maxLen; omega) (by unfold maxLen; omega))
  have R := Lib.hid hr
  clear hs hr
  go_enter Try.func52, Try.ntmps52
  go_wp2_with fail
  refine SB.out.mono ?_
  rintro e w1 ⟨rfl, k, rfl⟩
  simp only [decide_true]
  go_wp2_with fail
  go_loop [8] (fun i => ∃ j : Nat, j ≤ 3 ∧ i = .int .i64 j) (fun i => 3 - (intOf i).toNat)
  case atStart => exact ⟨0, Nat.zero_le _, rfl⟩
  case round =>
    obtain ⟨j, hj, rfl⟩ := hrel
    by_cases hlt : j < 3
    · have c0 := R.out.cell (zs.length + j)
      rw [bv_getElem?, List.getElem?_append_right (by omega), List.getElem?_replicate_of_lt (by omega)] at c0
      have c0 : w.cell? ⟨g, zs.length + j, none⟩ = some (.int .u8 m) := c0
      have hm : (m != m) = false := by simp
      go_wp2
      go_round
      case rel => exact ⟨j + 1, by omega, by go_num⟩
      case measure => simp [intOf]; omega
    · go_wp2
      go_ret
      exact ⟨rfl, k, rfl⟩
set_option maxHeartbeats 400000 in
/-- LeftBytes. -/
theorem leftBytes (g : Nat) (B : Option Addr) (n d : Nat) (zs : List Int) (w : World) (S : Nat)
    (hr : Row w g 5 (bv (zs ++ List.replicate 3 165))) (hy : Sees w S B n (bv zs)) (hn : n ≤ 1099511627776) :
    Calls Try.prog 41 #[.slice (some ⟨g, 0, none⟩) n (n + 3), .slice B n d] w fun e w' => e = .returned (.bool true) ∧ ∃ k, w' = w.drewN k := by
  have H := Lib.hid (left_byte g B n d zs 165 w S hr hy hn)
  clear hr
  go_enter Try.func41, Try.ntmps41
  go_wp2_with fail
  refine H.out.mono ?_
  rintro e w1 ⟨rfl, k, rfl⟩
  go_wp2_with fail
  go_ret
  exact ⟨rfl, k, rfl⟩
end Go.Proofs.Ytgdikmgmpleolaa
