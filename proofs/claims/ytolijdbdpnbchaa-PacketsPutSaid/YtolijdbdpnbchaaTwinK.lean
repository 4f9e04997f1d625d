/-
  TwinKeys, LeftKeys.
-/
import Derived.Test.YtolijdbdpnbchaaSheetK
import Derived.Test.YtolijdbdpnbchaaListK
import Derived.Test.YtolijdbdpnbchaaPutMsg
import Derived.Test.YtolijdbdpnbchaaBookK
namespace Go.Proofs.Ytolijdbdpnbchaa
open Go.RowKit
set_option linter.unusedVariables false

theorem made_len (z : Value) (n : Nat) : (madeCells z.cells n).toList.length = n := by simp [madeCells]

theorem Row.of_ownN {w : World} {base N size g : Nat} {e : TypeId} {xs : List Value} (h : w.ownsRow base e size (.slice (some ⟨g, 0, none⟩) N N) N xs) : Row w g e xs := by
  rcases h.2 with ⟨h1, _⟩ | ⟨g', cap, cur, h1, h2, h3, h4, h5, h6, h7⟩
  · cases h1
  · cases h1
    refine ⟨?_⟩
    rw [h3, ← h7, ← h6, ← Array.length_toList, List.take_length]

/-- keys that stand in a row -/
theorem keys_row {w : World} {g : Nat} {l : List (List Int)} {ys : List Value} {n : Nat} (hr : Row w g 58 (bv l.flatten ++ ys)) (hn : l.length = n) (h32 : ∀ k ∈ l, k.length = 32) {B : Nat} (hB : g < B) : KeysIn w B (some ⟨g, 0, none⟩) n l :=
  ⟨hn, h32, ⟨by rw [bv_length, flatten_len l h32, hn], fun i u hu => ⟨_, rfl, hB, by
    rw [addr_row, hr.cell, Nat.zero_add, List.getElem?_append_left (List.getElem?_eq_some_iff.1 hu).1]
    exact hu⟩⟩⟩

theorem keys_set {k : Nat} {l : List (List Int)} {x : List Int} {cs : List Value} (h32 : ∀ k ∈ l, k.length = 32) (hx : l[k]? = some x) :
    (bv (l.take k).flatten ++ cs.drop (k * 32)).take (k * 32) ++ bv x ++ (bv (l.take k).flatten ++ cs.drop (k * 32)).drop (k * 32 + (bv x).length) = bv (l.take (k + 1)).flatten ++ cs.drop ((k + 1) * 32) := by
  have hk := (List.getElem?_eq_some_iff.1 hx).1
  have hl : (bv (l.take k).flatten).length = k * 32 := by
    rw [bv_length, flatten_len _ (fun y hy => h32 y (List.mem_of_mem_take hy)), List.length_take]
    congr 1; omega
  have hxl := h32 x (List.mem_of_getElem? hx)
  rw [List.take_left' hl, bv_length, hxl, show k * 32 + 32 = (bv (l.take k).flatten).length + 32 by rw [hl], List.drop_length_add_append, List.drop_drop, flatten_take_succ hx, bv_append, show k * 32 + 32 = (k + 1) * 32 by omega]

set_option maxRecDepth 100000 in
set_option maxHeartbeats 1000000 in
theorem twinK (A : Option Addr) (n c : Nat) (l : List (List Int)) (z : List Int) (w : World) (S : Nat)
    (hx : KeysIn w S A n l) (hS : S ≤ w.heap.size) (hn : n ≤ 1000000000) (hz : z.length = 32) :
    Calls Try.prog 66 #[.slice A n c, .agg (bv z).toArray] w fun e w' => ∃ g, e = .returned (.slice (some ⟨g, 0, none⟩) n (n + 3)) ∧ w.heap.size ≤ g ∧ Row w' g 58 (bv l.flatten ++ keyRow 3 z) ∧ Below w.heap.size w w' := by
  have HX := Lib.hid hx
  have HZ := Lib.hid hz
  have RB := Lib.hid (Row.new w 58 (bv z))
  have hb0 : Below w.heap.size w (w.alloc (Obj.cells (bv z).toArray 58)) := (Below.refl _ _).alloc (Nat.le_refl _) _
  have HB0 := Lib.hid hb0
  have z0 : (w.alloc (Obj.cells (bv z).toArray 58)).heap.size = w.heap.size + 1 := by simp
  clear hx hb0
  go_enter Try.func66, Try.ntmps66
  go_upto_region 1 with fail
  generalize (w.alloc (Obj.cells (bv z).toArray 58)) = W at *
  have ZW := Lib.hid z0
  clear z0
  go_wp2_with (first
    | (at_make; (obtain ⟨i0, hi, hz0, hz1, hz2⟩ := info_parts info_key); go_must (refine wpList_make_full _ rfl (.tmp 10) (.tmp 10) 25 rfl W.heap.size 58 i0 _ 32 Try.underlying25 hi hz0 hz1 .i64 .i64 _ _ (n + 3) rfl rfl (by simp) (by simp) (by rw [hz2]; omega) (by unfold maxLen; omega) (Nat.le_refl _) ?_; intro w1 hown hgrow; have hrow := Row.of_ownN hown; have hb1 := (Below.refl W.heap.size W).grown hgrow (Nat.le_refl _) (fun k hk => by cases hk))))
  have hlen := made_len (.agg (zeros 32).toArray) ((n + 3) * 32)
  generalize (madeCells (Value.agg (zeros 32).toArray).cells ((n + 3) * 32)).toList = cs at *
  have HL := Lib.hid hlen
  have R := Lib.hid hrow
  have RB1 := Lib.hid (RB.out.below hb1 (by have := ZW.out; omega))
  have HB1 := Lib.hid (HB0.out.trans (hb1.mono (by have := ZW.out; omega)))
  have HZ1 : Hid (W.heap.size < w1.heap.size) := Lib.hid hrow.lt
  clear hlen hrow hown hgrow hb1 RB HB0
  have lenl := HX.out.len
  go_loopw [6] (fun i wr => ∃ k : Nat, k ≤ n ∧ i = .int .i64 k ∧ Row wr W.heap.size 58 (bv (l.take k).flatten ++ cs.drop (k * 32)) ∧ Below W.heap.size w1 wr) (fun i _ => n - (intOf i).toNat)
  case atStart => exact ⟨0, Nat.zero_le _, rfl, by simpa [bv, cv] using R.out, Below.refl _ _⟩
  case round =>
  clear R
  obtain ⟨k, hk, rfl, hr, hb⟩ := hrel
  have RR := Lib.hid hr
  have HB := Lib.hid hb
  clear hr hb
  by_cases hlt : k < n
  · obtain ⟨a, x, rfl, hab, hxl, hat⟩ := HX.out.get hlt
    have HX1 := Lib.hid hxl
    have HB2 := Lib.hid (HB1.out.trans (HB.out.mono (by have := ZW.out; omega)))
    have HAT := Lib.hid (hat.keep hab fun p hp => HB2.out.cell (by omega))
    have HSZ := Lib.hid (size_key' hat.len)
    have HCL : Hid (k * 32 + (bv x).length ≤ (bv (l.take k).flatten ++ cs.drop (k * 32)).length) := by
      have h1 := HL.out
      have h2 : (bv (l.take k).flatten).length = k * 32 := by
        rw [bv_length, flatten_len _ (fun y hy => HX.out.each y (List.mem_of_mem_take hy)), List.length_take]
        congr 1; omega
      refine Lib.hid ?_
      rw [List.length_append, h2, List.length_drop, bv_length, hat.len]
      omega
    clear hxl hat
    go_wp2_with (first
      | ((with_reducible show wpList _ _ _ ({ dst := some 23, op := Op.load _ _, type := _, pos := _, after := _, guard := _ } :: _) _ _); go_must (refine wpList_load_at rfl 58 (.tmp 22) rfl (a.add (k * 32)) (bv x) _ Try.underlying58 rfl HSZ.out HAT.out.cells ?_ ?_; go_simp))
      | ((with_reducible show wpList _ _ _ ({ dst := none, op := Op.store 58 _ _, type := _, pos := _, after := _, guard := _ } :: _) _ _); go_must (refine wpList_store_part rfl 58 (.tmp 24) (.tmp 23) rfl W.heap.size 58 (k * 32) _ (bv x) RR.out HSZ.out HCL.out (bv_one x) ?_ ?_ ?_; go_simp; go_simp; intro w2 hr2 ht2; have HR2 := Lib.hid hr2; have HT2 := Lib.hid ht2; clear hr2 ht2)))
    go_roundw
    case rel =>
      refine ⟨k + 1, by omega, by go_num, ?_, HB.out.trans (HT2.out.below (Nat.le_refl _))⟩
      have := HR2.out
      rwa [keys_set HX.out.each HX1.out] at this
    case measure => simp [intOf]; omega
  · obtain rfl : k = n := by omega
    have R2 : Hid (Row wr W.heap.size 58 (bv l.flatten ++ cs.drop (k * 32))) := by
      have := RR.out
      rw [List.take_of_length_le (by omega)] at this
      exact Lib.hid this
    have HFL : Hid ((bv l.flatten).length = k * 32) := Lib.hid (by rw [bv_length, flatten_len l HX.out.each, HX.out.len])
    clear RR
    go_wp2_with fail
    go_loopw [7] (fun i wr => ∃ j : Nat, j ≤ 3 ∧ i = .int .i64 j ∧ Row wr W.heap.size 58 (bv l.flatten ++ (keyRow j z ++ (cs.drop (k * 32)).drop (j * 32))) ∧ Below W.heap.size w1 wr) (fun i _ => 3 - (intOf i).toNat)
    case atStart => exact ⟨0, Nat.zero_le _, rfl, by simpa [keyRow] using R2.out, HB.out⟩
    case round =>
      clear R2 HB
      obtain ⟨j, hj, rfl, hr, hb⟩ := hrel
      have RR := Lib.hid hr
      have HB := Lib.hid hb
      clear hr hb
      by_cases hlt : j < 3
      · have HBX := Lib.hid (RB1.out.below HB.out (by have := ZW.out; omega))
        have HCL : Hid ((k + j) * 32 + (bv z).length ≤ (bv l.flatten ++ (keyRow j z ++ (cs.drop (k * 32)).drop (j * 32))).length) := by
          have h1 := HL.out
          have h2 := HFL.out
          have h3 := keyRow_len j HZ.out
          refine Lib.hid ?_
          rw [List.length_append, List.length_append, h2, h3, List.length_drop, List.length_drop, bv_length, HZ.out]
          omega
        go_wp2_with (first
          | ((with_reducible show wpList _ _ _ ({ dst := some 34, op := Op.load _ _, type := _, pos := _, after := _, guard := _ } :: _) _ _); go_must (refine wpList_load_whole rfl 58 (.tmp 3) rfl w.heap.size 58 (bv z) _ Try.underlying58 rfl (size_key' HZ.out) HBX.out ?_ ?_; go_simp))
          | ((with_reducible show wpList _ _ _ ({ dst := none, op := Op.store 58 _ _, type := _, pos := _, after := _, guard := _ } :: _) _ _); go_must (refine wpList_store_part rfl 58 (.tmp 35) (.tmp 34) rfl W.heap.size 58 ((k + j) * 32) _ (bv z) RR.out (size_key' HZ.out) HCL.out (bv_one z) ?_ ?_ ?_; go_simp; go_simp; intro w2 hr2 ht2; have HR2 := Lib.hid hr2; have HT2 := Lib.hid ht2; clear hr2 ht2)))
        go_roundw
        case rel =>
          refine ⟨j + 1, by omega, by go_num, ?_, HB.out.trans (HT2.out.below (Nat.le_refl _))⟩
          have := HR2.out
          have e := keyRow_set (k := j) HZ.out (bv l.flatten) (cs.drop (k * 32)) (by have := HL.out; rw [List.length_drop]; omega)
          rw [HFL.out, ← Nat.add_mul] at e
          rwa [e] at this
        case measure => simp [intOf]; omega
      · obtain rfl : j = 3 := by omega
        have R3 : Hid (Row wr W.heap.size 58 (bv l.flatten ++ keyRow 3 z)) := by
          have := RR.out
          rw [List.drop_of_length_le (by have := HL.out; rw [List.length_drop]; omega), List.append_nil] at this
          exact Lib.hid this
        clear RR
        go_wp2_with fail
        go_ret
        exact ⟨W.heap.size, rfl, by have := ZW.out; omega, R3.out, HB1.out.trans (HB.out.mono (by have := ZW.out; omega))⟩

/-- the mark behind keys -/
def mk0 : List Int := [165, 90, 0, 0, 0, 0, 0, 0, 0, 0, 0, 0, 0, 0, 0, 0, 0, 0, 0, 0, 0, 0, 0, 0, 0, 0, 0, 0, 0, 0, 0, 0]
theorem built_mk0 : Try.prog.built 58 [(0, .int .u8 165), (1, .int .u8 90)] = some (bv mk0).toArray := by kernel_rfl

set_option maxRecDepth 100000 in
set_option maxHeartbeats 400000 in
theorem markKey (w : World) : Calls Try.prog 67 #[] w fun e w' => e = .returned (.agg (bv mk0).toArray) ∧ Below w.heap.size w w' := by
  go_enter Try.func67, Try.ntmps67
  go_wp2_with (first
    | ((with_reducible show wpList _ _ _ ({ dst := some 1, op := Op.build _ _, type := _, pos := _, after := _, guard := _ } :: _) _ _); go_must (refine wpList_plain rfl fun K hK => wp_built _ _ _ rfl (by simp only [List.map_toArray, List.map_cons, List.map_nil]; exact built_mk0) (hK _ _ ?_)))
    | ((with_reducible show wpList _ _ _ ({ dst := none, op := Op.store 58 _ _, type := _, pos := _, after := _, guard := _ } :: _) _ _); go_must (refine wpList_store_new rfl 58 (.tmp 0) (.tmp 1) rfl (bv mk0) size_key (bv_one _) rfl ?_ ?_ ?_; go_simp; go_simp; intro w1 hr1 hb1 hz1; have HR1 := Lib.hid hr1; have HB1 := Lib.hid hb1; clear hr1 hb1)))
  refine bodyPost_ret (results_cell_row (h := rfl) _ w1 w.heap.size 58 _ (0, 0) _ (by rfl) HR1.out.is Try.underlying58 rfl size_key) rfl ?_
  exact ⟨rfl, HB1.out⟩

set_option maxRecDepth 100000 in
set_option maxHeartbeats 400000 in
/-- TwinKeys -/
theorem twinKeys (A : Option Addr) (n c : Nat) (l : List (List Int)) (w : World) (S : Nat) (hx : KeysIn w S A n l) (hS : S ≤ w.heap.size) (hn : n ≤ 1000000000) :
    Calls Try.prog 53 #[.slice A n c] w fun e w' => ∃ g, e = .returned (.slice (some ⟨g, 0, none⟩) n (n + 3)) ∧ w.heap.size ≤ g ∧ Row w' g 58 (bv l.flatten ++ keyRow 3 mk0) ∧ Below w.heap.size w w' := by
  have HX := Lib.hid hx
  clear hx
  go_enter Try.func53, Try.ntmps53
  go_wp2_with fail
  refine (markKey w).mono ?_
  rintro e w1 ⟨rfl, hb1⟩
  have HB1 := Lib.hid hb1
  have HT := Lib.hid (twinK A n c l mk0 w1 w.heap.size ((HX.out.more hS).below HB1.out) HB1.out.size hn rfl)
  clear hb1
  generalize hC : (bv mk0).toArray = C at *
  go_wp2_with fail
  rw [← hC]
  refine (hC ▸ HT.out).mono ?_
  rintro e w2 ⟨g, rfl, hg, hr, hb⟩
  have R := Lib.hid hr
  clear hr
  go_wp2_with fail
  go_ret
  exact ⟨g, rfl, Nat.le_trans HB1.out.size hg, R.out, HB1.out.trans (hb.mono HB1.out.size)⟩

theorem keyRow_at {j n : Nat} {z : List Int} (hz : z.length = 32) (hj : j < n) {i : Nat} {u : Value} (hu : (bv z)[i]? = some u) : (keyRow n z)[j * 32 + i]? = some u := by
  unfold keyRow
  have hl : ∀ (i : Nat) y, (List.replicate n (bv z))[i]? = some y → y.length = 32 := fun i y hy => by
    have := List.eq_of_mem_replicate (List.mem_of_getElem? hy)
    rw [this, bv_length, hz]
  exact flatten_at 32 (List.replicate n (bv z)) j (bv z) hl (by rw [List.getElem?_replicate_of_lt hj]) i u hu

set_option maxRecDepth 100000 in
set_option maxHeartbeats 1000000 in
theorem leftK (g : Nat) (B : Option Addr) (n d : Nat) (l : List (List Int)) (z : List Int) (w : World) (S : Nat)
    (hr : Row w g 58 (bv l.flatten ++ keyRow 3 z)) (hy : KeysIn w S B n l) (hS : S ≤ w.heap.size) (hn : n ≤ 1000000000) (hz : z.length = 32) :
    Calls Try.prog 68 #[.slice (some ⟨g, 0, none⟩) n (n + 3), .slice B n d, .agg (bv z).toArray] w fun e w' => e = .returned (.bool true) ∧ Below w.heap.size w w' := by
  have hb0 : Below w.heap.size w (w.alloc (Obj.cells (bv z).toArray 58)) := (Below.refl _ _).alloc (Nat.le_refl _) _
  have RB := Lib.hid (Row.new w 58 (bv z))
  have R := Lib.hid (hr.alloc (Obj.cells (bv z).toArray 58))
  have HB0 := Lib.hid hb0
  have hlen := hy.len
  have h32 := hy.each
  have HFL : Hid ((bv l.flatten).length = n * 32) := Lib.hid (by rw [bv_length, flatten_len l h32, hlen])
  have HK := Lib.hid (same_keys (some ⟨g, 0, none⟩) B n (n + 3) d l _ w.heap.size w.heap.size (keys_row R.out hlen h32 hr.lt) ((hy.more hS).below hb0) (by unfold maxLen; omega))
  have NQ := fun w => same_neq Try.underlying58 z hz w
  have HZ := Lib.hid hz
  clear hr hy hb0 h32 hlen
  go_enter Try.func68, Try.ntmps68
  go_upto_region 1 with fail
  generalize (w.alloc (Obj.cells (bv z).toArray 58)) = W at *
  go_wp2_with fail
  refine HK.out.mono ?_
  rintro e w1 ⟨rfl, k, rfl⟩
  go_wp2_with fail
  go_loopw [8] (fun i wr => ∃ j q : Nat, j ≤ 3 ∧ i = .int .i64 j ∧ wr = W.drewN q) (fun i _ => 3 - (intOf i).toNat)
  case atStart => exact ⟨0, k, Nat.zero_le _, rfl, rfl⟩
  case round =>
    obtain ⟨j, q, hj, rfl, rfl⟩ := hrel
    by_cases hlt : j < 3
    · have CA := Lib.hid (show ∀ i u, (bv z)[i]? = some u → W.cell? ((⟨g, (n + j) * 32, none⟩ : Addr).add i) = some u from fun i u hu => by
        rw [addr_row, R.out.cell, List.getElem?_append_right (by rw [HFL.out]; omega), HFL.out, show (n + j) * 32 + i - n * 32 = j * 32 + i by omega]
        exact keyRow_at HZ.out hlt hu)
      have CB := Lib.hid (show ∀ i u, (bv z)[i]? = some u → W.cell? ((⟨w.heap.size, 0, none⟩ : Addr).add i) = some u from fun i u hu => by
        rw [addr_row, RB.out.cell, Nat.zero_add]; exact hu)
      have HSZ := Lib.hid (size_key' HZ.out)
      generalize bv z = X at *
      go_wp2
      refine wp_region_quiet_lit (by kernel_rfl) (by kernel_rfl) ?_
      repeat (first
        | ((with_reducible show wpQuiet _ _ _ _ ({ dst := some 36, op := Op.load _ _, type := _, pos := _, after := _, guard := _ } :: _) _); go_must (refine quiet_load_at (by kernel_rfl) 58 (.tmp 35) rfl ⟨g, (n + j) * 32, none⟩ X _ Try.underlying58 rfl HSZ.out (by rintro _ ⟨nq, rfl⟩; exact CA.out) ?_ ?_; go_simp; go_simp))
        | ((with_reducible show wpQuiet _ _ _ _ ({ dst := some 37, op := Op.load _ _, type := _, pos := _, after := _, guard := _ } :: _) _); go_must (refine quiet_load_at (by kernel_rfl) 58 (.tmp 5) rfl ⟨w.heap.size, 0, none⟩ X _ Try.underlying58 rfl HSZ.out (by rintro _ ⟨nq, rfl⟩; exact CB.out) ?_ ?_; go_simp; go_simp))
        | go_big_quiet_step (fail))
      refine wpQuiet_nil ?_
      intro nq
      go_wp2
      go_roundw
      case rel => exact ⟨j + 1, q + nq, by omega, by go_num, by simp⟩
      case measure => simp [intOf]; omega
    · go_wp2
      go_ret
      exact ⟨rfl, below_drewN HB0.out q⟩

set_option maxRecDepth 100000 in
set_option maxHeartbeats 400000 in
/-- LeftKeys -/
theorem leftKeys (g : Nat) (B : Option Addr) (n d : Nat) (l : List (List Int)) (w : World) (S : Nat)
    (hr : Row w g 58 (bv l.flatten ++ keyRow 3 mk0)) (hy : KeysIn w S B n l) (hS : S ≤ w.heap.size) (hn : n ≤ 1000000000) :
    Calls Try.prog 58 #[.slice (some ⟨g, 0, none⟩) n (n + 3), .slice B n d] w fun e w' => e = .returned (.bool true) ∧ Below w.heap.size w w' := by
  have HX := Lib.hid hy
  have R := Lib.hid hr
  clear hy hr
  go_enter Try.func58, Try.ntmps58
  go_wp2_with fail
  refine (markKey w).mono ?_
  rintro e w1 ⟨rfl, hb1⟩
  have HB1 := Lib.hid hb1
  have HT := Lib.hid (leftK g B n d l mk0 w1 w.heap.size (R.out.below HB1.out R.out.lt) ((HX.out.more hS).below HB1.out) HB1.out.size hn rfl)
  clear hb1
  generalize hC : (bv mk0).toArray = C at *
  go_wp2_with fail
  rw [← hC]
  refine (hC ▸ HT.out).mono ?_
  rintro e w2 ⟨rfl, hb⟩
  go_wp2_with fail
  go_ret
  exact ⟨rfl, HB1.out.trans (hb.mono HB1.out.size)⟩
end Go.Proofs.Ytolijdbdpnbchaa
