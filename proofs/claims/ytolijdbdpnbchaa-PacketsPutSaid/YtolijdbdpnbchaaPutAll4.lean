/-
  PacketsPut: for every input the call returns true, and each argument reads behind it as it read before. No condition.
  PacketsPut: the walk.
  A transaction that comes in, by value.
  A message that came in: how it lies in memory, out of the form's own reading.
  A message that came in: its lists of many cells, and itself.
  A message that came in, by value.
  SameBytes of lists that are the same.
  ferryhouselaw04.great.
  ferryhouselaw03.Great.
  A message that is gone through has not many bytes, and fits but for its kind.
  ferryhouseref04.Put.
  ferryhouseref03.Put.
  ferryhouseref03.list.
  ferryhouseref03.May.
  ferryhouseref01.Short.
  ferryhouselaw04.lives: the chapter's example.
  'append(v, x...)' onto a row of the call's own: what v shows stays.
  What Get and Whole leave, in one form: the zero transaction where they fail.
  packets.Whole.
  Book.Tx: a transaction's lists, page by page.
  A transaction of the call's own: its lists' pages.
  LeftTx.
  TwinTx: every list a twin.
  twin and left of signatures, and their mark.
-/
import Derived.Test.YtolijdbdpnbchaaTwinK
import Derived.Test.YtolijdbdpnbchaaSheetS
import Derived.Test.YtolijdbdpnbchaaSigs
import Derived.Test.YtolijdbdpnbchaaTxMsg
import Derived.Test.YtolijdbdpnbchaaGetTx
import Derived.Test.YtolijdbdpnbchaaLeftMsg
import Derived.Test.YtolijdbdpnbchaaBookMsg
import Derived.Test.YtolijdbdpnbchaaSameTx
import Derived.Test.YtolijdbdpnbchaaMany
import Derived.Laws.Append
import Derived.Laws.AppendOwn
import Derived.Test.YtolijdbdpnbchaaPutTx
import Derived.Test.YtolijdbdpnbchaaBookK
import Derived.Test.YtolijdbdpnbchaaAppend
import Derived.Test.YtolijdbdpnbchaaPut
import Derived.Test.YtolijdbdpnbchaaLooks
import Derived.Deep.CutBlock
import Derived.Deep.DeepCutAuto
import Derived.Test.YtolijdbdpnbchaaPutMsg
import Derived.Deep.RegionHeld2
import Derived.Deep.QuietTactic
import Derived.BigQuiet
import Derived.Test.YtolijdbdpnbchaaTx
import Derived.Test.YtolijdbdpnbchaaGuard
import Derived.Test.YtolijdbdpnbchaaSameZero
import Derived.Test.YtolijdbdpnbchaaSame
import Derived.Test.YtolijdbdpnbchaaCameIn
import Derived.Test.YtolijdbdpnbchaaIsIn
import Derived.Deep.Slices
import Derived.Deep.Strs
import Derived.SizedLaws

namespace Go.Proofs.Ytolijdbdpnbchaa
open Go.RowKit
set_option linter.unusedVariables false

/-- sigs that stand in a row -/
theorem sigs_row {w : World} {g : Nat} {l : List (List Int)} {ys : List Value} {n : Nat} (hr : Row w g 62 (bv l.flatten ++ ys)) (hn : l.length = n) (h64 : ∀ k ∈ l, k.length = 64) {B : Nat} (hB : g < B) : SigsIn w B (some ⟨g, 0, none⟩) n l :=
  ⟨hn, h64, ⟨by rw [bv_length, flat64_len l h64, hn], fun i u hu => ⟨_, rfl, hB, by
    rw [addr_row, hr.cell, Nat.zero_add, List.getElem?_append_left (List.getElem?_eq_some_iff.1 hu).1]
    exact hu⟩⟩⟩

theorem sigs_set {k : Nat} {l : List (List Int)} {x : List Int} {cs : List Value} (h64 : ∀ k ∈ l, k.length = 64) (hx : l[k]? = some x) :
    (bv (l.take k).flatten ++ cs.drop (k * 64)).take (k * 64) ++ bv x ++ (bv (l.take k).flatten ++ cs.drop (k * 64)).drop (k * 64 + (bv x).length) = bv (l.take (k + 1)).flatten ++ cs.drop ((k + 1) * 64) := by
  have hk := (List.getElem?_eq_some_iff.1 hx).1
  have hl : (bv (l.take k).flatten).length = k * 64 := by
    rw [bv_length, flat64_len _ (fun y hy => h64 y (List.mem_of_mem_take hy)), List.length_take]
    congr 1; omega
  have hxl := h64 x (List.mem_of_getElem? hx)
  rw [List.take_left' hl, bv_length, hxl, show k * 64 + 64 = (bv (l.take k).flatten).length + 64 by rw [hl], List.drop_length_add_append, List.drop_drop, flat64_take_succ hx, bv_append, show k * 64 + 64 = (k + 1) * 64 by omega]

set_option maxRecDepth 100000 in
set_option maxHeartbeats 1000000 in
theorem twinS (A : Option Addr) (n c : Nat) (l : List (List Int)) (z : List Int) (w : World) (S : Nat)
    (hx : SigsIn w S A n l) (hS : S ≤ w.heap.size) (hn : n ≤ 1000000000) (hz : z.length = 64) :
    Calls Try.prog 28 #[.slice A n c, .agg (bv z).toArray] w fun e w' => ∃ g, e = .returned (.slice (some ⟨g, 0, none⟩) n (n + 3)) ∧ w.heap.size ≤ g ∧ Row w' g 62 (bv l.flatten ++ keyRow 3 z) ∧ Below w.heap.size w w' := by
  have HX := Lib.hid hx
  have HZ := Lib.hid hz
  have RB := Lib.hid (Row.new w 62 (bv z))
  have hb0 : Below w.heap.size w (w.alloc (Obj.cells (bv z).toArray 62)) := (Below.refl _ _).alloc (Nat.le_refl _) _
  have HB0 := Lib.hid hb0
  have z0 : (w.alloc (Obj.cells (bv z).toArray 62)).heap.size = w.heap.size + 1 := by simp
  clear hx hb0
  go_enter Try.func28, Try.ntmps28
  go_upto_region 1 with fail
  generalize (w.alloc (Obj.cells (bv z).toArray 62)) = W at *
  have ZW := Lib.hid z0
  clear z0
  go_wp2_with (first
    | (at_make; (obtain ⟨i0, hi, hz0, hz1, hz2⟩ := info_parts info_sig); go_must (refine wpList_make_full _ rfl (.tmp 10) (.tmp 10) 22 rfl W.heap.size 62 i0 _ 64 Try.underlying22 hi hz0 hz1 .i64 .i64 _ _ (n + 3) rfl rfl (by simp) (by simp) (by rw [hz2]; omega) (by unfold maxLen; omega) (Nat.le_refl _) ?_; intro w1 hown hgrow; have hrow := Row.of_ownN hown; have hb1 := (Below.refl W.heap.size W).grown hgrow (Nat.le_refl _) (fun k hk => by cases hk))))
  have hlen := made_len (.agg (zeros 64).toArray) ((n + 3) * 64)
  generalize (madeCells (Value.agg (zeros 64).toArray).cells ((n + 3) * 64)).toList = cs at *
  have HL := Lib.hid hlen
  have R := Lib.hid hrow
  have RB1 := Lib.hid (RB.out.below hb1 (by have := ZW.out; omega))
  have HB1 := Lib.hid (HB0.out.trans (hb1.mono (by have := ZW.out; omega)))
  have HZ1 : Hid (W.heap.size < w1.heap.size) := Lib.hid hrow.lt
  clear hlen hrow hown hgrow hb1 RB HB0
  have lenl := HX.out.len
  go_loopw [6] (fun i wr => ∃ k : Nat, k ≤ n ∧ i = .int .i64 k ∧ Row wr W.heap.size 62 (bv (l.take k).flatten ++ cs.drop (k * 64)) ∧ Below W.heap.size w1 wr) (fun i _ => n - (intOf i).toNat)
  case atStart => exact ⟨0, Nat.zero_le _, rfl, by simpa [bv, cv] using R.out, Below.refl _ _⟩
  case round =>
  clear R
  obtain ⟨k, hk, rfl, hr, hb⟩ := hrel
  have RR := Lib.hid hr
  have HB := Lib.hid hb
  clear hr hb
  by_cases hlt : k < n
  · obtain ⟨a, x, rfl, hab, hxl, hat⟩ := HX.out.get hlt
    have HX1 := Lib.hid hxl
    have HB2 := Lib.hid (HB1.out.trans (HB.out.mono (by have := ZW.out; omega)))
    have HAT := Lib.hid (hat.keep hab fun p hp => HB2.out.cell (by omega))
    have HSZ := Lib.hid (size_sig' hat.len)
    have HCL : Hid (k * 64 + (bv x).length ≤ (bv (l.take k).flatten ++ cs.drop (k * 64)).length) := by
      have h1 := HL.out
      have h2 : (bv (l.take k).flatten).length = k * 64 := by
        rw [bv_length, flat64_len _ (fun y hy => HX.out.each y (List.mem_of_mem_take hy)), List.length_take]
        congr 1; omega
      refine Lib.hid ?_
      rw [List.length_append, h2, List.length_drop, bv_length, hat.len]
      omega
    clear hxl hat
    go_wp2_with (first
      | ((with_reducible show wpList _ _ _ ({ dst := some 23, op := Op.load _ _, type := _, pos := _, after := _, guard := _ } :: _) _ _); go_must (refine wpList_load_at rfl 62 (.tmp 22) rfl (a.add (k * 64)) (bv x) _ Try.underlying62 rfl HSZ.out HAT.out.cells ?_ ?_; go_simp))
      | ((with_reducible show wpList _ _ _ ({ dst := none, op := Op.store 62 _ _, type := _, pos := _, after := _, guard := _ } :: _) _ _); go_must (refine wpList_store_part rfl 62 (.tmp 24) (.tmp 23) rfl W.heap.size 62 (k * 64) _ (bv x) RR.out HSZ.out HCL.out (bv_one x) ?_ ?_ ?_; go_simp; go_simp; intro w2 hr2 ht2; have HR2 := Lib.hid hr2; have HT2 := Lib.hid ht2; clear hr2 ht2)))
    go_roundw
    case rel =>
      refine ⟨k + 1, by omega, by go_num, ?_, HB.out.trans (HT2.out.below (Nat.le_refl _))⟩
      have := HR2.out
      rwa [sigs_set HX.out.each HX1.out] at this
    case measure => simp [intOf]; omega
  · obtain rfl : k = n := by omega
    have R2 : Hid (Row wr W.heap.size 62 (bv l.flatten ++ cs.drop (k * 64))) := by
      have := RR.out
      rw [List.take_of_length_le (by omega)] at this
      exact Lib.hid this
    have HFL : Hid ((bv l.flatten).length = k * 64) := Lib.hid (by rw [bv_length, flat64_len l HX.out.each, HX.out.len])
    clear RR
    go_wp2_with fail
    go_loopw [7] (fun i wr => ∃ j : Nat, j ≤ 3 ∧ i = .int .i64 j ∧ Row wr W.heap.size 62 (bv l.flatten ++ (keyRow j z ++ (cs.drop (k * 64)).drop (j * 64))) ∧ Below W.heap.size w1 wr) (fun i _ => 3 - (intOf i).toNat)
    case atStart => exact ⟨0, Nat.zero_le _, rfl, by simpa [keyRow] using R2.out, HB.out⟩
    case round =>
      clear R2 HB
      obtain ⟨j, hj, rfl, hr, hb⟩ := hrel
      have RR := Lib.hid hr
      have HB := Lib.hid hb
      clear hr hb
      by_cases hlt : j < 3
      · have HBX := Lib.hid (RB1.out.below HB.out (by have := ZW.out; omega))
        have HCL : Hid ((k + j) * 64 + (bv z).length ≤ (bv l.flatten ++ (keyRow j z ++ (cs.drop (k * 64)).drop (j * 64))).length) := by
          have h1 := HL.out
          have h2 := HFL.out
          have h3 := sigRow_len j HZ.out
          refine Lib.hid ?_
          rw [List.length_append, List.length_append, h2, h3, List.length_drop, List.length_drop, bv_length, HZ.out]
          omega
        go_wp2_with (first
          | ((with_reducible show wpList _ _ _ ({ dst := some 34, op := Op.load _ _, type := _, pos := _, after := _, guard := _ } :: _) _ _); go_must (refine wpList_load_whole rfl 62 (.tmp 3) rfl w.heap.size 62 (bv z) _ Try.underlying62 rfl (size_sig' HZ.out) HBX.out ?_ ?_; go_simp))
          | ((with_reducible show wpList _ _ _ ({ dst := none, op := Op.store 62 _ _, type := _, pos := _, after := _, guard := _ } :: _) _ _); go_must (refine wpList_store_part rfl 62 (.tmp 35) (.tmp 34) rfl W.heap.size 62 ((k + j) * 64) _ (bv z) RR.out (size_sig' HZ.out) HCL.out (bv_one z) ?_ ?_ ?_; go_simp; go_simp; intro w2 hr2 ht2; have HR2 := Lib.hid hr2; have HT2 := Lib.hid ht2; clear hr2 ht2)))
        go_roundw
        case rel =>
          refine ⟨j + 1, by omega, by go_num, ?_, HB.out.trans (HT2.out.below (Nat.le_refl _))⟩
          have := HR2.out
          have e := sigRow_set (k := j) HZ.out (bv l.flatten) (cs.drop (k * 64)) (by have := HL.out; rw [List.length_drop]; omega)
          rw [HFL.out, ← Nat.add_mul] at e
          rwa [e] at this
        case measure => simp [intOf]; omega
      · obtain rfl : j = 3 := by omega
        have R3 : Hid (Row wr W.heap.size 62 (bv l.flatten ++ keyRow 3 z)) := by
          have := RR.out
          rw [List.drop_of_length_le (by have := HL.out; rw [List.length_drop]; omega), List.append_nil] at this
          exact Lib.hid this
        clear RR
        go_wp2_with fail
        go_ret
        exact ⟨W.heap.size, rfl, by have := ZW.out; omega, R3.out, HB1.out.trans (HB.out.mono (by have := ZW.out; omega))⟩

/-- the mark behind signatures -/
def mk64 : List Int := 165 :: 90 :: List.replicate 62 0
theorem built_mk64 : Try.prog.built 62 [(0, .int .u8 165), (1, .int .u8 90)] = some (bv mk64).toArray := by kernel_rfl
theorem mk64_len : mk64.length = 64 := by decide

set_option maxRecDepth 100000 in
set_option maxHeartbeats 400000 in
theorem markSig (w : World) : Calls Try.prog 29 #[] w fun e w' => e = .returned (.agg (bv mk64).toArray) ∧ Below w.heap.size w w' := by
  go_enter Try.func29, Try.ntmps29
  go_wp2_with (first
    | ((with_reducible show wpList _ _ _ ({ dst := some 1, op := Op.build _ _, type := _, pos := _, after := _, guard := _ } :: _) _ _); go_must (refine wpList_plain rfl fun K hK => wp_built _ _ _ rfl (by simp only [List.map_toArray, List.map_cons, List.map_nil]; exact built_mk64) (hK _ _ ?_)))
    | ((with_reducible show wpList _ _ _ ({ dst := none, op := Op.store 62 _ _, type := _, pos := _, after := _, guard := _ } :: _) _ _); go_must (refine wpList_store_new rfl 62 (.tmp 0) (.tmp 1) rfl (bv mk64) size_sig (bv_one _) rfl ?_ ?_ ?_; go_simp; go_simp; intro w1 hr1 hb1 hz1; have HR1 := Lib.hid hr1; have HB1 := Lib.hid hb1; clear hr1 hb1)))
  refine bodyPost_ret (results_cell_row (h := rfl) _ w1 w.heap.size 62 _ (0, 0) _ (by rfl) HR1.out.is Try.underlying62 rfl size_sig) rfl ?_
  exact ⟨rfl, HB1.out⟩

theorem sigRow_at {j n : Nat} {z : List Int} (hz : z.length = 64) (hj : j < n) {i : Nat} {u : Value} (hu : (bv z)[i]? = some u) : (keyRow n z)[j * 64 + i]? = some u := by
  unfold keyRow
  have hl : ∀ (i : Nat) y, (List.replicate n (bv z))[i]? = some y → y.length = 64 := fun i y hy => by
    have := List.eq_of_mem_replicate (List.mem_of_getElem? hy)
    rw [this, bv_length, hz]
  exact flatten_at 64 (List.replicate n (bv z)) j (bv z) hl (by rw [List.getElem?_replicate_of_lt hj]) i u hu

set_option maxRecDepth 100000 in
set_option maxHeartbeats 1000000 in
theorem leftS (g : Nat) (B : Option Addr) (n d : Nat) (l : List (List Int)) (z : List Int) (w : World) (S : Nat)
    (hr : Row w g 62 (bv l.flatten ++ keyRow 3 z)) (hy : SigsIn w S B n l) (hS : S ≤ w.heap.size) (hn : n ≤ 1000000000) (hz : z.length = 64) :
    Calls Try.prog 35 #[.slice (some ⟨g, 0, none⟩) n (n + 3), .slice B n d, .agg (bv z).toArray] w fun e w' => e = .returned (.bool true) ∧ Below w.heap.size w w' := by
  have hb0 : Below w.heap.size w (w.alloc (Obj.cells (bv z).toArray 62)) := (Below.refl _ _).alloc (Nat.le_refl _) _
  have RB := Lib.hid (Row.new w 62 (bv z))
  have R := Lib.hid (hr.alloc (Obj.cells (bv z).toArray 62))
  have HB0 := Lib.hid hb0
  have hlen := hy.len
  have h64 := hy.each
  have HFL : Hid ((bv l.flatten).length = n * 64) := Lib.hid (by rw [bv_length, flat64_len l h64, hlen])
  have HK := Lib.hid (same_sigs (some ⟨g, 0, none⟩) B n (n + 3) d l _ w.heap.size w.heap.size (sigs_row R.out hlen h64 hr.lt) ((hy.more hS).below hb0) (by unfold maxLen; omega))
  have NQ := fun w => same_neq64 Try.underlying62 z hz w
  have HZ := Lib.hid hz
  clear hr hy hb0 h64 hlen
  go_enter Try.func35, Try.ntmps35
  go_upto_region 1 with fail
  generalize (w.alloc (Obj.cells (bv z).toArray 62)) = W at *
  go_wp2_with fail
  refine HK.out.mono ?_
  rintro e w1 ⟨rfl, k, rfl⟩
  go_wp2_with fail
  go_loopw [8] (fun i wr => ∃ j q : Nat, j ≤ 3 ∧ i = .int .i64 j ∧ wr = W.drewN q) (fun i _ => 3 - (intOf i).toNat)
  case atStart => exact ⟨0, k, Nat.zero_le _, rfl, rfl⟩
  case round =>
    obtain ⟨j, q, hj, rfl, rfl⟩ := hrel
    by_cases hlt : j < 3
    · have CA := Lib.hid (show ∀ i u, (bv z)[i]? = some u → W.cell? ((⟨g, (n + j) * 64, none⟩ : Addr).add i) = some u from fun i u hu => by
        rw [addr_row, R.out.cell, List.getElem?_append_right (by rw [HFL.out]; omega), HFL.out, show (n + j) * 64 + i - n * 64 = j * 64 + i by omega]
        exact sigRow_at HZ.out hlt hu)
      have CB := Lib.hid (show ∀ i u, (bv z)[i]? = some u → W.cell? ((⟨w.heap.size, 0, none⟩ : Addr).add i) = some u from fun i u hu => by
        rw [addr_row, RB.out.cell, Nat.zero_add]; exact hu)
      have HSZ := Lib.hid (size_sig' HZ.out)
      generalize bv z = X at *
      go_wp2
      refine wp_region_quiet_lit (by kernel_rfl) (by kernel_rfl) ?_
      repeat (first
        | ((with_reducible show wpQuiet _ _ _ _ ({ dst := some 36, op := Op.load _ _, type := _, pos := _, after := _, guard := _ } :: _) _); go_must (refine quiet_load_at (by kernel_rfl) 62 (.tmp 35) rfl ⟨g, (n + j) * 64, none⟩ X _ Try.underlying62 rfl HSZ.out (by rintro _ ⟨nq, rfl⟩; exact CA.out) ?_ ?_; go_simp; go_simp))
        | ((with_reducible show wpQuiet _ _ _ _ ({ dst := some 37, op := Op.load _ _, type := _, pos := _, after := _, guard := _ } :: _) _); go_must (refine quiet_load_at (by kernel_rfl) 62 (.tmp 5) rfl ⟨w.heap.size, 0, none⟩ X _ Try.underlying62 rfl HSZ.out (by rintro _ ⟨nq, rfl⟩; exact CB.out) ?_ ?_; go_simp; go_simp))
        | go_big_quiet_step (fail))
      refine wpQuiet_nil ?_
      intro nq
      go_wp2
      go_roundw
      case rel => exact ⟨j + 1, q + nq, by omega, by go_num, by simp⟩
      case measure => simp [intOf]; omega
    · go_wp2
      go_ret
      exact ⟨rfl, below_drewN HB0.out q⟩

end Go.Proofs.Ytolijdbdpnbchaa

namespace Go.Proofs.Ytolijdbdpnbchaa
open Go.RowKit
set_option linter.unusedVariables false

theorem built_tx3 (m : List Value) (h : m.length = 39) (A : Option Addr) (n c : Nat) : Try.prog.built 33 [(0, .slice A n c), (1, .agg m.toArray)] = some (.slice A n c :: m).toArray := by
  obtain ⟨f, rfl⟩ : ∃ f : Fin 39 → Value, m = List.ofFn f := ⟨fun i => m.getD i undef, by
    refine List.ext_getElem (by simpa using h) fun i h1 h2 => ?_
    rw [List.getElem_ofFn, List.getD_eq_getElem?_getD, List.getElem?_eq_getElem h1]
    rfl⟩
  kernel_rfl
theorem whole_part {xs cs : List Value} (hx : xs.length = 40) (hc : cs.length = 40) : xs.take 0 ++ cs ++ xs.drop (0 + cs.length) = cs := by
  rw [List.drop_of_length_le (by omega)]
  simp

/-- a transaction's twin -/
structure TwTx (w : World) (s : TRaw) (x : LTx) : Prop where
  tx : TxIn w w.heap.size s x
  sig : ∃ g, s.SA = some ⟨g, 0, none⟩ ∧ s.sc = s.sn + 3 ∧ Row w g 62 (bv x.sigs.flatten ++ keyRow 3 mk64)
  m : TwIn w s.q x.m
theorem TwTx.below {w w' : World} {s : TRaw} {x : LTx} (h : TwTx w s x) (hb : Below w.heap.size w w') : TwTx w' s x := by
  obtain ⟨g, h1, h2, h3⟩ := h.sig
  exact ⟨(h.tx.below hb).more hb.size, ⟨g, h1, h2, h3.below hb h3.lt⟩, h.m.below hb⟩

/-- what TwinMessage leaves, also when blocks below have changed since -/
theorem TwinDone.late {w w' : World} {q : Raw} {m : LMsg} {e : Ending} (h : TwinDone w q m e w') (h32 : m.recent.length = 32) (hs : m.keys.length ≤ 65535 ∧ m.ins.length ≤ 65535 ∧ m.looks.length ≤ 65535) :
    ∃ q' gk, e = .returned (.agg (q'.cells m).toArray) ∧ w.heap.size ≤ gk ∧ gk < w'.heap.size ∧ Below w.heap.size w w' ∧ ∀ w'' : World, w'.heap.size ≤ w''.heap.size → (∀ k, gk ≤ k → k < w'.heap.size → w''.heap[k]? = w'.heap[k]?) → MsgV w'' gk w''.heap.size q' m ∧ TwIn w'' q' m := by
  obtain ⟨gk, q', a1, b1, b2, rfl, e1, e2, e3, h1, h2, hr, h3, h4, h5, hk, hi, hl, hb⟩ := h
  refine ⟨q', gk, rfl, h1, hr.lt, hb, fun w'' hz hq => ?_⟩
  have hk' := hk.stay hz fun k a b => hq k a (by omega)
  have hi' := hi.stay hz fun k a b => hq k (by omega) (by omega)
  have hl' := hl.stay hz fun k a b => hq k (by omega) (by omega)
  have hv : MsgV w'' gk w''.heap.size q' m := ⟨h32, hs, gk, a1, a1, b1, b1, b2, by omega, hk', hi'.imp fun _ _ _ _ _ h => h.inV, hl'.imp fun _ _ _ _ _ h => h.lookV⟩
  exact ⟨hv, hv.in_, ⟨gk, e1, by rw [e3, e2], ⟨(hq gk (Nat.le_refl _) hr.lt).trans hr.is⟩⟩, hi'.insT (by omega), hl'.looksT (by omega)⟩

/-- what TwinTx leaves -/
def TwinTxDone (w : World) (x : LTx) (e : Ending) (w' : World) : Prop :=
  ∃ s lo, e = .returned (.agg (TRaw.cells s x).toArray) ∧ w.heap.size ≤ lo ∧ TxV w' lo w'.heap.size s x ∧ TwTx w' s x ∧ Below w.heap.size w w'

/-- signatures in a row of the call's own -/
theorem sigs_own {w : World} {g n lo hi : Nat} {l : List (List Int)} (hr : Row w g 62 (bv l.flatten ++ keyRow 3 mk64)) (hn : l.length = n) (h64 : ∀ k ∈ l, k.length = 64) (hlo : lo ≤ g) (hhi : g < hi) (hm : n + 3 ≤ maxLen) :
    SigsV w lo hi (.slice (some ⟨g, 0, none⟩) n (n + 3)) l := by
  have hf : (bv l.flatten).length = n * 64 := by rw [bv_length, flat64_len l h64, hn]
  have hk := sigRow_len 3 mk64_len
  refine ⟨?_, fun g' hg' => ?_, h64⟩
  · rw [hn]
    refine ⟨hf, .inr ⟨g, n + 3, _, rfl, hlo, hr.is, by omega, hm, ?_, ?_⟩⟩
    · rw [List.size_toArray, List.length_append, hf, hk, Nat.add_mul]
    · simp only []
      rw [List.take_left' hf]
  · cases hg'
    exact hhi

set_option maxRecDepth 100000 in
set_option maxHeartbeats 2000000 in
theorem twinTx (s : TRaw) (x : LTx) (B : Nat) (w : World) (hm : TxIn w B s x) (hB : B ≤ w.heap.size) (hsg : x.sigs.length ≤ 65535)
    (hk : x.m.keys.length ≤ 65535 ∧ x.m.ins.length ≤ 65535 ∧ x.m.looks.length ≤ 65535) (hix : ∀ i ∈ x.m.ins, i.acc.length ≤ 65535 ∧ i.dat.length ≤ 65535) (hlx : ∀ l ∈ x.m.looks, l.wr.length ≤ 65535 ∧ l.rd.length ≤ 65535) :
    Calls Try.prog 10 #[.agg (s.cells x).toArray] w (TwinTxDone w x) := by
  obtain ⟨SA, sn, sc, q⟩ := s
  have hsl := hm.sigs.len
  dsimp only at hsl
  have hrow := Row.new w 33 (TRaw.cells ⟨SA, sn, sc, q⟩ x)
  have hb0 := (Below.refl w.heap.size w).alloc (Nat.le_refl _) (.cells (TRaw.cells ⟨SA, sn, sc, q⟩ x).toArray 33)
  have H32 := Lib.hid hm.m.recent
  have HCM := Lib.hid (tcells_m (s := ⟨SA, sn, sc, q⟩) (x := x))
  have hc0 : (TRaw.cells ⟨SA, sn, sc, q⟩ x)[0]? = some (.slice SA sn sc) := rfl
  dsimp only at HCM
  generalize TRaw.cells ⟨SA, sn, sc, q⟩ x = cs at *
  obtain ⟨W0, hW0⟩ : ∃ W0, W0 = w.alloc (.cells cs.toArray 33) := ⟨_, rfl⟩
  have hz0 : W0.heap.size = w.heap.size + 1 := by rw [hW0]; simp
  rw [← hW0] at hrow hb0
  obtain ⟨W, hW⟩ : ∃ W, W = W0.alloc (.cells tzero.toArray 33) := ⟨_, rfl⟩
  have rz : Row W (w.heap.size + 1) 33 tzero := by rw [hW, ← hz0]; exact Row.new _ _ _
  have r0 : Row W w.heap.size 33 cs := by rw [hW]; exact hrow.alloc _
  have b0 : Below w.heap.size w W := by rw [hW]; exact hb0.alloc (by omega) _
  have hz : W.heap.size = w.heap.size + 2 := by rw [hW]; simp [hz0]
  have hm0 := hm.below (b0.mono hB)
  have HSM := Lib.hid (show (Try.prog.info? 31).map (·.size) = some (q.cells x.m).length by rw [size_msg, cells_len hm.m.recent])
  obtain ⟨C, hC⟩ : ∃ C, C = (bv mk64).toArray := ⟨_, rfl⟩
  have HMK : Hid (∀ w : World, Calls Try.prog 29 #[] w fun e w' => e = .returned (.agg C) ∧ Below w.heap.size w w') := Lib.hid (by rw [hC]; exact markSig)
  have HTS : Hid (∀ w' : World, SigsIn w' B SA sn x.sigs → B ≤ w'.heap.size → Calls Try.prog 28 #[.slice SA sn sc, .agg C] w' fun e w'' => ∃ g, e = .returned (.slice (some ⟨g, 0, none⟩) sn (sn + 3)) ∧ w'.heap.size ≤ g ∧ Row w'' g 62 (bv x.sigs.flatten ++ keyRow 3 mk64) ∧ Below w'.heap.size w' w'') := Lib.hid (by rw [hC]; exact fun w' h h' => twinS SA sn sc x.sigs mk64 w' B h h' (by omega) mk64_len)
  have HTM : Hid (∀ w' : World, MsgIn w' B q x.m → B ≤ w'.heap.size → Calls Try.prog 30 #[.agg (q.cells x.m).toArray] w' (TwinDone w' q x.m)) := Lib.hid fun w' h h' => twinMessage q x.m B w' h h' hk.1 hk.2.1 hk.2.2 hix hlx
  have R0 := Lib.hid r0
  have RZ := Lib.hid rz
  have B0 := Lib.hid b0
  have HZ := Lib.hid hz
  have HM0 := Lib.hid hm0
  have HK := Lib.hid hk
  have HSL := Lib.hid (And.intro hsl hsg)
  have HC0 := Lib.hid hc0
  clear r0 rz b0 hz hm0 hm hrow hb0 hC hk hix hlx hsl hsg hc0
  go_enter Try.func10, Try.ntmps10
  go_upto_region 1 with fail
  rw [← hW0]
  have hX : ∀ c, c = tzero.toArray → W0.alloc (.cells c 33) = W := by rintro _ rfl; exact hW.symm
  rw [hX]
  rotate_left
  · kernel_rfl
  clear hX hW hW0 hz0
  obtain ⟨V, hV⟩ : ∃ V, V = W.drew := ⟨_, rfl⟩
  have RV : Hid (Row V w.heap.size 33 cs) := Lib.hid (by rw [hV]; exact R0.out.drew)
  have ZV : Hid (Row V (w.heap.size + 1) 33 tzero) := Lib.hid (by rw [hV]; exact RZ.out.drew)
  have BV : Hid (Below w.heap.size w V) := Lib.hid (by rw [hV]; exact B0.out.drew)
  have MV : Hid (TxIn V B ⟨SA, sn, sc, q⟩ x) := Lib.hid (by rw [hV]; exact HM0.out.keep fun p hp => rfl)
  have SV : Hid (V.heap.size = w.heap.size + 2) := Lib.hid (by rw [hV]; exact HZ.out)
  have HSS : Hid (∀ V' : World, Row V' w.heap.size 33 cs → V'.cell? ⟨w.heap.size, 0, none⟩ = some (.slice SA sn sc) ∧ V'.rangeAt w.heap.size 1 (q.cells x.m)) := Lib.hid fun V' h => ⟨(h.cell 0).trans HC0.out, fun j u hu => by rw [h.cell, HCM.out]; exact hu⟩
  have HS := Lib.hid (HSS.out V RV.out)
  refine wp_region_held_drew (S := fun V => V.cell? ⟨w.heap.size, 0, none⟩ = some (.slice SA sn sc) ∧ V.rangeAt w.heap.size 1 (q.cells x.m)) (by kernel_rfl) (by rw [← hV]; exact HS.out) (fun _ => ?_)
  rw [← hV]
  clear hV HM0 R0 RZ B0 HZ
  refine takeL (i := 0) (v := ?_) rfl (by kernel_rfl) (by kernel_rfl) (by kernel_rfl) (fun _ _ _ h => h) (Or.inl ⟨by rfl, ?_⟩) HS.out ?_
  rotate_left
  · intro w hw
    try dsimp only at hw
    go_simp
    try with_reducible rfl
  try simp only [Act.put, List.setIfInBounds_toArray, List.set_cons_zero, List.set_cons_succ]
  refine takeL (i := 1) (v := ?_) rfl (by kernel_rfl) (by kernel_rfl) (by kernel_rfl) (fun _ _ _ h => h) (Or.inl ⟨by rfl, ?_⟩) HS.out ?_
  rotate_left
  · intro w hw
    try dsimp only at hw
    obtain ⟨q0, q1⟩ := hw
    go_simp
    try with_reducible rfl
  try simp only [Act.put, List.setIfInBounds_toArray, List.set_cons_zero, List.set_cons_succ]
  refine takeL (i := 4) (v := ?_) rfl (by kernel_rfl) (by kernel_rfl) (by kernel_rfl) (fun _ _ _ h => h) (Or.inl ⟨by rfl, ?_⟩) HS.out ?_
  rotate_left
  · intro w hw
    try dsimp only at hw
    go_simp
    try with_reducible rfl
  try simp only [Act.put, List.setIfInBounds_toArray, List.set_cons_zero, List.set_cons_succ]
  refine takeL (i := 5) (v := .agg (q.cells x.m).toArray) rfl (by kernel_rfl) (by kernel_rfl) (by kernel_rfl) (fun _ _ _ h => h) (yieldsIf_load_mid (by kernel_rfl) 31 (.tmp 7) rfl w.heap.size 1 (by go_simp) (q.cells x.m) _ (fun w hw => hw.2) Try.underlying31 rfl HSM.out) HS.out ?_
  try simp only [Act.put, List.setIfInBounds_toArray, List.set_cons_zero, List.set_cons_succ]
  refine readyL (i := 2) rfl (by kernel_rfl) (by kernel_rfl) fun K hK => ?_
  go_simp
  refine (HMK.out V).mono ?_
  rintro e w1 ⟨rfl, hb1⟩
  simp only []
  have R1 := Lib.hid (RV.out.below hb1 RV.out.lt)
  have Z1 := Lib.hid (ZV.out.below hb1 ZV.out.lt)
  have B1 := Lib.hid (BV.out.trans (hb1.mono BV.out.size))
  have M1 := Lib.hid (MV.out.below (hb1.mono (Nat.le_trans hB BV.out.size)))
  have S1 := Lib.hid (show w.heap.size + 2 ≤ w1.heap.size by have := SV.out; have := hb1.size; omega)
  have HS1 := Lib.hid (HSS.out w1 R1.out)
  clear hb1 RV ZV BV MV SV
  refine hK.out _ _ HS1.out ?_
  clear hK K
  try simp only [Act.put, List.setIfInBounds_toArray, List.set_cons_zero, List.set_cons_succ]
  refine readyL (i := 3) rfl (by kernel_rfl) (by kernel_rfl) fun K hK => ?_
  go_simp
  refine (HTS.out w1 M1.out.sigs (Nat.le_trans hB B1.out.size)).mono ?_
  rintro e w2 ⟨gs, rfl, hgs, hrs, hb2⟩
  simp only []
  have R2 := Lib.hid (R1.out.below hb2 R1.out.lt)
  have Z2 := Lib.hid (Z1.out.below hb2 Z1.out.lt)
  have B2 := Lib.hid (B1.out.trans (hb2.mono B1.out.size))
  have M2 := Lib.hid (M1.out.below (hb2.mono (Nat.le_trans hB B1.out.size)))
  have G2 := Lib.hid hrs
  have S2 := Lib.hid (show w.heap.size + 2 ≤ gs ∧ gs < w2.heap.size by have := S1.out; have := hrs.lt; omega)
  have HS2 := Lib.hid (HSS.out w2 R2.out)
  clear hb2 hrs hgs R1 Z1 B1 M1 S1
  refine hK.out _ _ HS2.out ?_
  clear hK K
  try simp only [Act.put, List.setIfInBounds_toArray, List.set_cons_zero, List.set_cons_succ]
  refine readyL (i := 6) rfl (by kernel_rfl) (by kernel_rfl) fun K hK => ?_
  go_simp
  refine (HTM.out w2 M2.out.m (Nat.le_trans hB B2.out.size)).mono ?_
  rintro e w3 hd
  obtain ⟨q', gk, rfl, hgk, hgk2, hb3, hlate⟩ := hd.late H32.out HK.out
  simp only []
  have R3 := Lib.hid (R2.out.below hb3 R2.out.lt)
  have Z3 := Lib.hid (Z2.out.below hb3 Z2.out.lt)
  have B3 := Lib.hid (B2.out.trans (hb3.mono B2.out.size))
  have M3 := Lib.hid (M2.out.below (hb3.mono (Nat.le_trans hB B2.out.size)))
  have G3 := Lib.hid (G2.out.below hb3 G2.out.lt)
  have T3 := Lib.hid hlate
  have S3 := Lib.hid (show w.heap.size + 2 ≤ gs ∧ gs < gk ∧ gs < w3.heap.size by have := S2.out; have := hb3.size; omega)
  have HS3 := Lib.hid (HSS.out w3 R3.out)
  have HL39 := Lib.hid (cells_len (q := q') (m := x.m) H32.out)
  clear hd hgk hgk2 hlate hb3 R2 Z2 B2 M2 G2 S2
  refine hK.out _ _ HS3.out ?_
  clear hK K
  try simp only [Act.put, List.setIfInBounds_toArray, List.set_cons_zero, List.set_cons_succ]
  refine takeL (i := 7) (v := .agg (TRaw.cells ⟨some ⟨gs, 0, none⟩, sn, sn + 3, q'⟩ x).toArray) rfl (by kernel_rfl) (by kernel_rfl) (by kernel_rfl) (fun _ _ _ h => h) (Or.inl ⟨by rfl, fun w _ => ?_⟩) HS3.out ?_
  · exact exec_built w _ _ _ rfl (by simp only [List.map_toArray, List.map_cons, List.map_nil]; exact built_tx3 _ HL39.out _ _ _)
  try simp only [Act.put, List.setIfInBounds_toArray, List.set_cons_zero, List.set_cons_succ]
  have hl40 : (TRaw.cells ⟨some ⟨gs, 0, none⟩, sn, sn + 3, q'⟩ x).length = 40 := tcells_len (s := ⟨some ⟨gs, 0, none⟩, sn, sn + 3, q'⟩) (x := x) H32.out
  have hone := tcells_one (s := ⟨some ⟨gs, 0, none⟩, sn, sn + 3, q'⟩) (x := x)
  obtain ⟨dc, hdc⟩ : ∃ dc, dc = TRaw.cells ⟨some ⟨gs, 0, none⟩, sn, sn + 3, q'⟩ x := ⟨_, rfl⟩
  rw [← hdc] at hl40 hone ⊢
  have HDC := Lib.hid hdc
  have HDL := Lib.hid hl40
  have HDO := Lib.hid hone
  clear hdc hl40 hone
  refine readyL (i := 8) rfl (by kernel_rfl) (by kernel_rfl) fun K hK => ?_
  refine wp_store_part 33 (.tmp 2) (.tmp 10) rfl (w.heap.size + 1) 33 0 _ dc Z3.out (by rw [size_tx, HDL.out]) (by rw [HDL.out]; exact Nat.le_refl _) HDO.out ?_ ?_ ?_
  · go_simp
  · go_simp
  intro V2 hr2 ht2
  rw [whole_part rfl HDL.out] at hr2
  have HS4 := Lib.hid (HSS.out V2 (ht2.row R3.out (show w.heap.size ≠ w.heap.size + 1 by omega)))
  have HR4 := Lib.hid hr2
  have HT4 := Lib.hid ht2
  clear hr2 ht2
  refine hK.out _ _ HS4.out ?_
  clear hK K
  try simp only [Act.put, List.setIfInBounds_toArray, List.set_cons_zero, List.set_cons_succ]
  refine wpAnyH_done (by kernel_rfl) ?_ _
  go_wp2_with fail
  refine bodyPost_ret (results_cell_row (h := rfl) _ V2 (w.heap.size + 1) 33 _ (0, 0) _ (by rfl) HR4.out.is Try.underlying33 rfl (by rw [List.size_toArray, HDL.out]; exact size_tx)) rfl ?_
  have h3 := S3.out
  obtain ⟨hv2, ht2⟩ := T3.out V2 (Nat.le_of_eq HT4.out.size.symm) fun k a b => HT4.out.block k (by omega)
  have hg2 := HT4.out.row G3.out (show gs ≠ w.heap.size + 1 by omega)
  have hsv := sigs_own (lo := gs) (hi := gk) hg2 HSL.out.1 M3.out.sigs.each (Nat.le_refl _) h3.2.1 (by have := HSL.out; unfold maxLen; omega)
  have htv : TxV V2 gs V2.heap.size ⟨some ⟨gs, 0, none⟩, sn, sn + 3, q'⟩ x := ⟨HSL.out.2, gk, by omega, by obtain ⟨a1, b1, a2, b2, a3, b3, h, _⟩ := hv2.is; omega, hsv, hv2⟩
  refine ⟨⟨some ⟨gs, 0, none⟩, sn, sn + 3, q'⟩, gs, by rw [HDC.out], by omega, htv, ⟨htv.in_, ⟨gs, rfl, rfl, hg2⟩, ht2⟩, B3.out.trans (HT4.out.below (by omega))⟩
end Go.Proofs.Ytolijdbdpnbchaa

namespace Go.Proofs.Ytolijdbdpnbchaa
open Go.RowKit
set_option linter.unusedVariables false

set_option maxRecDepth 100000 in
set_option maxHeartbeats 2000000 in
theorem leftTx (s s' : TRaw) (x : LTx) (B : Nat) (w : World) (hT : TwTx w s' x) (h : TxIn w B s x) (hB : B ≤ w.heap.size) (hsg : x.sigs.length ≤ 65535)
    (hk : x.m.keys.length ≤ 65535 ∧ x.m.ins.length ≤ 65535 ∧ x.m.looks.length ≤ 65535) (hix : ∀ i ∈ x.m.ins, i.acc.length ≤ 65535 ∧ i.dat.length ≤ 65535) (hlx : ∀ l ∈ x.m.looks, l.wr.length ≤ 65535 ∧ l.rd.length ≤ 65535) :
    Calls Try.prog 14 #[.agg (s'.cells x).toArray, .agg (s.cells x).toArray] w fun e w' => e = .returned (.bool true) ∧ Below w.heap.size w w' := by
  obtain ⟨SA, sn, sc, q⟩ := s'
  obtain ⟨SB, sn', sd, r⟩ := s
  obtain rfl : sn' = sn := h.sigs.len.symm.trans hT.tx.sigs.len
  obtain ⟨gs, e1, e2, _⟩ := hT.sig
  dsimp only at e1 e2
  subst e1
  subst e2
  have hsl := h.sigs.len
  dsimp only at hsl
  have hr0 := (Row.new w 33 (TRaw.cells ⟨some ⟨gs, 0, none⟩, sn', sn' + 3, q⟩ x)).alloc (.cells (TRaw.cells ⟨SB, sn', sd, r⟩ x).toArray 33)
  have hr1 : Row ((w.alloc (.cells (TRaw.cells ⟨some ⟨gs, 0, none⟩, sn', sn' + 3, q⟩ x).toArray 33)).alloc (.cells (TRaw.cells ⟨SB, sn', sd, r⟩ x).toArray 33)) (w.heap.size + 1) 33 (TRaw.cells ⟨SB, sn', sd, r⟩ x) := Row.new' _ _ _ (by simp)
  have hbw := (((Below.refl w.heap.size w).alloc (Nat.le_refl _) (.cells (TRaw.cells ⟨some ⟨gs, 0, none⟩, sn', sn' + 3, q⟩ x).toArray 33)).alloc (by simp) (.cells (TRaw.cells ⟨SB, sn', sd, r⟩ x).toArray 33))
  have hw := hT.below hbw
  have hw' := h.below (hbw.mono hB)
  have HSM := Lib.hid (show (Try.prog.info? 31).map (·.size) = some (q.cells x.m).length by rw [size_msg, cells_len h.m.recent])
  have HSM' := Lib.hid (show (Try.prog.info? 31).map (·.size) = some (r.cells x.m).length by rw [size_msg, cells_len h.m.recent])
  have HCM := Lib.hid (tcells_m (s := ⟨some ⟨gs, 0, none⟩, sn', sn' + 3, q⟩) (x := x))
  have HCM' := Lib.hid (tcells_m (s := ⟨SB, sn', sd, r⟩) (x := x))
  have c0 : (TRaw.cells ⟨some ⟨gs, 0, none⟩, sn', sn' + 3, q⟩ x)[0]? = some (.slice (some ⟨gs, 0, none⟩) sn' (sn' + 3)) := rfl
  have d0 : (TRaw.cells ⟨SB, sn', sd, r⟩ x)[0]? = some (.slice SB sn' sd) := rfl
  dsimp only at HCM HCM'
  generalize TRaw.cells ⟨some ⟨gs, 0, none⟩, sn', sn' + 3, q⟩ x = ca at *
  generalize TRaw.cells ⟨SB, sn', sd, r⟩ x = cb at *
  obtain ⟨W, hW⟩ : ∃ W, W = (w.alloc (.cells ca.toArray 33)).alloc (.cells cb.toArray 33) := ⟨_, rfl⟩
  rw [← hW] at hr0 hr1 hbw hw hw'
  obtain ⟨C, hC⟩ : ∃ C, C = (bv mk64).toArray := ⟨_, rfl⟩
  have HMK : Hid (∀ w : World, Calls Try.prog 29 #[] w fun e w' => e = .returned (.agg C) ∧ Below w.heap.size w w') := Lib.hid (by rw [hC]; exact markSig)
  have HLS : Hid (∀ w' : World, Row w' gs 62 (bv x.sigs.flatten ++ keyRow 3 mk64) → SigsIn w' B SB sn' x.sigs → B ≤ w'.heap.size → Calls Try.prog 35 #[.slice (some ⟨gs, 0, none⟩) sn' (sn' + 3), .slice SB sn' sd, .agg C] w' fun e w'' => e = .returned (.bool true) ∧ Below w'.heap.size w' w'') := Lib.hid (by rw [hC]; exact fun w' a b c => leftS gs SB sn' sd x.sigs mk64 w' B a b c (by omega) mk64_len)
  have HLM : Hid (∀ w' : World, TwIn w' q x.m → MsgIn w' B r x.m → B ≤ w'.heap.size → Calls Try.prog 36 #[.agg (q.cells x.m).toArray, .agg (r.cells x.m).toArray] w' fun e w'' => e = .returned (.bool true) ∧ Below w'.heap.size w' w'') := Lib.hid fun w' a b c => leftMsg r q x.m B w' a b c hk.1 hk.2.1 hk.2.2 hix hlx
  have hsig : ∀ w' : World, TwTx w' ⟨some ⟨gs, 0, none⟩, sn', sn' + 3, q⟩ x → Row w' gs 62 (bv x.sigs.flatten ++ keyRow 3 mk64) := fun w' h => by
    obtain ⟨g, e1, _, hr⟩ := h.sig
    dsimp only at e1
    cases e1
    exact hr
  have HSIG := Lib.hid hsig
  have R0 := Lib.hid hr0
  have R1 := Lib.hid hr1
  have B0 := Lib.hid hbw
  have HW := Lib.hid hw
  have HW' := Lib.hid hw'
  have HC := Lib.hid (And.intro c0 d0)
  clear hr0 hr1 hbw hw hw' hT h hC hk hix hlx hsig c0 d0 hsl hsg
  go_enter Try.func14, Try.ntmps14
  go_upto_region 1 with fail
  rw [← hW]
  clear hW
  obtain ⟨V, hV⟩ : ∃ V, V = W.drew := ⟨_, rfl⟩
  have RV : Hid (Row V w.heap.size 33 ca) := Lib.hid (by rw [hV]; exact R0.out.drew)
  have PV : Hid (Row V (w.heap.size + 1) 33 cb) := Lib.hid (by rw [hV]; exact R1.out.drew)
  have BV : Hid (Below w.heap.size w V) := Lib.hid (by rw [hV]; exact B0.out.drew)
  have TV : Hid (TwTx V ⟨some ⟨gs, 0, none⟩, sn', sn' + 3, q⟩ x) := Lib.hid (by rw [hV]; exact HW.out.below (Below.refl _ _).drew)
  have MV : Hid (TxIn V B ⟨SB, sn', sd, r⟩ x) := Lib.hid (by rw [hV]; exact HW'.out.keep fun p hp => rfl)
  have HSS : Hid (∀ V' : World, Row V' w.heap.size 33 ca → Row V' (w.heap.size + 1) 33 cb → (V'.cell? ⟨w.heap.size, 0, none⟩ = some (.slice (some ⟨gs, 0, none⟩) sn' (sn' + 3)) ∧ V'.rangeAt w.heap.size 1 (q.cells x.m)) ∧ V'.cell? ⟨w.heap.size + 1, 0, none⟩ = some (.slice SB sn' sd) ∧ V'.rangeAt (w.heap.size + 1) 1 (r.cells x.m)) := Lib.hid fun V' h h' => ⟨⟨(h.cell 0).trans HC.out.1, fun j u hu => by rw [h.cell, HCM.out]; exact hu⟩, (h'.cell 0).trans HC.out.2, fun j u hu => by rw [h'.cell, HCM'.out]; exact hu⟩
  have HS := Lib.hid (HSS.out V RV.out PV.out)
  refine wp_region_held_drew (S := fun V => (V.cell? ⟨w.heap.size, 0, none⟩ = some (.slice (some ⟨gs, 0, none⟩) sn' (sn' + 3)) ∧ V.rangeAt w.heap.size 1 (q.cells x.m)) ∧ V.cell? ⟨w.heap.size + 1, 0, none⟩ = some (.slice SB sn' sd) ∧ V.rangeAt (w.heap.size + 1) 1 (r.cells x.m)) (by kernel_rfl) (by rw [← hV]; exact HS.out) (fun _ => ?_)
  rw [← hV]
  clear hV HW HW' R0 R1 B0
  refine takeL (i := 0) (v := ?_) rfl (by kernel_rfl) (by kernel_rfl) (by kernel_rfl) (fun _ _ _ h => h) (Or.inl ⟨by rfl, ?_⟩) HS.out ?_
  rotate_left
  · intro w hw
    try dsimp only at hw
    obtain ⟨⟨q0, q1⟩, p0, p1⟩ := hw
    go_simp
    try with_reducible rfl
  try simp only [Act.put, List.setIfInBounds_toArray, List.set_cons_zero, List.set_cons_succ]
  refine takeL (i := 1) (v := ?_) rfl (by kernel_rfl) (by kernel_rfl) (by kernel_rfl) (fun _ _ _ h => h) (Or.inl ⟨by rfl, ?_⟩) HS.out ?_
  rotate_left
  · intro w hw
    try dsimp only at hw
    obtain ⟨⟨q0, q1⟩, p0, p1⟩ := hw
    go_simp
    try with_reducible rfl
  try simp only [Act.put, List.setIfInBounds_toArray, List.set_cons_zero, List.set_cons_succ]
  refine takeL (i := 2) (v := ?_) rfl (by kernel_rfl) (by kernel_rfl) (by kernel_rfl) (fun _ _ _ h => h) (Or.inl ⟨by rfl, ?_⟩) HS.out ?_
  rotate_left
  · intro w hw
    try dsimp only at hw
    obtain ⟨⟨q0, q1⟩, p0, p1⟩ := hw
    go_simp
    try with_reducible rfl
  try simp only [Act.put, List.setIfInBounds_toArray, List.set_cons_zero, List.set_cons_succ]
  refine takeL (i := 3) (v := ?_) rfl (by kernel_rfl) (by kernel_rfl) (by kernel_rfl) (fun _ _ _ h => h) (Or.inl ⟨by rfl, ?_⟩) HS.out ?_
  rotate_left
  · intro w hw
    try dsimp only at hw
    obtain ⟨⟨q0, q1⟩, p0, p1⟩ := hw
    go_simp
    try with_reducible rfl
  try simp only [Act.put, List.setIfInBounds_toArray, List.set_cons_zero, List.set_cons_succ]
  refine readyL (i := 4) rfl (by kernel_rfl) (by kernel_rfl) fun K hK => ?_
  go_simp
  refine (HMK.out V).mono ?_
  rintro e w1 ⟨rfl, hb1⟩
  simp only []
  have R1 := Lib.hid (RV.out.below hb1 RV.out.lt)
  have P1 := Lib.hid (PV.out.below hb1 PV.out.lt)
  have B1 := Lib.hid (BV.out.trans (hb1.mono BV.out.size))
  have T1 := Lib.hid (TV.out.below hb1)
  have M1 := Lib.hid (MV.out.below (hb1.mono (Nat.le_trans hB BV.out.size)))
  have HS1 := Lib.hid (HSS.out w1 R1.out P1.out)
  clear hb1 RV PV BV TV MV
  refine hK.out _ _ HS1.out ?_
  clear hK K
  try simp only [Act.put, List.setIfInBounds_toArray, List.set_cons_zero, List.set_cons_succ]
  refine readyL (i := 5) rfl (by kernel_rfl) (by kernel_rfl) fun K hK => ?_
  go_simp
  refine (HLS.out w1 (HSIG.out _ T1.out) M1.out.sigs (Nat.le_trans hB B1.out.size)).mono ?_
  rintro e w2 ⟨rfl, hb2⟩
  simp only []
  have R2 := Lib.hid (R1.out.below hb2 R1.out.lt)
  have P2 := Lib.hid (P1.out.below hb2 P1.out.lt)
  have B2 := Lib.hid (B1.out.trans (hb2.mono B1.out.size))
  have T2 := Lib.hid (T1.out.below hb2)
  have M2 := Lib.hid (M1.out.below (hb2.mono (Nat.le_trans hB B1.out.size)))
  have HS2 := Lib.hid (HSS.out w2 R2.out P2.out)
  clear hb2 R1 P1 B1 T1 M1
  refine hK.out _ _ HS2.out ?_
  clear hK K
  try simp only [Act.put, List.setIfInBounds_toArray, List.set_cons_zero, List.set_cons_succ]
  refine takeL (i := 6) (v := ?_) rfl (by kernel_rfl) (by kernel_rfl) (by kernel_rfl) (fun _ _ _ h => h) (Or.inl ⟨by rfl, ?_⟩) HS2.out ?_
  rotate_left
  · intro w hw
    try dsimp only at hw
    obtain ⟨⟨q0, q1⟩, p0, p1⟩ := hw
    go_simp
    try with_reducible rfl
  try simp only [Act.put, List.setIfInBounds_toArray, List.set_cons_zero, List.set_cons_succ]
  refine takeL (i := 7) (v := ?_) rfl (by kernel_rfl) (by kernel_rfl) (by kernel_rfl) (fun _ _ _ h => h) (Or.inl ⟨by rfl, ?_⟩) HS2.out ?_
  rotate_left
  · intro w hw
    try dsimp only at hw
    obtain ⟨⟨q0, q1⟩, p0, p1⟩ := hw
    go_simp
    try with_reducible rfl
  try simp only [Act.put, List.setIfInBounds_toArray, List.set_cons_zero, List.set_cons_succ]
  refine takeL (i := 8) (v := .agg (q.cells x.m).toArray) rfl (by kernel_rfl) (by kernel_rfl) (by kernel_rfl) (fun _ _ _ h => h) (yieldsIf_load_mid (by kernel_rfl) 31 (.tmp 12) rfl w.heap.size 1 (by go_simp) (q.cells x.m) _ (fun w hw => hw.1.2) Try.underlying31 rfl HSM.out) HS2.out ?_
  try simp only [Act.put, List.setIfInBounds_toArray, List.set_cons_zero, List.set_cons_succ]
  refine takeL (i := 9) (v := ?_) rfl (by kernel_rfl) (by kernel_rfl) (by kernel_rfl) (fun _ _ _ h => h) (Or.inl ⟨by rfl, ?_⟩) HS2.out ?_
  rotate_left
  · intro w hw
    try dsimp only at hw
    obtain ⟨⟨q0, q1⟩, p0, p1⟩ := hw
    go_simp
    try with_reducible rfl
  try simp only [Act.put, List.setIfInBounds_toArray, List.set_cons_zero, List.set_cons_succ]
  refine takeL (i := 10) (v := .agg (r.cells x.m).toArray) rfl (by kernel_rfl) (by kernel_rfl) (by kernel_rfl) (fun _ _ _ h => h) (yieldsIf_load_mid (by kernel_rfl) 31 (.tmp 14) rfl (w.heap.size + 1) 1 (by go_simp) (r.cells x.m) _ (fun w hw => hw.2.2) Try.underlying31 rfl HSM'.out) HS2.out ?_
  try simp only [Act.put, List.setIfInBounds_toArray, List.set_cons_zero, List.set_cons_succ]
  refine readyL (i := 11) rfl (by kernel_rfl) (by kernel_rfl) fun K hK => ?_
  go_simp
  refine (HLM.out w2 T2.out.m M2.out.m (Nat.le_trans hB B2.out.size)).mono ?_
  rintro e w3 ⟨rfl, hb3⟩
  simp only []
  have R3 := Lib.hid (R2.out.below hb3 R2.out.lt)
  have P3 := Lib.hid (P2.out.below hb3 P2.out.lt)
  have B3 := Lib.hid (B2.out.trans (hb3.mono B2.out.size))
  have T3 := Lib.hid (T2.out.below hb3)
  have M3 := Lib.hid (M2.out.below (hb3.mono (Nat.le_trans hB B2.out.size)))
  have HS3 := Lib.hid (HSS.out w3 R3.out P3.out)
  clear hb3 R2 P2 B2 T2 M2
  refine hK.out _ _ HS3.out ?_
  clear hK K
  try simp only [Act.put, List.setIfInBounds_toArray, List.set_cons_zero, List.set_cons_succ]
  refine takeL (i := 12) (v := ?_) rfl (by kernel_rfl) (by kernel_rfl) (by kernel_rfl) (fun _ _ _ h => h) (Or.inl ⟨by rfl, ?_⟩) HS3.out ?_
  rotate_left
  · intro w hw
    try dsimp only at hw
    obtain ⟨⟨q0, q1⟩, p0, p1⟩ := hw
    go_simp
    try with_reducible rfl
  try simp only [Act.put, List.setIfInBounds_toArray, List.set_cons_zero, List.set_cons_succ]
  refine takeL (i := 13) (v := ?_) rfl (by kernel_rfl) (by kernel_rfl) (by kernel_rfl) (fun _ _ _ h => h) (Or.inl ⟨by rfl, ?_⟩) HS3.out ?_
  rotate_left
  · intro w hw
    try dsimp only at hw
    obtain ⟨⟨q0, q1⟩, p0, p1⟩ := hw
    go_simp
    try with_reducible rfl
  try simp only [Act.put, List.setIfInBounds_toArray, List.set_cons_zero, List.set_cons_succ]
  refine wpAnyH_done (by kernel_rfl) ?_ _
  go_wp2_with fail
  go_ret
  exact ⟨rfl, B3.out⟩
end Go.Proofs.Ytolijdbdpnbchaa

namespace Go.Proofs.Ytolijdbdpnbchaa
open Go.RowKit
set_option linter.unusedVariables false

set_option maxRecDepth 100000 in
set_option maxHeartbeats 2000000 in
theorem bookTx (p base B : Nat) (ks : List (Sl × Kd)) (C ms : List Value) (S K I L : Sl) (iv lv : Nat → Sl × Sl) (w0 w : World) (h : Bk w0 p base ks w)
    (h0 : C[0]? = some S.val) (hm : ∀ j, C[1 + j]? = ms[j]?) (hl : ms.length = 39)
    (h4 : ms[4]? = some K.val) (h37 : ms[37]? = some I.val) (h38 : ms[38]? = some L.val) (hI : TwoAt w B 3 1 I iv) (hL : TwoAt w B 34 32 L lv) (hB : B ≤ base) (hp : B ≤ p) (hn : ks.length + 4 + 2 * I.n + 2 * L.n ≤ 1000000) :
    Calls Try.prog 15 #[.pointer (some ⟨p, 0, none⟩), .agg C.toArray] w fun e w' => e = .returned (.tuple #[]) ∧ Bk w0 p base (ks ++ ([(S, Kd.s)] ++ pagesOf K iv I.n lv L.n)) w' := by
  have HW := Lib.hid h
  have hplt := h.plt
  have H1 := Lib.hid ((h.alloc (.cells C.toArray 33)).start)
  have RM := Lib.hid (Row.new w 33 C)
  have hBs : B ≤ w.heap.size := by
    obtain ⟨P, A, c, _, _, h3⟩ := h
    have := h3.lt
    omega
  have HI := Lib.hid (hI.keep ((Below.refl B w).alloc hBs (.cells C.toArray 33)))
  have HL := Lib.hid (hL.keep ((Below.refl B w).alloc hBs (.cells C.toArray 33)))
  have HM := Lib.hid hm
  have H4 := Lib.hid (And.intro h4 (And.intro h37 h38))
  have HB := Lib.hid (And.intro hB hp)
  have HN := Lib.hid hn
  have HSM := Lib.hid (show (Try.prog.info? 31).map (·.size) = some ms.length by rw [size_msg, hl])
  have c0 : (w.alloc (.cells C.toArray 33)).cell? ⟨w.heap.size, 0, none⟩ = some S.val := by rw [RM.out.cell]; exact h0
  have hkn : ks.length ≤ 1000000 := by omega
  have HTR : Hid (∀ ks' w', Bk (w.alloc (.cells C.toArray 33)) p base ks' w' → Bk w0 p base ks' w') := Lib.hid fun ks' w' h' => (HW.out.alloc _).trans h'
  clear h hI hL h4 h37 h38 hB hp hm hn h0 hl
  go_enter Try.func15, Try.ntmps15
  unfold Sl.val at c0
  go_wp2_with fail
  refine (bkSigs p base ks S _ _ H1.out hkn).mono ?_
  rintro e w1 ⟨rfl, hb1⟩
  have HB1 := Lib.hid hb1
  clear hb1 c0 H1
  generalize w.alloc (.cells C.toArray 33) = W at *
  obtain ⟨mb, hmb⟩ : ∃ mb, w.heap.size = mb := ⟨_, rfl⟩
  rw [hmb] at RM ⊢
  have hne : mb ≠ p := by omega
  have R1 := Lib.hid (HB1.out.row RM.out hne (by decide))
  clear hplt hmb
  go_wp2_with (((with_reducible show wpList _ _ _ ({ dst := some 10, op := Op.load _ _, type := _, pos := _, after := _, guard := _ } :: _) _ _); go_must (refine wpList_load_at rfl 31 (.tmp 9) rfl ⟨mb, 1, none⟩ ms _ Try.underlying31 rfl HSM.out (fun j u hu => by rw [addr_row, R1.out.cell, HM.out]; exact hu) ?_ ?_; go_simp)))
  refine (bookMessage p base B (ks ++ [(S, Kd.s)]) ms K I L iv lv W w1 HB1.out H4.out.1 H4.out.2.1 H4.out.2.2 (HI.out.keep (HB1.out.one.below HB.out.1 HB.out.2)) (HL.out.keep (HB1.out.one.below HB.out.1 HB.out.2)) HB.out.1 HB.out.2 (by have := HN.out; rw [List.length_append]; simp; omega)).mono ?_
  rintro e w2 ⟨rfl, hb2⟩
  have HB2 := Lib.hid hb2
  clear hb2
  go_wp2_with fail
  go_end0
  refine ⟨rfl, HTR.out _ _ ?_⟩
  have := HB2.out
  rw [List.append_assoc] at this
  exact this

/-- a transaction's pages -/
def txPages (S K : Sl) (iv : Nat → Sl × Sl) (n : Nat) (lv : Nat → Sl × Sl) (m : Nat) : List (Sl × Kd) := [(S, Kd.s)] ++ pagesOf K iv n lv m

/-- a transaction of the call's own, page by page -/
structure TxPages (w : World) (lo hi : Nat) (s : TRaw) (x : LTx) (S K I L : Sl) (iv lv : Nat → Sl × Sl) : Prop where
  sg : Value.slice s.SA s.sn s.sc = S.val
  k : Value.slice s.q.KA s.q.kn s.q.kc = K.val
  i : Value.slice s.q.IA s.q.n s.q.ic = I.val
  l : Value.slice s.q.LA s.q.ln s.q.lc = L.val
  ti : TwoAt w hi 3 1 I iv
  tl : TwoAt w hi 34 32 L lv
  fits : ∀ y ∈ txPages S K iv I.n lv L.n, SlFit w y
  rise : (blocks (txPages S K iv I.n lv L.n)).Pairwise (· < ·)
  low : ∀ g ∈ blocks (txPages S K iv I.n lv L.n), lo ≤ g ∧ g < hi
  n : I.n = x.m.ins.length ∧ L.n = x.m.looks.length

theorem TxV.pages {w : World} {lo hi : Nat} {s : TRaw} {x : LTx} (h : TxV w lo hi s x) : ∃ S K I L iv lv, TxPages w lo hi s x S K I L iv lv := by
  obtain ⟨mid, h1, h2, h3, h4⟩ := h.is
  obtain ⟨K, I, L, iv, lv, hp⟩ := h4.pages
  obtain ⟨S, hS, _, hx0, hx1⟩ := own_sl h3.own
  have fS : SlFit w (S, Kd.s) := by
    obtain ⟨A, n, c⟩ := S
    cases A with
    | none => exact hx0 rfl
    | some g =>
      obtain ⟨b1, b2, _, b4, b5, cur, b6, b7⟩ := hx1 g rfl
      exact ⟨b4, b5, cur, b6, Nat.le_of_eq b7.symm, fun _ => b7⟩
  have gS : ∀ g, S.A = some g → lo ≤ g ∧ g < mid := fun g hg => ⟨(hx1 g hg).1, h3.lt g (hx1 g hg).2.2.1⟩
  refine ⟨S, K, I, L, iv, lv, hS, hp.k, hp.i, hp.l, hp.ti, hp.tl, fun y hy => ?_, ?_, fun g hg => ?_, hp.n⟩
  · rcases List.mem_append.1 hy with hy | hy
    · rw [List.mem_singleton.1 hy]; exact fS
    · exact hp.fits y hy
  · unfold txPages
    rw [blocks_app]
    exact pair_app (m := mid) (pair_one _) hp.rise (fun g hg => (gS g (blocks_one _ g hg)).2) fun g hg => (hp.low g hg).1
  · unfold txPages at hg
    rw [blocks_app] at hg
    rcases List.mem_append.1 hg with hg | hg
    · have := gS g (blocks_one _ g hg)
      omega
    · have := hp.low g hg
      omega

/-- the zero transaction has no pages to speak of -/
theorem zPages (w : World) (lo hi : Nat) : TxPages w lo hi zRaw zTx ⟨none, 0, 0⟩ ⟨none, 0, 0⟩ ⟨none, 0, 0⟩ ⟨none, 0, 0⟩ (fun _ => (⟨none, 0, 0⟩, ⟨none, 0, 0⟩)) (fun _ => (⟨none, 0, 0⟩, ⟨none, 0, 0⟩)) := by
  refine ⟨rfl, rfl, rfl, rfl, fun i hi => absurd hi (Nat.not_lt_zero i), fun i hi => absurd hi (Nat.not_lt_zero i), fun y hy => ?_, ?_, fun g hg => ?_, rfl, rfl⟩
  · have hy' : y ∈ [((⟨none, 0, 0⟩ : Sl), Kd.s), (⟨none, 0, 0⟩, Kd.k)] := hy
    simp only [List.mem_cons, List.not_mem_nil, or_false] at hy'
    rcases hy' with rfl | rfl <;> exact ⟨rfl, rfl⟩
  · exact List.Pairwise.nil
  · cases hg

theorem TwoAt.stay {w w' : World} {B size o : Nat} {x : Sl} {f : Nat → Sl × Sl} (h : TwoAt w B size o x f) (hk : ∀ a : Addr, a.block < B → w'.cell? a = w.cell? a) : TwoAt w' B size o x f := fun i hi => by
  obtain ⟨g, h1, h2, h3, h4⟩ := h i hi
  exact ⟨g, h1, h2, (hk _ h2).trans h3, (hk _ h2).trans h4⟩
theorem TxPages.below {w w' : World} {lo hi : Nat} {s : TRaw} {x : LTx} {S K I L : Sl} {iv lv : Nat → Sl × Sl} (h : TxPages w lo hi s x S K I L iv lv) (hb : Below hi w w') : TxPages w' lo hi s x S K I L iv lv :=
  ⟨h.sg, h.k, h.i, h.l, h.ti.keep hb, h.tl.keep hb, fun y hy => (h.fits y hy).keep fun g hg => hb.block g (h.low g (List.mem_filterMap.2 ⟨y, hy, hg⟩)).2, h.rise, h.low, h.n⟩

/-- a transaction of the call's own goes into a book -/
theorem bookTxV (p base lo hi : Nat) (ks : List (Sl × Kd)) (s : TRaw) (x : LTx) (S K I L : Sl) (iv lv : Nat → Sl × Sl) (w0 w : World) (h : Bk w0 p base ks w) (hr : x.m.recent.length = 32)
    (hp : TxPages w lo hi s x S K I L iv lv) (hb : hi ≤ base) (hbp : hi ≤ p) (hn : ks.length + 4 + 2 * x.m.ins.length + 2 * x.m.looks.length ≤ 1000000) :
    Calls Try.prog 15 #[.pointer (some ⟨p, 0, none⟩), .agg (s.cells x).toArray] w fun e w' => e = .returned (.tuple #[]) ∧ Bk w0 p base (ks ++ txPages S K iv I.n lv L.n) w' := by
  refine bookTx p base hi ks (s.cells x) (s.q.cells x.m) S K I L iv lv w0 w h ?_ (tcells_m (s := s) (x := x)) (cells_len hr) ?_ ?_ ?_ hp.ti hp.tl hb hbp (by rw [hp.n.1, hp.n.2]; exact hn)
  · rw [tcells_0, hp.sg]
  · rw [cells_4, hp.k]
  · rw [cells_37 hr, hp.i]
  · rw [cells_38 hr, hp.l]
end Go.Proofs.Ytolijdbdpnbchaa

namespace Go.Proofs.Ytolijdbdpnbchaa
open Go.RowKit
set_option linter.unusedVariables false

/-- what Whole leaves -/
def WholeDone (w : World) (zs : List Int) (e : Ending) (w' : World) : Prop :=
  (∃ x s lo, wTx zs = .ok x ∧ e = .returned (.tuple #[.agg (TRaw.cells s x).toArray, .int .i64 0]) ∧ w.heap.size ≤ lo ∧ TxV w' lo w'.heap.size s x ∧ Below w.heap.size w w') ∨
  (∃ c, wTx zs = .error c ∧ e = .returned (.tuple #[.agg tzero.toArray, .int .i64 c]) ∧ Below w.heap.size w w')

set_option maxRecDepth 100000 in
set_option maxHeartbeats 2000000 in
theorem whole_ (A : Option Addr) (n c B : Nat) (zs : List Int) (w : World) (hs : Sees w B A n (bv zs)) (hB : B ≤ w.heap.size) (hnc : n ≤ c) (hc : c ≤ maxLen) (hz : AllBytes zs) :
    Calls Try.prog 21 #[.slice A n c] w (WholeDone w zs) := by
  have hn : zs.length = n := by have := hs.len; rwa [bv_length] at this
  subst hn
  have hmx := hc
  unfold maxLen at hmx
  have r0 := Row.new w 33 tzero
  have b0 : Below w.heap.size w (w.alloc (.cells tzero.toArray 33)) := (Below.refl _ _).alloc (Nat.le_refl _) _
  have z0 : (w.alloc (.cells tzero.toArray 33)).heap.size = w.heap.size + 1 := by simp
  have HG := Lib.hid (gettx_ A zs.length c B zs (w.alloc (.cells tzero.toArray 33)) (hs.below (b0.mono hB)) (Nat.le_trans hB b0.size) hnc hc hz)
  have R0 := Lib.hid r0
  have B0 := Lib.hid b0
  have Z0 := Lib.hid z0
  have HZ := Lib.hid hz
  clear hs r0 b0 z0 hz
  obtain ⟨W, hW⟩ : ∃ W, W = w.alloc (.cells tzero.toArray 33) := ⟨_, rfl⟩
  go_enter Try.func21, Try.ntmps21
  go_upto_region 1 with fail
  have hX : ∀ c, c = tzero.toArray → w.alloc (.cells c 33) = W := by rintro _ rfl; exact hW.symm
  rw [hX]
  rotate_left
  · kernel_rfl
  rw [← hW] at HG R0 B0 Z0
  clear hW hX
  by_cases hbig : 1232 < zs.length
  · have HP : Hid (wTx zs = .error 3) := Lib.hid (by unfold wTx; rw [if_pos hbig])
    have hbig' : (1232 : Int) < zs.length := by omega
    go_wp2_with (((with_reducible show wpList _ _ _ ({ dst := none, op := Op.store 33 _ _, type := _, pos := _, after := _, guard := _ } :: _) _ _); go_must (refine wpList_store_whole rfl 33 (.tmp 2) (.tmp 10) rfl w.heap.size tzero tzero R0.out size_tz rfl tzero_one ?_ ?_ ?_; go_simp; (go_simp; kernel_rfl); intro w3 hr3 ht3; have R3 := Lib.hid hr3; have T3 := Lib.hid ht3; clear hr3 ht3)))
    refine bodyPost_ret (results_cell1 (h := rfl) _ w3 ⟨w.heap.size, 0, none⟩ _ _ (by rfl) (by rfl) (run_loadVar_row w3 w.heap.size 33 33 tzero.toArray (0, 0) _ R3.out.is Try.underlying33 rfl (by rw [List.size_toArray]; exact size_tz))) rfl ?_
    exact .inr ⟨_, HP.out, rfl, B0.out.trans (T3.out.below (Nat.le_refl _))⟩
  have hbig' : ¬ (1232 : Int) < zs.length := by omega
  go_wp2_with fail
  refine HG.out.mono ?_
  rintro e w2 (⟨x, r, s, lo, hp, rfl, hlo, hv, hb⟩ | ⟨x, hp, rfl, hb⟩)
  rotate_left
  · have hx := pTx_err HZ.out hp
    have HP : Hid (wTx zs = .error x) := Lib.hid (by unfold wTx; rw [if_neg hbig, hp])
    have HR2 := Lib.hid (R0.out.below hb R0.out.lt)
    have HB2 := Lib.hid (B0.out.trans (hb.mono B0.out.size))
    have HLT := Lib.hid (show w.heap.size < w2.heap.size by have := HR2.out.lt; exact this)
    clear hp hb HG
    rcases hx with rfl | rfl
    all_goals
      go_wp2_with (first
        | ((with_reducible show wpList _ _ _ ({ dst := none, op := Op.store 33 (.tmp 4) _, type := _, pos := _, after := _, guard := _ } :: _) _ _); go_must (refine wpList_store_new rfl 33 (.tmp 4) (.tmp 14) rfl tzero size_tz tzero_one rfl ?_ ?_ ?_; go_simp; go_simp; intro w3 hr3 hb3 hz3; have B3 := Lib.hid hb3; clear hr3 hb3 hz3))
        | ((with_reducible show wpList _ _ _ ({ dst := none, op := Op.store 33 (.tmp 2) _, type := _, pos := _, after := _, guard := _ } :: _) _ _); go_must (refine wpList_store_whole rfl 33 (.tmp 2) (.tmp 19) rfl w.heap.size tzero tzero (HR2.out.below B3.out HLT.out) size_tz rfl tzero_one ?_ ?_ ?_; go_simp; (go_simp; kernel_rfl); intro w4 hr4 ht4; have R4 := Lib.hid hr4; have T4 := Lib.hid ht4; clear hr4 ht4)))
      refine bodyPost_ret (results_cell1 (h := rfl) _ w4 ⟨w.heap.size, 0, none⟩ _ _ (by rfl) (by rfl) (run_loadVar_row w4 w.heap.size 33 33 tzero.toArray (0, 0) _ R4.out.is Try.underlying33 rfl (by rw [List.size_toArray]; exact size_tz))) rfl ?_
      exact .inr ⟨_, HP.out, rfl, (HB2.out.trans (B3.out.mono HB2.out.size)).trans (T4.out.below (Nat.le_refl _))⟩
  have hle := (front_tx _ _ _ hp).le
  have HR2 := Lib.hid (R0.out.below hb R0.out.lt)
  have HB2 := Lib.hid (B0.out.trans (hb.mono B0.out.size))
  have HLT := Lib.hid HR2.out.lt
  have HTX := Lib.hid hv
  have HSZ := Lib.hid (show (Try.prog.info? 33).map (·.size) = some (TRaw.cells s x).length by rw [size_tx, tcells_len hv.in_.m.recent])
  have HTL := Lib.hid (tcells_len (s := s) (x := x) hv.in_.m.recent)
  have HCO := Lib.hid (tcells_one (s := s) (x := x))
  have HLO := Lib.hid hlo
  have HP2 := Lib.hid hp
  obtain ⟨T, hT⟩ : ∃ T : Int, T = (zs.length : Int) - r.length := ⟨_, rfl⟩
  rw [← hT]
  have HT := Lib.hid hT
  obtain ⟨cs, hcs⟩ : ∃ cs, cs = TRaw.cells s x := ⟨_, rfl⟩
  have HCS := Lib.hid hcs
  rw [← hcs] at HSZ HTL HCO ⊢
  clear hcs hT hp hv hlo hb HG
  by_cases h0 : r.length = 0
  · have hT0 : ¬ T < zs.length := by have := HT.out; omega
    have HP : Hid (wTx zs = .ok x) := Lib.hid (by unfold wTx; rw [if_neg hbig, HP2.out]; dsimp only; rw [if_pos h0])
    go_wp2_with (first
      | ((with_reducible show wpList _ _ _ ({ dst := none, op := Op.store 33 (.tmp 4) _, type := _, pos := _, after := _, guard := _ } :: _) _ _); go_must (refine wpList_store_new rfl 33 (.tmp 4) (.tmp 14) rfl cs HSZ.out HCO.out (by rw [HTL.out]; rfl) ?_ ?_ ?_; go_simp; go_simp; intro w3 hr3 hb3 hz3; have R3 := Lib.hid hr3; have B3 := Lib.hid hb3; clear hr3 hb3 hz3))
      | ((with_reducible show wpList _ _ _ ({ dst := some 26, op := Op.load _ _, type := _, pos := _, after := _, guard := _ } :: _) _ _); go_must (refine wpList_load_whole rfl 33 (.tmp 4) rfl w2.heap.size 33 cs _ Try.underlying33 rfl HSZ.out R3.out ?_ ?_; go_simp))
      | ((with_reducible show wpList _ _ _ ({ dst := none, op := Op.store 33 (.tmp 2) _, type := _, pos := _, after := _, guard := _ } :: _) _ _); go_must (refine wpList_store_whole rfl 33 (.tmp 2) (.tmp 26) rfl w.heap.size tzero cs (HR2.out.below B3.out HLT.out) HSZ.out (by rw [HTL.out]; rfl) HCO.out ?_ ?_ ?_; go_simp; go_simp; intro w4 hr4 ht4; have R4 := Lib.hid hr4; have T4 := Lib.hid ht4; clear hr4 ht4)))
    refine bodyPost_ret (results_cell1 (h := rfl) _ w4 ⟨w.heap.size, 0, none⟩ _ _ (by rfl) (by rfl) (run_loadVar_row w4 w.heap.size 33 33 cs.toArray (0, 0) _ R4.out.is Try.underlying33 rfl (by rw [List.size_toArray]; exact HSZ.out))) rfl ?_
    refine .inl ⟨x, s, lo, HP.out, by rw [HCS.out]; rfl, ?_, ?_, (HB2.out.trans (B3.out.mono HB2.out.size)).trans (T4.out.below (Nat.le_refl _))⟩
    · exact Nat.le_trans B0.out.size HLO.out
    · refine (HTX.out.stay (w' := w4) (by rw [T4.out.size]; exact B3.out.size) fun k a b => (T4.out.block k ?_).trans (B3.out.block k b)).more (by rw [T4.out.size]; exact B3.out.size)
      have := Z0.out
      have := HLO.out
      omega
  · have hT0 : T < zs.length := by have := HT.out; omega
    have HP : Hid (wTx zs = .error 4) := Lib.hid (by unfold wTx; rw [if_neg hbig, HP2.out]; dsimp only; rw [if_neg h0])
    go_wp2_with (first
      | ((with_reducible show wpList _ _ _ ({ dst := none, op := Op.store 33 (.tmp 4) _, type := _, pos := _, after := _, guard := _ } :: _) _ _); go_must (refine wpList_store_new rfl 33 (.tmp 4) (.tmp 14) rfl cs HSZ.out HCO.out (by rw [HTL.out]; rfl) ?_ ?_ ?_; go_simp; go_simp; intro w3 hr3 hb3 hz3; have B3 := Lib.hid hb3; clear hr3 hb3 hz3))
      | ((with_reducible show wpList _ _ _ ({ dst := none, op := Op.store 33 (.tmp 2) _, type := _, pos := _, after := _, guard := _ } :: _) _ _); go_must (refine wpList_store_whole rfl 33 (.tmp 2) (.tmp 25) rfl w.heap.size tzero tzero (HR2.out.below B3.out HLT.out) size_tz rfl tzero_one ?_ ?_ ?_; go_simp; (go_simp; kernel_rfl); intro w4 hr4 ht4; have R4 := Lib.hid hr4; have T4 := Lib.hid ht4; clear hr4 ht4)))
    refine bodyPost_ret (results_cell1 (h := rfl) _ w4 ⟨w.heap.size, 0, none⟩ _ _ (by rfl) (by rfl) (run_loadVar_row w4 w.heap.size 33 33 tzero.toArray (0, 0) _ R4.out.is Try.underlying33 rfl (by rw [List.size_toArray]; exact size_tz))) rfl ?_
    exact .inr ⟨_, HP.out, rfl, (HB2.out.trans (B3.out.mono HB2.out.size)).trans (T4.out.below (Nat.le_refl _))⟩
end Go.Proofs.Ytolijdbdpnbchaa

namespace Go.Proofs.Ytolijdbdpnbchaa
open Go.RowKit
set_option linter.unusedVariables false

def gx (zs : List Int) : LTx := match pTx zs with
  | .ok (x, _) => x
  | .error _ => zTx
def gn (zs : List Int) : Int := match pTx zs with
  | .ok (_, r) => (zs.length : Int) - r.length
  | .error _ => 0
def gc (zs : List Int) : Int := match pTx zs with
  | .ok _ => 0
  | .error c => c
def wx (zs : List Int) : LTx := match wTx zs with
  | .ok x => x
  | .error _ => zTx
def wc (zs : List Int) : Int := match wTx zs with
  | .ok _ => 0
  | .error c => c

/-- a transaction of the call's own, or the zero one, and its cells -/
structure TxGot (w : World) (lo hi : Nat) (x : LTx) (cs : List Value) : Prop where
  le : lo ≤ hi
  short : x.m.ins.length ≤ 65535 ∧ x.m.looks.length ≤ 65535
  is : ∃ s, cs = TRaw.cells s x ∧ TxIn w hi s x ∧ ∃ S K I L iv lv, TxPages w lo hi s x S K I L iv lv

section
variable {w w' : World} {lo hi lo' hi' : Nat} {x : LTx} {cs cs' : List Value}
theorem TxGot.below (h : TxGot w lo hi x cs) (hb : Below hi w w') : TxGot w' lo hi x cs := by
  obtain ⟨s, h1, h2, S, K, I, L, iv, lv, h3⟩ := h.is
  exact ⟨h.le, h.short, s, h1, h2.below hb, S, K, I, L, iv, lv, h3.below hb⟩
theorem TxGot.drewN (h : TxGot w lo hi x cs) (n : Nat) : TxGot (w.drewN n) lo hi x cs := h.below (below_drewN (Below.refl _ _) n)
theorem TxGot.len (h : TxGot w lo hi x cs) : cs.length = 40 := by
  obtain ⟨s, rfl, h2, _⟩ := h.is
  exact tcells_len h2.m.recent
theorem TxGot.size (h : TxGot w lo hi x cs) : (Try.prog.info? 33).map (·.size) = some cs.length := by rw [h.len, size_tx]
theorem TxGot.one (h : TxGot w lo hi x cs) : ∀ u ∈ cs, u.oneCell' = true := by
  obtain ⟨s, rfl, _⟩ := h.is
  exact tcells_one
theorem TxGot.same (h : TxGot w lo hi x cs) (h' : TxGot w lo' hi' x cs') (hz : hi ≤ w.heap.size) (hz' : hi' ≤ w.heap.size) :
    Calls Try.prog 23 #[.agg cs.toArray, .agg cs'.toArray] w fun e w' => e = .returned (.bool true) ∧ Below w.heap.size w w' := by
  obtain ⟨s, rfl, h2, _⟩ := h.is
  obtain ⟨s', rfl, h2', _⟩ := h'.is
  exact same_tx s s' x hi hi' w h2 hz h2' hz'
theorem TxV.got {s : TRaw} (h : TxV w lo hi s x) : TxGot w lo hi x (TRaw.cells s x) := by
  obtain ⟨mid, h1, h2, _, h4⟩ := h.is
  exact ⟨by omega, ⟨h4.short.2.1, h4.short.2.2⟩, s, rfl, h.in_, h.pages⟩
theorem got_zero (w : World) (lo hi : Nat) (h : lo ≤ hi) : TxGot w lo hi zTx tzero :=
  ⟨h, by simp [zTx], zRaw, rfl, zTx_in w hi, _, _, _, _, _, _, zPages w lo hi⟩

theorem flat_len2 (S K : Sl) (iv lv : Nat → Sl × Sl) (n m : Nat) : (txPages S K iv n lv m).length = 2 + 2 * n + 2 * m := by
  unfold txPages pagesOf
  simp only [List.length_append, List.length_cons, List.length_nil, flat_len]
  omega
/-- its pages, and that a book takes them -/
theorem TxGot.pages (h : TxGot w lo hi x cs) : ∃ ps : List (Sl × Kd), (∀ y ∈ ps, SlFit w y) ∧ (blocks ps).Pairwise (· < ·) ∧ (∀ g ∈ blocks ps, lo ≤ g ∧ g < hi) ∧ ps.length ≤ 262142 ∧
    ∀ (p base : Nat) (ks : List (Sl × Kd)) (w0 w1 : World), Below hi w w1 → Bk w0 p base ks w1 → hi ≤ base → hi ≤ p → ks.length ≤ 500000 →
      Calls Try.prog 15 #[.pointer (some ⟨p, 0, none⟩), .agg cs.toArray] w1 fun e w' => e = .returned (.tuple #[]) ∧ Bk w0 p base (ks ++ ps) w' := by
  obtain ⟨s, rfl, h2, S, K, I, L, iv, lv, h3⟩ := h.is
  have hs := h.short
  refine ⟨txPages S K iv I.n lv L.n, h3.fits, h3.rise, h3.low, by rw [flat_len2, h3.n.1, h3.n.2]; omega, fun p base ks w0 w1 hb hk h4 h5 h6 => ?_⟩
  exact bookTxV p base lo hi ks s x S K I L iv lv w0 w1 hk h2.m.recent (h3.below hb) h4 h5 (by omega)
end

theorem GetTxDone.one {w w' : World} {zs : List Int} {e : Ending} (h : GetTxDone w zs e w') :
    ∃ cs lo, e = .returned (.tuple #[.agg cs.toArray, .int .i64 (gn zs), .int .i64 (gc zs)]) ∧ w.heap.size ≤ lo ∧ TxGot w' lo w'.heap.size (gx zs) cs ∧ Below w.heap.size w w' := by
  rcases h with ⟨x, r, s, lo, hp, he, hlo, hv, hb⟩ | ⟨c, hp, he, hb⟩
  · refine ⟨TRaw.cells s x, lo, ?_, hlo, ?_, hb⟩
    · unfold gn gc
      rw [hp]
      exact he
    · unfold gx
      rw [hp]
      exact hv.got
  · refine ⟨tzero, w.heap.size, ?_, Nat.le_refl _, ?_, hb⟩
    · unfold gn gc
      rw [hp]
      exact he
    · unfold gx
      rw [hp]
      exact got_zero _ _ _ hb.size
theorem WholeDone.one {w w' : World} {zs : List Int} {e : Ending} (h : WholeDone w zs e w') :
    ∃ cs lo, e = .returned (.tuple #[.agg cs.toArray, .int .i64 (wc zs)]) ∧ w.heap.size ≤ lo ∧ TxGot w' lo w'.heap.size (wx zs) cs ∧ Below w.heap.size w w' := by
  rcases h with ⟨x, s, lo, hp, he, hlo, hv, hb⟩ | ⟨c, hp, he, hb⟩
  · refine ⟨TRaw.cells s x, lo, ?_, hlo, ?_, hb⟩
    · unfold wc
      rw [hp]
      exact he
    · unfold wx
      rw [hp]
      exact hv.got
  · refine ⟨tzero, w.heap.size, ?_, Nat.le_refl _, ?_, hb⟩
    · unfold wc
      rw [hp]
      exact he
    · unfold wx
      rw [hp]
      exact got_zero _ _ _ hb.size
end Go.Proofs.Ytolijdbdpnbchaa

namespace Go.Proofs.Ytolijdbdpnbchaa
open Go.RowKit
set_option linter.unusedVariables false

section
variable {P : Program} {w : World} {base : Nat} {t ty e : TypeId} {i : TypeInfo} {z : Value} {bytes : Nat} {v : Value} {n m c B : Nat} {A : Option Addr} {xs news : List Value}

theorem append_keeps (ht : P.underlying t = some (.slice e)) (hi : P.info? e = some i) (hz : i.zero = some z) (hsize : i.size = 1) (hby : i.bytes = bytes)
    (hown : w.ownsRow base e 1 v n xs) (hr : Sees w B A m news) (h1 : ∀ u ∈ news, u.oneCell' = true) (hnm : n + m ≤ maxLen) (hbytes : (n + m) * bytes ≤ 140737488355328) (c : Nat)
    {v' : Value} {w' : World} (hrun : (Builtin.append_ #[t, t] ty #[v, .slice A m c]).run P w = .ok v' w') (A0 : Option Addr) (c0 : Nat) (hv : v = .slice A0 n c0) : Sees w' w'.heap.size A0 n xs := by
  have hseen : Sees w w.heap.size A0 n xs := by subst hv; exact Sees.of_own hown
  cases A with
  | none =>
    have hn : news = [] := by
      cases news with
      | nil => rfl
      | cons u r =>
        obtain ⟨a, h, _⟩ := hr.cell 0 u rfl
        cases h
    subst hn
    obtain rfl : m = 0 := by simpa using hr.len.symm
    rw [run_append_nothing ht hi hown c] at hrun
    cases hrun
    exact hseen
  | some ad =>
    have hnews : ∀ j u, news[j]? = some u → w.cell? (ad.add j) = some u := fun j u hu => by
      obtain ⟨a, h, _, hc⟩ := hr.cell j u hu
      cases h
      exact hc
    have hml := hr.len
    rcases hown.2 with ⟨h2, rfl⟩ | ⟨g, cap, cur, h2, hg, hh, hnc, hcm, hcs, htk⟩
    · have : xs = [] := by have := hown.1; simpa using this
      subst this
      exact Sees.nil _ _ _
    · rw [hv] at h2
      cases h2
      by_cases hroom : n + m ≤ c0
      · have hrm := run_append_room (P := P) w t ty e i ht hi g n c0 cur hh ad m c news (by rw [hml, hsize]; omega) hnews h1 hroom (by rw [hsize]; omega)
        rw [hv, hrm] at hrun
        cases hrun
        have hcell : ∀ j u, xs[j]? = some u → (w.setRow g (cur.toList.take (n * i.size) ++ news ++ cur.toList.drop (n * i.size + news.length)).toArray).cell? ⟨g, j, none⟩ = some u := fun j u hu => by
          have hj := (List.getElem?_eq_some_iff.1 hu).1
          have hx := hown.1
          rw [cell_of_row _ g j _ e (0, 0) (setRow_heap w g cur _ e _ hh)]
          rw [List.getElem?_toArray, List.append_assoc, List.getElem?_append_left (by rw [List.length_take, Array.length_toList, hsize]; omega)]
          have := htk
          rw [hsize]
          rw [this]
          exact hu
        exact ⟨by rw [hown.1]; omega, fun j u hu => ⟨_, rfl, by have := (Array.getElem?_eq_some_iff.1 hh).1; simpa [World.setRow] using this, by rw [addr_row, Nat.zero_add]; exact hcell j u hu⟩⟩
      · have hgr := run_append_grow (P := P) w t ty e i z ht hi hz ⟨g, 0, none⟩ n c0 xs (by rw [hown.1, hsize]) (fun j u hu => by
            obtain ⟨a, e1, _, hc⟩ := hseen.cell j u hu
            cases e1
            exact hc) ad m c news (by rw [hml, hsize]; omega) hnews (by omega) (by unfold maxLen at hnm; omega) (by rw [hby]; exact growslice_fits (by omega) hbytes)
        rw [hv, hgr] at hrun
        cases hrun
        exact ((hseen.drew).alloc (Nat.le_refl _) _).more (by simp)
end

/-- append of what is seen, onto a row of one's own, that keeps what it shows: the walk's arm -/
theorem wpList_addBK {P : Program} {w : World} {ops : Array Oper} {rest : List Oper} {o : Oper} {a : Act} {Q : Exit → Act → World → Prop} (hgd : o.guard = none) (s x : Operand) (t : TypeId)
    (ho : o.op = .call { callee := .builtin .append, args := #[s, x], argTypes := #[t, t] })
    (base : Nat) (ht : P.underlying t = some (.slice 5)) (hi : (P.info? 5).map (fun i => (i.zero, i.size, i.bytes)) = some (some (.int .u8 0), 1, 1))
    (A0 : Option Addr) (c0 : Nat) (xs : List Int) (hs : a.eval s = .slice A0 xs.length c0) (hown : OwnB w base (.slice A0 xs.length c0) xs) (B : Nat) (A : Option Addr) (m c : Nat) (news : List Int) (hx : a.eval x = .slice A m c) (hr : Sees w B A m (bv news))
    (hbase : base ≤ w.heap.size) (hnm : (xs ++ news).length ≤ 1099511627776)
    (h : ∀ v' w', OwnB w' base v' (xs ++ news) → Grew w w' (.slice A0 xs.length c0) v' → Sees w' w'.heap.size A0 xs.length (bv xs) → wpList P ops Q rest (a.put o.dst v') w') : wpList P ops Q (o :: rest) a w := by
  obtain ⟨i0, hi, hz0, hz1, hz2⟩ := info_parts hi
  have hm : news.length = m := by have := hr.len; rwa [bv_length] at this
  subst hm
  have hl : xs.length + news.length ≤ 1099511627776 := by simpa using hnm
  obtain ⟨v', w', hrun, h2, h3, h4⟩ := run_append_sees (P := P) (ty := o.type) ht hi hz0 hz1 hz2 rfl hown hr (bv_one news) (by unfold maxLen; omega) (by omega) hbase c
  have hk := append_keeps (P := P) ht hi hz0 hz1 hz2 hown hr (bv_one news) (by unfold maxLen; omega) (by omega) c hrun A0 c0 rfl
  refine wpList_plain hgd fun K hK => ?_
  unfold Oper.wp execOp
  simp only [ho, resolve, invoke, builtin, Sem.run_bind, Sem.run_pure, Result.andThen_ok, List.map_toArray, List.map_cons, List.map_nil, hs, hx, hrun]
  refine hK _ _ (h v' w' ?_ ⟨h3, fun k hk => ?_⟩ hk)
  · unfold OwnB
    rw [bv_append]
    simpa using h2
  · rcases h4 with h4 | h4
    · exact .inl (h4 ▸ hk)
    · rw [h4] at hk
      cases hk
      exact .inr (Nat.le_refl _)
end Go.Proofs.Ytolijdbdpnbchaa

namespace Go.Proofs.Ytolijdbdpnbchaa
open Go.RowKit
set_option linter.unusedVariables false

def lKey : List Int := 1 :: List.replicate 31 0
def lMsg : LMsg := ⟨false, 1, 0, 0, [lKey], zero32, [], []⟩
def lRaw (k : Nat) : Raw := ⟨some ⟨k, 0, none⟩, 1, 1, none, 0, 0, none, 0, 0⟩
def lTx : LTx := ⟨[], lMsg⟩
def lWant : List Int := [0, 1, 0, 0, 1] ++ lKey ++ List.replicate 32 0 ++ [0]
theorem l_enc : encTx lTx = lWant := by decide
theorem l_len : lWant.length = 70 := by decide
theorem l_fits : Fits lMsg := by
  unfold Fits lMsg
  exact ⟨.inr ⟨rfl, by show (1 : Int) < 128; omega⟩, by simp, by simp, by simp, by simp, by simp⟩
theorem l_bytes : AllBytes lWant := by unfold AllBytes IsByte; decide
theorem l_wf : lTx.Wf := by
  refine ⟨by simp [lTx], ⟨(by constructor <;> decide), (by constructor <;> decide), (by constructor <;> decide), fun k hk => ?_, ⟨rfl, ?_⟩, by simp [lTx, lMsg], by simp [lTx, lMsg]⟩⟩
  · obtain rfl : k = lKey := by simpa [lTx, lMsg] using hk
    exact ⟨rfl, by unfold AllBytes IsByte; decide⟩
  · unfold AllBytes IsByte; decide
theorem l_tfits : TFits lTx := ⟨by simp [lTx], l_fits⟩
theorem l_whole : wTx lWant = .ok lTx := by
  have h := pTx_put l_tfits l_wf []
  rw [List.append_nil, l_enc] at h
  unfold wTx
  rw [if_neg (by rw [l_len]; omega), h]
  rfl
theorem l_more : wTx (lWant ++ [0]) = .error 4 := by
  have h := pTx_put l_tfits l_wf [0]
  rw [l_enc] at h
  unfold wTx
  rw [if_neg (by rw [List.length_append, l_len]; simp), h]
  rfl
theorem l_big (n : Nat) (h : 1232 < n) : wTx (List.replicate n 0) = .error 3 := by
  unfold wTx
  rw [if_pos (by rw [List.length_replicate]; exact h)]
theorem l_in {w : World} {k t : Nat} (hr : Row w k t (bv lKey)) : MsgIn w w.heap.size (lRaw k) lMsg :=
  ⟨rfl, ⟨rfl, by simp [lMsg, lKey], by
      have := hr.sees0
      simpa [lMsg, lRaw, bv_length, lKey] using this⟩, ⟨rfl, fun i x h => by simp [lMsg] at h⟩, ⟨rfl, fun i x h => by simp [lMsg] at h⟩, by simp [lRaw, maxLen], by simp [lRaw, maxLen], by simp [lRaw, maxLen]⟩
theorem l_tin {w : World} {k t : Nat} (hr : Row w k t (bv lKey)) : TxIn w w.heap.size ⟨none, 0, 0, lRaw k⟩ lTx :=
  ⟨⟨rfl, by simp [lTx], Sees.nil _ _ _⟩, by simp [maxLen], l_in hr⟩

/-- as many signatures as make it too long -/
def lTx19 : LTx := ⟨List.replicate 19 (List.replicate 64 0), lMsg⟩
theorem l_enc19 : (encTx lTx19).length = 1286 := by decide +kernel
theorem l_flat19 : bv lTx19.sigs.flatten = bv (List.replicate 1216 0) := by
  have : lTx19.sigs.flatten = List.replicate 1216 0 := by decide +kernel
  rw [this]
theorem made64 (n : Nat) : (madeCells (Value.agg (zeros 64).toArray).cells (n * 64)).toList = bv (List.replicate (n * 64) 0) := by
  apply List.ext_getElem?
  intro i
  have hz : (Value.agg (zeros 64).toArray).cells.size = 64 := by kernel_rfl
  have hv : ∀ j, j < 64 → (Value.agg (zeros 64).toArray).cells[j]! = .int .u8 0 := fun j hj => by
    rw [show (Value.agg (zeros 64).toArray).cells = (zeros 64).toArray from rfl]
    have hs : j < (zeros 64).toArray.size := by simp only [List.size_toArray, zeros, List.length_replicate]; exact hj
    rw [getElem!_pos (zeros 64).toArray j hs, List.getElem_toArray]
    exact List.eq_of_mem_replicate (List.getElem_mem _)
  simp only [madeCells, hz, bv, cv, List.map_replicate, Array.toList_map, Array.toList_range]
  by_cases h : i < n * 64
  · rw [List.getElem?_map, List.getElem?_range h, List.getElem?_replicate_of_lt h]
    simp [hv (i % 64) (by omega)]
  · rw [List.getElem?_eq_none (by simp; omega), List.getElem?_eq_none (by simp; omega)]
theorem made19 : (madeCells (Value.agg (zeros 64).toArray).cells (19 * 64)).toList = bv (List.replicate 1216 0) := made64 19
theorem l_in19 {w : World} {k t g : Nat} (hr : Row w k t (bv lKey)) (hg : Row w g 62 (bv (List.replicate 1216 0))) : TxIn w w.heap.size ⟨some ⟨g, 0, none⟩, 19, 19, lRaw k⟩ lTx19 := by
  refine ⟨⟨rfl, fun y hy => ?_, ?_⟩, by simp [maxLen], l_in hr⟩
  · obtain rfl : y = List.replicate 64 0 := List.eq_of_mem_replicate hy
    rfl
  · rw [l_flat19]
    have := hg.sees0
    rw [bv_length, List.length_replicate] at this
    exact this

theorem split39 (m : List Value) (h : m.length = 39) : ∃ f : Fin 39 → Value, m = List.ofFn f := ⟨fun i => m.getD i undef, by
    refine List.ext_getElem (by simpa using h) fun i h1 h2 => ?_
    rw [List.getElem_ofFn, List.getD_eq_getElem?_getD, List.getElem?_eq_getElem h1]
    rfl⟩
theorem built_tx1 (m : List Value) (h : m.length = 39) : Try.prog.built 33 [(1, .agg m.toArray)] = some (.slice none 0 0 :: m).toArray := by
  obtain ⟨f, rfl⟩ := split39 m h
  kernel_rfl
theorem built_tx2 (m : List Value) (h : m.length = 39) (A : Option Addr) (n c : Nat) : Try.prog.built 33 [(1, .agg m.toArray), (0, .slice A n c)] = some (.slice A n c :: m).toArray := by
  obtain ⟨f, rfl⟩ := split39 m h
  kernel_rfl

theorem wp_make_full {P : Program} {w : World} {o : Oper} {a : Act} {K : Act → World → Prop} {Q : Exit → Act → World → Prop}
    (l c : Operand) (t : TypeId) (hop : o.op = Op.makeSlice t l c)
    (base : Nat) (e : TypeId) (i : TypeInfo) (z : Value) (size : Nat) (h1 : P.underlying t = some (.slice e)) (h2 : P.info? e = some i) (h3 : i.zero = some z) (h4 : i.size = size)
    (kl kc : IntKind) (n : Nat) (hl : a.eval l = .int kl n) (hc : a.eval c = .int kc n) (b2 : i.bytes * n ≤ 281474976710656) (b3 : n ≤ maxLen) (b4 : base ≤ w.heap.size)
    (hK : ∀ w', w'.ownsRow base e size (.slice (some ⟨w.heap.size, 0, none⟩) n n) n (madeCells z.cells (n * size)).toList → w.grownBy w' none → K (a.put o.dst (.slice (some ⟨w.heap.size, 0, none⟩) n n)) w') : o.wp P a w K Q := by
  obtain ⟨w', hrun, r1, r2⟩ := run_make_full (P := P) w base t e i z size h1 h2 h3 h4 kl kc n b2 b3 b4
  unfold Oper.wp
  simp [execOp, hop, hl, hc, hrun, Result.andThen]
  exact hK w' r1 r2

set_option maxRecDepth 100000 in
set_option maxHeartbeats 4000000 in
theorem lives4 (w : World) : Calls Try.prog 9 #[] w fun e w' => e = .returned (.bool true) ∧ Below w.heap.size w w' := by
  have hk0 := Row.new w 58 (bv lKey)
  have HK0 := Lib.hid hk0
  have ez : (w.alloc (.cells (bv lKey).toArray 58)).heap.size = w.heap.size + 1 := by simp
  obtain ⟨mc, hmc⟩ : ∃ mc, mc = Raw.cells (lRaw w.heap.size) lMsg := ⟨_, rfl⟩
  have HMC := Lib.hid hmc
  have HMO := Lib.hid (show ∀ u ∈ mc, u.oneCell' = true by rw [hmc]; exact cells_one)
  have HML := Lib.hid (show mc.length = 39 by rw [hmc]; exact cells_len rfl)
  have HSM := Lib.hid (show (Try.prog.info? 31).map (·.size) = some mc.length by rw [hmc, size_msg, cells_len rfl])
  clear hk0 hmc
  go_enter Try.func9, Try.ntmps9
  go_upto_region 2 with (first
    | ((with_reducible show wpList _ _ _ ({ dst := some 14, op := Op.buildSlice _ _ _, type := _, pos := _, after := _, guard := _ } :: _) _ _); go_must (refine wpList_buildOne rfl 25 58 (.tmp 13) rfl (bv lKey) _ 32 32 Try.underlying25 info_key (by kernel_rfl) (by omega) (by omega) (by rfl) ?_ ?_; (go_simp; kernel_rfl)))
    | ((with_reducible show wpList _ _ _ ({ dst := none, op := Op.store 31 _ _, type := _, pos := _, after := _, guard := _ } :: _) _ _); go_must (refine wpList_store_new rfl 31 (.tmp 1) (.tmp 15) rfl mc HSM.out HMO.out (by rw [HML.out]; rfl) ?_ ?_ ?_; go_simp; (rw [HMC.out]; go_simp; kernel_rfl); intro w2 hr2 hb2 hz2)))
  rw [ez] at hr2 hb2 hz2
  have K2 : Hid (Row w2 w.heap.size 58 (bv lKey)) := Lib.hid (HK0.out.below hb2 (by omega))
  have R2 := Lib.hid hr2
  have B2 := Lib.hid (((Below.refl w.heap.size w).alloc (Nat.le_refl _) (.cells (bv lKey).toArray 58)).trans (hb2.mono (Nat.le_succ _)))
  have Z2 := Lib.hid hz2
  have HP := Lib.hid (putTx ⟨none, 0, 0, lRaw w.heap.size⟩ lTx w2.heap.size w2 (l_tin K2.out) (Nat.le_refl _) (by simp [lTx]) (by decide))
  rw [show TRaw.cells ⟨none, 0, 0, lRaw w.heap.size⟩ lTx = .slice none 0 0 :: mc by rw [HMC.out]; rfl] at HP
  clear hr2 hb2 ez HK0 hz2
  go_wp2_with (first
    | ((with_reducible show wpList _ _ _ ({ dst := some 17, op := Op.load _ _, type := _, pos := _, after := _, guard := _ } :: _) _ _); go_must (refine wpList_load_whole rfl 31 (.tmp 1) rfl (w.heap.size + 1) 31 mc _ Try.underlying31 rfl HSM.out R2.out ?_ ?_; go_simp))
    | ((with_reducible show wpList _ _ _ ({ dst := some 18, op := Op.build _ _, type := _, pos := _, after := _, guard := _ } :: _) _ _); go_must (refine wpList_plain rfl fun K hK => wp_built _ _ _ rfl (by simp only [List.map_toArray, List.map_cons, List.map_nil]; exact built_tx1 mc HML.out) (hK _ _ ?_))))
  refine HP.out.mono ?_
  rintro e w3 (⟨hf, _⟩ | ⟨_, hlong, _⟩ | ⟨_, _, ⟨v, rfl, ho⟩, hb3⟩)
  · exact absurd l_fits hf
  · rw [l_enc, l_len] at hlong
    omega
  rw [l_enc] at ho
  obtain ⟨A, c, e1⟩ := ho.form
  have e2 : v = .slice A 70 c := e1
  subst e2
  have hcap : 70 ≤ c ∧ c ≤ maxLen := own_caps ho
  have hs3 : Sees w3 w3.heap.size A 70 (bv lWant) := ho.sees
  have O3 := Lib.hid ho
  have HVO := Lib.hid (show ∀ k, (Value.slice A 70 c).ownBlock = some k → w2.heap.size ≤ k ∧ k < w3.heap.size from ho.lt)
  have S3 := Lib.hid hs3
  have K3 := Lib.hid (K2.out.below hb3 K2.out.lt)
  have R3 := Lib.hid (R2.out.below hb3 R2.out.lt)
  have B3 := Lib.hid (B2.out.trans (hb3.mono B2.out.size))
  have Z3 := Lib.hid (show w2.heap.size ≤ w3.heap.size from hb3.size)
  have HW := Lib.hid (whole_ A 70 c w3.heap.size lWant w3 hs3 (Nat.le_refl _) hcap.1 hcap.2 l_bytes)
  clear ho e1 hs3 hb3 HP K2 R2 B2
  go_wp2_with fail
  refine HW.out.mono ?_
  rintro e w4 (⟨x, s, lo, hp, rfl, hlo, hv, hb4⟩ | ⟨x, hp, rfl, hb4⟩)
  rotate_left
  · rw [l_whole] at hp; cases hp
  obtain rfl : lTx = x := by rw [l_whole] at hp; cases hp; rfl
  obtain ⟨SA, sn, sc, q⟩ := s
  obtain rfl : sn = 0 := hv.in_.sigs.len.symm
  have htl : (TRaw.cells ⟨SA, 0, sc, q⟩ lTx).length = 40 := tcells_len rfl
  have HTSZ := Lib.hid (show (Try.prog.info? 33).map (·.size) = some (TRaw.cells ⟨SA, 0, sc, q⟩ lTx).length by rw [size_tx, htl])
  have HTL := Lib.hid htl
  have HTO := Lib.hid (tcells_one (s := ⟨SA, 0, sc, q⟩) (x := lTx))
  have HT0 := Lib.hid (show (TRaw.cells ⟨SA, 0, sc, q⟩ lTx)[0]? = some (.slice SA 0 sc) from rfl)
  have HTM := Lib.hid (tcells_m (s := ⟨SA, 0, sc, q⟩) (x := lTx))
  have HSQ := Lib.hid (show (Try.prog.info? 31).map (·.size) = some (q.cells lMsg).length by rw [size_msg, cells_len rfl])
  have HV4 := Lib.hid hv
  have O4 := Lib.hid (O3.out.below hb4)
  have S4 := Lib.hid (S3.out.below hb4)
  have K4 := Lib.hid (K3.out.below hb4 K3.out.lt)
  have R4 := Lib.hid (R3.out.below hb4 R3.out.lt)
  have B4 := Lib.hid (B3.out.trans (hb4.mono B3.out.size))
  have Z4 := Lib.hid (show w3.heap.size ≤ w4.heap.size from hb4.size)
  generalize TRaw.cells ⟨SA, 0, sc, q⟩ lTx = tc at *
  have HLO := Lib.hid hlo
  clear hp hv hlo hb4 htl HW O3 S3 K3 R3 B3
  go_upto_region 4 with (((with_reducible show wpList _ _ _ ({ dst := none, op := Op.store 33 _ _, type := _, pos := _, after := _, guard := _ } :: _) _ _); go_must (refine wpList_store_new rfl 33 (.tmp 4) (.tmp 25) rfl tc HTSZ.out HTO.out (by rw [HTL.out]; rfl) ?_ ?_ ?_; go_simp; go_simp; intro w5 hr5 hb5 hz5)))
  have R5x := Lib.hid hr5
  have HX5 : Hid (TxV w5 lo w4.heap.size ⟨SA, 0, sc, q⟩ lTx) := Lib.hid (HV4.out.stay hb5.size fun k a b => hb5.block k b)
  have O5 := Lib.hid (O4.out.below hb5)
  have S5 := Lib.hid (S4.out.below (hb5.mono Z4.out))
  have K5 := Lib.hid (K4.out.below hb5 K4.out.lt)
  have R5 := Lib.hid (R4.out.below hb5 R4.out.lt)
  have B5 := Lib.hid (B4.out.trans (hb5.mono B4.out.size))
  have Z5 := Lib.hid (show w4.heap.size < w5.heap.size by omega)
  have hl1 := Row.new w5 5 (bv [0])
  have HL1 := Lib.hid (show Sees (w5.alloc (.cells (bv [0]).toArray 5)) (w5.heap.size + 1) (some ⟨w5.heap.size, 0, none⟩) 1 (bv [0]) from hl1.sees0.more (by simp))
  have hba := (Below.refl w5.heap.size w5).alloc (Nat.le_refl _) (.cells (bv [0]).toArray 5)
  have HBA := Lib.hid hba
  have O5a := Lib.hid (O5.out.below hba)
  have HL70 := Lib.hid l_len
  clear hr5 hb5 hz5 hl1 hba O4 S4 K4 R4 B4 HV4 O5
  go_wp2_with (first
    | (at_builtin; (with_reducible show wpList _ _ _ ({ dst := some 30, op := _, type := _, pos := _, after := _, guard := _ } :: _) _ _); go_must (refine wpList_addBK (w := w5.alloc (.cells (bv [0]).toArray 5)) rfl (.tmp 28) (.tmp 29) 37 rfl w2.heap.size Try.underlying37 info_u8 A c lWant ?_ O5a.out (w5.heap.size + 1) (some ⟨w5.heap.size, 0, none⟩) 1 1 [0] ?_ HL1.out ?_ ?_ ?_; (go_simp; rfl); go_simp; (have := HBA.out.size; have := Z5.out; have := Z4.out; have := Z3.out; omega); (rw [List.length_append, HL70.out]; simp); intro v6 w6 ho6 hg6 hk6; have O6 := Lib.hid ho6; have S6 := Lib.hid hk6; have G6 := Lib.hid hg6; obtain ⟨A6, c6, e6⟩ := ho6.form; clear ho6 hg6 hk6)))
  have e7 : v6 = .slice A6 71 c6 := e6
  subst e7
  have hzs : w2.heap.size ≤ w5.heap.size := by have := Z5.out; have := Z4.out; have := Z3.out; omega
  have hgb : Below w2.heap.size w5 w6 := (HBA.out.mono hzs).trans (G6.out.belowB O5a.out (Nat.le_trans hzs HBA.out.size))
  have K6 := Lib.hid (K5.out.below hgb (by have := Z2.out; omega))
  have R6 := Lib.hid (R5.out.below hgb (by have := Z2.out; omega))
  have B6 := Lib.hid (B5.out.trans (hgb.mono (by have := Z2.out; omega)))
  have R6x := Lib.hid (G6.out.row (R5x.out.alloc (.cells (bv [0]).toArray 5)) (fun e => by have := HVO.out _ e.symm; have := Z4.out; omega))
  have HX6 : Hid (TxV w6 lo w4.heap.size ⟨SA, 0, sc, q⟩ lTx) := Lib.hid (HX5.out.stay (Nat.le_trans HBA.out.size G6.out.size) fun k a b => by
    have h1 := Z5.out
    have h2 := HLO.out
    exact (G6.out.grown.block k (by have := HBA.out.size; omega) (fun e => by have := HVO.out _ e.symm; omega)).trans (HBA.out.block k (by omega)))
  have hcap6 := own_caps O6.out
  have hs6 : Sees w6 w6.heap.size A6 71 (bv (lWant ++ [0])) := O6.out.sees
  have Z6 := Lib.hid (show w5.heap.size < w6.heap.size by have := G6.out.size; simp at this; omega)
  have HW := Lib.hid (whole_ A6 71 c6 w6.heap.size (lWant ++ [0]) w6 hs6 (Nat.le_refl _) hcap6.1 hcap6.2 (l_bytes.app (by intro z hz; simp at hz; subst hz; constructor <;> decide)))
  clear e6 hcap6 hs6 G6 O6 O5a HBA HL1 K5 R5 B5 R5x HX5 hgb S5
  refine HW.out.mono ?_
  rintro e w7 (⟨x, s, lo7, hp, rfl, hlo, hv, hb7⟩ | ⟨x, hp, rfl, hb7⟩)
  · rw [l_more] at hp; cases hp
  obtain rfl : x = 4 := by rw [l_more] at hp; cases hp; rfl
  have S7 := Lib.hid (S6.out.below hb7)
  have K7 := Lib.hid (K6.out.below hb7 K6.out.lt)
  have R7 := Lib.hid (R6.out.below hb7 R6.out.lt)
  have B7 := Lib.hid (B6.out.trans (hb7.mono B6.out.size))
  have R7x := Lib.hid (R6x.out.below hb7 R6x.out.lt)
  have HX7 : Hid (TxV w7 lo w4.heap.size ⟨SA, 0, sc, q⟩ lTx) := Lib.hid (HX6.out.stay hb7.size fun k a b => hb7.block k (by have := Z6.out; have := Z5.out; omega))
  have Z7 := Lib.hid (show w6.heap.size ≤ w7.heap.size from hb7.size)
  clear hp hb7 HW S6 K6 R6 B6 R6x HX6
  obtain ⟨i0, hi, hz0, hz1, hz2⟩ := info_parts info_u8
  go_wp2_with (first
    | ((with_reducible show wpList _ _ _ ({ dst := none, op := Op.store 33 (.tmp 6) _, type := _, pos := _, after := _, guard := _ } :: _) _ _); go_must (refine wpList_store_new rfl 33 (.tmp 6) (.tmp 32) rfl tzero size_tz tzero_one rfl ?_ ?_ ?_; go_simp; go_simp; intro w8 hr8 hb8 hz8))
    | (at_make; (with_reducible show wpList _ _ _ ({ dst := some 35, op := _, type := _, pos := _, after := _, guard := _ } :: _) _ _); go_must (refine wpList_make_full _ rfl (.const (.int .i64 1233)) (.const (.int .i64 1233)) 37 rfl w8.heap.size 5 i0 _ 1 Try.underlying37 hi hz0 hz1 .i64 .i64 1233 1233 1233 rfl rfl rfl rfl (by rw [hz2]; omega) (by unfold maxLen; omega) (Nat.le_refl _) ?_; intro w9 hown hgrow; rw [made_bytes] at hown; have hrow := Row.of_own hown; have hb9 := (Below.refl w8.heap.size w8).grown hgrow (Nat.le_refl _) (fun k hk => by cases hk); clear hown hgrow)))
  have hs9 := hrow.sees0
  rw [bv_length, List.length_replicate] at hs9
  have e8 : w8.heap.size = w7.heap.size + 1 := hz8
  have hbw := hb8.trans (hb9.mono (by omega))
  rw [e8] at hs9
  have HW := Lib.hid (whole_ (some ⟨w7.heap.size + 1, 0, none⟩) 1233 1233 w9.heap.size (List.replicate 1233 0) w9 hs9 (Nat.le_refl _) (Nat.le_refl _) (by unfold maxLen; omega) (fun z hz => by rw [List.eq_of_mem_replicate hz]; constructor <;> decide))
  have S9 := Lib.hid (S7.out.below (hbw.mono Z7.out))
  have K9 := Lib.hid (K7.out.below hbw K7.out.lt)
  have R9 := Lib.hid (R7.out.below hbw R7.out.lt)
  have B9 := Lib.hid (B7.out.trans (hbw.mono B7.out.size))
  have R9x := Lib.hid (R7x.out.below hbw R7x.out.lt)
  have HX9 : Hid (TxV w9 lo w4.heap.size ⟨SA, 0, sc, q⟩ lTx) := Lib.hid (HX7.out.stay hbw.size fun k a b => hbw.block k (by have := Z7.out; have := Z6.out; have := Z5.out; omega))
  have Z9 := Lib.hid (show w7.heap.size ≤ w9.heap.size from hbw.size)
  clear hs9 hrow hb8 hb9 hr8 hbw S7 K7 R7 B7 R7x HX7 hz8 e8 hi hz0 hz1 hz2
  refine HW.out.mono ?_
  rintro e w10 (⟨x, s, lo7, hp, rfl, hlo, hv, hb10⟩ | ⟨x, hp, rfl, hb10⟩)
  · rw [l_big 1233 (by omega)] at hp; cases hp
  obtain rfl : x = 3 := by rw [l_big 1233 (by omega)] at hp; cases hp; rfl
  have S10 := Lib.hid (S9.out.below (hb10.mono (by have := Z9.out; have := Z7.out; omega)))
  have K10 := Lib.hid (K9.out.below hb10 K9.out.lt)
  have R10 := Lib.hid (R9.out.below hb10 R9.out.lt)
  have B10 := Lib.hid (B9.out.trans (hb10.mono B9.out.size))
  have R10x := Lib.hid (R9x.out.below hb10 R9x.out.lt)
  have Z10 := Lib.hid (show w9.heap.size ≤ w10.heap.size from hb10.size)
  have HX10 : Hid (TxV w10 lo w4.heap.size ⟨SA, 0, sc, q⟩ lTx) := Lib.hid (HX9.out.stay hb10.size fun k a b => hb10.block k (by have := Z9.out; have := Z7.out; have := Z6.out; have := Z5.out; omega))
  clear hp hb10 HW S9 K9 R9 B9 R9x HX9
  go_upto_region 6 with (first
    | ((with_reducible show wpList _ _ _ ({ dst := none, op := Op.store 33 (.tmp 8) _, type := _, pos := _, after := _, guard := _ } :: _) _ _); go_must (refine wpList_store_new rfl 33 (.tmp 8) (.tmp 37) rfl tzero size_tz tzero_one rfl ?_ ?_ ?_; go_simp; go_simp; intro w11 hr11 hb11 hz11)))
  obtain ⟨V, hV⟩ : ∃ V, V = w11.drew := ⟨_, rfl⟩
  have SV : Hid (Sees V w6.heap.size A 70 (bv lWant)) := Lib.hid (by rw [hV]; exact (S10.out.below (hb11.mono (by have := Z10.out; have := Z9.out; have := Z7.out; omega))).drew)
  have KV : Hid (Row V w.heap.size 58 (bv lKey)) := Lib.hid (by rw [hV]; exact (K10.out.below hb11 K10.out.lt).drew)
  have RV : Hid (Row V (w.heap.size + 1) 31 mc) := Lib.hid (by rw [hV]; exact (R10.out.below hb11 R10.out.lt).drew)
  have BV : Hid (Below w.heap.size w V) := Lib.hid (by rw [hV]; exact (B10.out.trans (hb11.mono B10.out.size)).drew)
  have RVx : Hid (Row V w4.heap.size 33 tc) := Lib.hid (by rw [hV]; exact (R10x.out.below hb11 R10x.out.lt).drew)
  have HXV : Hid (TxV V lo w4.heap.size ⟨SA, 0, sc, q⟩ lTx) := Lib.hid (by rw [hV]; exact HX10.out.stay hb11.size fun k a b => hb11.block k (by have := Z10.out; have := Z9.out; have := Z7.out; have := Z6.out; have := Z5.out; omega))
  have ZV : Hid (w10.heap.size ≤ V.heap.size) := Lib.hid (by rw [hV]; exact hb11.size)
  have HS : Hid (V.rangeAt (w.heap.size + 1) 0 mc) := Lib.hid fun j u hu => by rw [RV.out.cell, Nat.zero_add]; exact hu
  refine wp_region_held_drew (S := fun V => V.rangeAt (w.heap.size + 1) 0 mc) (by kernel_rfl) (by rw [← hV]; exact HS.out) (fun _ => ?_)
  rw [← hV]
  clear hV hr11 hb11 hz11 S10 K10 R10 B10 R10x HX10
  obtain ⟨i1, hi, hz0, hz1, hz2⟩ := info_parts info_sig
  refine takeL (i := 0) (v := .agg mc.toArray) rfl (by kernel_rfl) (by kernel_rfl) (by kernel_rfl) (fun _ _ _ h => h) (yieldsIf_load_mid (by rfl) 31 (.tmp 1) rfl (w.heap.size + 1) 0 (by go_simp) mc _ (fun w hw => hw) Try.underlying31 rfl HSM.out) HS.out ?_
  try simp only [Act.put, List.setIfInBounds_toArray, List.set_cons_zero, List.set_cons_succ]
  refine readyL (i := 1) rfl (by kernel_rfl) (by kernel_rfl) fun K hK => ?_
  refine wp_make_full (.const (.int .i64 19)) (.const (.int .i64 19)) 22 rfl V.heap.size 62 i1 _ 64 Try.underlying22 hi hz0 hz1 .i64 .i64 19 rfl rfl (by rw [hz2]; omega) (by unfold maxLen; omega) (Nat.le_refl _) ?_
  intro w12 hown hgrow
  rw [made19] at hown
  have hrow := Row.of_ownN hown
  have hb12 := (Below.refl V.heap.size V).grown hgrow (Nat.le_refl _) (fun k hk => by cases hk)
  have K12 := Lib.hid (KV.out.below hb12 KV.out.lt)
  have R12 := Lib.hid (RV.out.below hb12 RV.out.lt)
  have G12 := Lib.hid hrow
  have B12 := Lib.hid hb12
  have HS12 : Hid (w12.rangeAt (w.heap.size + 1) 0 mc) := Lib.hid fun j u hu => by rw [R12.out.cell, Nat.zero_add]; exact hu
  clear hown hgrow hrow hb12 hi hz0 hz1 hz2
  refine hK.out _ _ HS12.out ?_
  clear hK K
  try simp only [Act.put, List.setIfInBounds_toArray, List.set_cons_zero, List.set_cons_succ]
  refine takeL (i := 2) (v := .agg (Value.slice (some ⟨V.heap.size, 0, none⟩) 19 19 :: mc).toArray) rfl (by kernel_rfl) (by kernel_rfl) (by kernel_rfl) (fun _ _ _ h => h) (Or.inl ⟨by rfl, fun w _ => ?_⟩) HS12.out ?_
  · exact exec_built w _ _ _ rfl (by simp only [List.map_toArray, List.map_cons, List.map_nil]; exact built_tx2 mc HML.out _ _ _)
  try simp only [Act.put, List.setIfInBounds_toArray, List.set_cons_zero, List.set_cons_succ]
  have HP := Lib.hid (putTx ⟨some ⟨V.heap.size, 0, none⟩, 19, 19, lRaw w.heap.size⟩ lTx19 w12.heap.size w12 (l_in19 K12.out G12.out) (Nat.le_refl _) (by simp [lTx19]) (by decide))
  rw [show TRaw.cells ⟨some ⟨V.heap.size, 0, none⟩, 19, 19, lRaw w.heap.size⟩ lTx19 = .slice (some ⟨V.heap.size, 0, none⟩) 19 19 :: mc by rw [HMC.out]; rfl] at HP
  refine readyL (i := 3) rfl (by kernel_rfl) (by kernel_rfl) fun K hK => ?_
  go_simp
  refine HP.out.mono ?_
  rintro e w13 (⟨hf, _⟩ | ⟨_, _, rfl, hb13⟩ | ⟨_, hlong, _⟩)
  · exact absurd l_fits hf
  rotate_left
  · rw [l_enc19] at hlong
    omega
  simp only []
  have bV13 := B12.out.trans (hb13.mono B12.out.size)
  have R13 := Lib.hid (R12.out.below hb13 R12.out.lt)
  have HS13 : Hid (w13.rangeAt (w.heap.size + 1) 0 mc) := Lib.hid fun j u hu => by rw [R13.out.cell, Nat.zero_add]; exact hu
  have K13 := Lib.hid (K12.out.below hb13 K12.out.lt)
  have S13 := Lib.hid (SV.out.below (bV13.mono (by have := ZV.out; have := Z10.out; have := Z9.out; have := Z7.out; omega)))
  have B13 := Lib.hid (BV.out.trans (bV13.mono BV.out.size))
  have R13x := Lib.hid (RVx.out.below bV13 RVx.out.lt)
  have HX13 : Hid (TxV w13 lo w4.heap.size ⟨SA, 0, sc, q⟩ lTx) := Lib.hid (HXV.out.stay bV13.size fun k a b => bV13.block k (by have := ZV.out; have := Z10.out; have := Z9.out; have := Z7.out; have := Z6.out; have := Z5.out; omega))
  have Z13 := Lib.hid (show V.heap.size ≤ w13.heap.size from bV13.size)
  clear bV13 hb13 HP
  refine hK.out _ _ HS13.out ?_
  clear hK K
  try simp only [Act.put, List.setIfInBounds_toArray, List.set_cons_zero, List.set_cons_succ]
  refine takeL (i := 4) (v := ?_) rfl (by kernel_rfl) (by kernel_rfl) (by kernel_rfl) (fun _ _ _ h => h) (Or.inl ⟨by rfl, ?_⟩) HS13.out ?_
  rotate_left
  · intro w hw
    try dsimp only at hw
    go_simp
    try with_reducible rfl
  try simp only [Act.put, List.setIfInBounds_toArray, List.set_cons_zero, List.set_cons_succ]
  refine takeL (i := 5) (v := ?_) rfl (by kernel_rfl) (by kernel_rfl) (by kernel_rfl) (fun _ _ _ h => h) (Or.inl ⟨by rfl, ?_⟩) HS13.out ?_
  rotate_left
  · intro w hw
    try dsimp only at hw
    go_simp
    try with_reducible rfl
  try simp only [Act.put, List.setIfInBounds_toArray, List.set_cons_zero, List.set_cons_succ]
  refine takeL (i := 6) (v := ?_) rfl (by kernel_rfl) (by kernel_rfl) (by kernel_rfl) (fun _ _ _ h => h) (Or.inl ⟨by rfl, ?_⟩) HS13.out ?_
  rotate_left
  · intro w hw
    try dsimp only at hw
    go_simp
    try with_reducible rfl
  try simp only [Act.put, List.setIfInBounds_toArray, List.set_cons_zero, List.set_cons_succ]
  refine takeL (i := 7) (v := ?_) rfl (by kernel_rfl) (by kernel_rfl) (by kernel_rfl) (fun _ _ _ h => h) (Or.inl ⟨by rfl, ?_⟩) HS13.out ?_
  rotate_left
  · intro w hw
    try dsimp only at hw
    go_simp
    try with_reducible rfl
  try simp only [Act.put, List.setIfInBounds_toArray, List.set_cons_zero, List.set_cons_succ]
  refine takeL (i := 8) (v := ?_) rfl (by kernel_rfl) (by kernel_rfl) (by kernel_rfl) (fun _ _ _ h => h) (Or.inl ⟨by rfl, ?_⟩) HS13.out ?_
  rotate_left
  · intro w hw
    try dsimp only at hw
    go_simp
    try with_reducible rfl
  try simp only [Act.put, List.setIfInBounds_toArray, List.set_cons_zero, List.set_cons_succ]
  refine wpAnyH_done (by kernel_rfl) ?_ _
  have hz70 : (bv lWant)[0]? = some (.int .u8 0) := rfl
  obtain ⟨ad, rfl, hadb, hadc⟩ := S13.out.cell 0 _ hz70
  rw [show ad.add 0 = ad by simp [Addr.add]] at hadc
  have x0 : w13.cell? ⟨w4.heap.size, 0, none⟩ = some (.slice SA 0 sc) := (R13x.out.cell 0).trans HT0.out
  have HSA := Lib.hid (same_msg q (lRaw w.heap.size) lMsg w4.heap.size w13.heap.size w13 HX13.out.in_.m (by have := R13x.out.lt; omega) (l_in K13.out) (Nat.le_refl _))
  rw [show (lRaw w.heap.size).cells lMsg = mc from HMC.out.symm] at HSA
  go_wp2_with (first
    | ((with_reducible show wpList _ _ _ ({ dst := some 65, op := Op.load _ _, type := _, pos := _, after := _, guard := _ } :: _) _ _); go_must (refine wpList_load_atg (by kernel_rfl) 31 (.tmp 64) rfl ⟨w4.heap.size, 1, none⟩ (q.cells lMsg) _ Try.underlying31 rfl HSQ.out (fun j v hv => by rw [addr_row, R13x.out.cell, HTM.out]; exact hv) ?_ ?_; go_simp))
    | ((with_reducible show wpList _ _ _ ({ dst := some 66, op := Op.load _ _, type := _, pos := _, after := _, guard := _ } :: _) _ _); go_must (refine wpList_load_atg (by kernel_rfl) 31 (.tmp 1) rfl ⟨w.heap.size + 1, 0, none⟩ mc _ Try.underlying31 rfl HSM.out (fun j v hv => by rw [addr_row, R13.out.cell, Nat.zero_add]; exact hv) ?_ ?_; go_simp)))
  refine HSA.out.mono ?_
  rintro e w14 ⟨rfl, hb14⟩
  have x0 : w14.cell? ⟨w4.heap.size, 0, none⟩ = some (.slice SA 0 sc) := ((R13x.out.below hb14 R13x.out.lt).cell 0).trans HT0.out
  have B14 := Lib.hid (B13.out.trans (hb14.mono B13.out.size))
  clear hb14
  go_wp2_with fail
  go_ret
  exact ⟨rfl, B14.out⟩
end Go.Proofs.Ytolijdbdpnbchaa

namespace Go.Proofs.Ytolijdbdpnbchaa
open Go.RowKit
set_option linter.unusedVariables false

/-- the call leaves a list of its own -/
def OwnRet (w : World) (t : TypeId) (n : Nat) (ys : List Int) (e : Ending) (w' : World) : Prop :=
  ∃ A c, e = .returned (.slice A n c) ∧ w'.ownsRow w.heap.size t 1 (.slice A n c) n (bv ys) ∧ Below w.heap.size w w'

theorem OwnRet.mk {w w' : World} {t : TypeId} {n : Nat} {ys : List Int} {v : Value} (h : w'.ownsRow w.heap.size t 1 v n (bv ys)) (hb : Below w.heap.size w w') : OwnRet w t n ys (.returned v) w' := by
  obtain ⟨A, c, rfl⟩ := own_form h
  exact ⟨A, c, rfl, h, hb⟩

set_option maxHeartbeats 400000 in
theorem refShort1 (x : Int) (w : World) (h0 : 0 ≤ x) (h1 : x < 128) : Calls Try.prog 33 #[.int .i64 x] w (OwnRet w 5 1 [x]) := by
  go_enter Try.func33, Try.ntmps33
  go_wp2_with fail
  go_ret
  refine OwnRet.mk ?_ ?_
  · exact (Row.new w 5 (bv [x])).own_all (Nat.le_refl _) (by simp [bv, cv, maxLen])
  · exact (Below.refl _ _).alloc (Nat.le_refl _) _

theorem refShort_step (x : Int) (w : World) (m : Nat) (ys : List Int) (h0 : 128 ≤ x) (h1 : x ≤ 65535) (hm : m ≤ 8)
    (H : ∀ w, Hid (Calls Try.prog 33 #[.int .i64 (x / 128)] w (OwnRet w 5 m ys))) :
    Calls Try.prog 33 #[.int .i64 x] w (OwnRet w 5 (1 + m) ((x % 128 + 128) :: ys)) := by
  go_enter Try.func33, Try.ntmps33
  go_wp2_with fail
  refine (H _).out.mono ?_
  rintro e w1 ⟨A, c, rfl, hown, hb⟩
  have hown0 := (((Row.new w 5 (bv [x % 128 + 128])).own_all (base := w.heap.size) (Nat.le_refl _) (by simp [bv, cv, maxLen])))
  have hb0 : Below w.heap.size w (w.alloc (.cells (bv [x % 128 + 128]).toArray 5)) := (Below.refl _ _).alloc (Nat.le_refl _) _
  have hrow1 := (Row.new w 5 (bv [x % 128 + 128])).below hb (by simp)
  have hown1 := hrow1.own_all (base := w.heap.size) (Nat.le_refl _) (by simp [bv, cv, maxLen])
  have hb1 := hb0.trans (hb.mono (by simp))
  have hsees := Sees.of_own hown
  have hone := bv_one ys
  have hsz := hb1.size
  clear hrow1 hown hb0 hown0
  go_wp2_with (at_builtin; (obtain ⟨i0, hi, hz0, hz1, hz2⟩ := info_parts info_u8); go_must (refine wpList_append_sees rfl (.tmp 12) (.tmp 15) 37 rfl w.heap.size 5 i0 _ 1 Try.underlying37 hi hz0 hz1 hz2 rfl _ 1 _ rfl hown1 _ A m c _ rfl hsees hone ?_ ?_ hsz ?_))
  case refine_1 => unfold maxLen; omega
  case refine_2 => omega
  intro v' w2 hown2 hg2 _
  go_wp2
  go_ret
  exact OwnRet.mk (by simpa [bv, cv] using hown2) (below_append hb1 hown1 (Nat.le_refl _) hsz hg2)

theorem refShort (x : Int) (w : World) (h0 : 0 ≤ x) (h1 : x ≤ 65535) : Calls Try.prog 33 #[.int .i64 x] w (OwnRet w 5 (short x).length (short x)) := by
  have two : ∀ (x : Int) (w : World), 128 ≤ x → x < 16384 → Calls Try.prog 33 #[.int .i64 x] w (OwnRet w 5 2 [x % 128 + 128, x / 128]) := fun x w h0 h1 =>
    refShort_step x w 1 [x / 128] h0 (by omega) (by omega) fun w => refShort1 (x / 128) w (by omega) (by omega)
  by_cases h : x < 128
  · have e : short x = [x] := by simp [short, h]
    rw [e]
    exact refShort1 x w h0 h
  · by_cases h' : x < 16384
    · have e : short x = [x % 128 + 128, x / 128] := by simp [short, h, h']
      rw [e]
      exact two x w (by omega) h'
    · have e : short x = [x % 128 + 128, x / 128 % 128 + 128, x / 16384] := by simp [short, h, h']
      have e2 : x / 128 / 128 = x / 16384 := by omega
      rw [e, ← e2]
      exact refShort_step x w 2 [x / 128 % 128 + 128, x / 128 / 128] (by omega) h1 (by omega) fun w => two (x / 128) w (by omega) (by omega)

theorem below_old {B : Nat} {w w1 w2 : World} (h : Below B w w1) (h2 : Below w1.heap.size w1 w2) (hB : B ≤ w1.heap.size) : Below B w w2 := h.trans (h2.mono hB)

theorem own_keep {w w' : World} {base : Nat} {e : TypeId} {v : Value} {n : Nat} {xs : List Value} (h : w.ownsRow base e 1 v n xs) (hb : Below w.heap.size w w') : w'.ownsRow base e 1 v n xs :=
  h.kept (row := none) ⟨hb.os, hb.tape, hb.output, hb.size, fun k hk _ => hb.block k hk⟩ (by cases v.ownBlock <;> simp)

end Go.Proofs.Ytolijdbdpnbchaa

namespace Go.Proofs.Ytolijdbdpnbchaa
open Go.RowKit
set_option linter.unusedVariables false

theorem refShortB (x : Nat) (w : World) (hx : x ≤ 65535) : Calls Try.prog 33 #[.int .i64 x] w fun e w' => ∃ A c, e = .returned (.slice A (short x).length c) ∧ OwnB w' w.heap.size (.slice A (short x).length c) (short x) ∧ Below w.heap.size w w' := by
  refine (refShort x w (by omega) (by omega)).mono ?_
  rintro e w' ⟨A, c, rfl, ho, hb⟩
  exact ⟨A, c, rfl, ho, hb⟩

set_option maxHeartbeats 400000 in
theorem refList_ (base B : Nat) (v u : Value) (xs l : List Int) (w : World) (hown : OwnB w base v xs) (hbase : base ≤ w.heap.size) (hu : BytesIn w B u l) (hB : B ≤ base) (hx : l.length ≤ 65535) (hn : xs.length ≤ 1099511500000) :
    Calls Try.prog 57 #[v, u] w (Adds w base v (xs ++ encL l)) := by
  obtain ⟨A, c, rfl, hs, _, _⟩ := hu.is
  obtain ⟨A0, c0, rfl⟩ := hown.form
  have HP := fun w => Lib.hid (refShortB l.length w hx)
  have HO := Lib.hid hown
  clear hown hu
  go_enter Try.func57, Try.ntmps57
  go_wp2_with fail
  refine (HP _).out.mono ?_
  rintro e w1 ⟨A1, c1, rfl, hown1, hb1⟩
  have ho1 := HO.out.below hb1
  have hz1 := hb1.size
  have hss := hown1.sees
  have hs1 := hs.below (hb1.mono (Nat.le_trans hB hbase))
  have hl := short_len3 l.length
  have HS := Lib.hid hs1
  clear hown1 hs1
  go_wp2_with (first
    | (at_builtin; with_reducible show wpList _ _ _ ({ dst := some 9, op := _, type := _, pos := _, after := _, guard := _ } :: _) _ _; go_must (refine wpList_addB rfl (.tmp 5) (.tmp 8) 37 rfl base Try.underlying37 info_u8 _ xs ?_ ho1 _ _ _ c1 (short l.length) ?_ hss (by omega) (by simp only [List.length_append]; omega) ?_; go_simp; go_simp; intro v2 w2 ho2 hg2; have hb2 := hg2.belowB ho1 (by omega); have hs2 := HS.out.below (hb2.mono hB); have hz2 := hb2.size; clear hss))
    | (at_builtin; with_reducible show wpList _ _ _ ({ dst := some 11, op := _, type := _, pos := _, after := _, guard := _ } :: _) _ _; go_must (refine wpList_addB rfl (.tmp 9) (.tmp 10) 37 rfl base Try.underlying37 info_u8 v2 _ ?_ ho2 _ _ _ c l ?_ hs2 (by omega) (by simp only [List.length_append]; omega) ?_; go_simp; go_simp; intro v3 w3 ho3 hg3)))
  go_ret
  refine ⟨v3, rfl, ?_, ((Grew.of_below hb1 _).trans hg2).trans hg3⟩
  rw [encL, ← List.append_assoc]
  exact ho3

theorem FitsTo.insStep {m : LMsg} {k : Nat} {x : LIn} {b : Bool} (hx : m.ins[k]? = some x) (h : b = true ↔ FitsTo m (m.ins.take k) []) :
    (b = true ∧ x.acc.length ≤ 65535 ∧ x.dat.length ≤ 65535) ↔ FitsTo m (m.ins.take (k + 1)) [] := by
  have hf := forall_take_succ (p := fun (i : LIn) => i.acc.length ≤ 65535 ∧ i.dat.length ≤ 65535) hx
  rw [h]
  unfold FitsTo
  rw [hf]
  exact ⟨fun ⟨⟨h1, h2, h3⟩, h4⟩ => ⟨h1, ⟨h2, h4⟩, h3⟩, fun ⟨h1, ⟨h2, h4⟩, h3⟩ => ⟨⟨h1, h2, h3⟩, h4⟩⟩
theorem FitsTo.lookStep {m : LMsg} {k : Nat} {x : LLook} {b : Bool} (hx : m.looks[k]? = some x) (h : b = true ↔ FitsTo m m.ins (m.looks.take k)) :
    (b = true ∧ x.wr.length ≤ 65535 ∧ x.rd.length ≤ 65535) ↔ FitsTo m m.ins (m.looks.take (k + 1)) := by
  have hf := forall_take_succ (p := fun (i : LLook) => i.wr.length ≤ 65535 ∧ i.rd.length ≤ 65535) hx
  rw [h]
  unfold FitsTo
  rw [hf]
  exact ⟨fun ⟨⟨h1, h2, h3⟩, h4⟩ => ⟨h1, h2, h3, h4⟩, fun ⟨h1, h2, h3, h4⟩ => ⟨⟨h1, h2, h3⟩, h4⟩⟩

/-- what May leaves -/
def MayDone (m : LMsg) (w : World) (e : Ending) (w' : World) : Prop := (∃ b, e = .returned (.bool b) ∧ (b = true ↔ Fits m)) ∧ Below w.heap.size w w'

set_option maxRecDepth 100000 in
set_option maxHeartbeats 1000000 in
theorem may_ (q : Raw) (m : LMsg) (B : Nat) (w : World) (hm : MsgIn w B q m) (hB : B ≤ w.heap.size) :
    Calls Try.prog 56 #[.agg (q.cells m).toArray] w (MayDone m w) := by
  obtain ⟨KA, kn, kc, IA, n, ic, LA, ln, lc⟩ := q
  have rb := MsgRow.of (Row.new w 31 (Raw.cells ⟨KA, kn, kc, IA, n, ic, LA, ln, lc⟩ m)) hm.recent
  obtain ⟨cs, hcs⟩ : ∃ cs, cs = Raw.cells ⟨KA, kn, kc, IA, n, ic, LA, ln, lc⟩ m := ⟨_, rfl⟩
  rw [← hcs] at rb ⊢
  clear hcs
  obtain ⟨d0, d1, d2, d3, d4, d37, d38⟩ := rb
  dsimp only at d4 d37 d38
  have lk := hm.keys.len
  have li := hm.ins.len
  have ll := hm.looks.len
  have hb0 : Below w.heap.size w (w.alloc (Obj.cells cs.toArray 31)) := (Below.refl _ _).alloc (Nat.le_refl _) _
  have HM := Lib.hid (hm.below (hb0.mono hB))
  have k1 := hm.kn
  have k2 := hm.n
  have k3 := hm.ln
  dsimp only at lk li ll k1 k2 k3
  unfold maxLen at k1 k2 k3
  have HB0 := Lib.hid hb0
  clear hm hb0
  go_enter Try.func56, Try.ntmps56
  have HD := Lib.hid (And.intro d0 (And.intro d1 (And.intro d4 (And.intro d37 d38))))
  generalize hW0 : (w.alloc (Obj.cells cs.toArray 31)) = W0 at *
  clear d2 d3
  go_upto_region 1 with fail
  go_cut [3] from 6 to 21 (fun v wc => wc = W0 ∧ ∃ b, v = .bool b ∧ (b = true ↔ FitsTo m [] []))
  case first =>
    go_wp2_with fail
    all_goals
      (go_meet
       case rel =>
        refine ⟨rfl, _, rfl, ?_⟩
        unfold FitsTo
        simp
        try omega)
  case rest =>
  obtain ⟨rfl, b0, rfl, hb0⟩ := hcut
  have HF0 := Lib.hid hb0
  clear hb0
  go_wp2_with fail
  go_loopw [3, 4] (fun v i wr => ∃ (k : Nat) (b : Bool), k ≤ n ∧ i = .int .i64 k ∧ v = .bool b ∧ (b = true ↔ FitsTo m (m.ins.take k) []) ∧ wr = wc) (fun v i _ => n - (intOf i).toNat)
  case atStart => exact ⟨0, b0, Nat.zero_le _, rfl, rfl, by simpa using HF0.out, rfl⟩
  case round =>
    clear HF0
    obtain ⟨k, b, hk, rfl, rfl, hf, rfl⟩ := hrel
    have HF := Lib.hid hf
    clear hf
    by_cases hlt : k < n
    · obtain ⟨a, x, va, vd, rfl, hab, hx, hat⟩ := HM.out.ins.get hlt
      obtain ⟨A1, c1, rfl, _, _, _⟩ := hat.acc.is
      obtain ⟨A2, c2, rfl, _, _, _⟩ := hat.dat.is
      have l1 := hat.acc.le
      have l2 := hat.dat.le
      unfold maxLen at l1 l2
      have e1 : wr.cell? ⟨(a.add (k * 3)).block, (a.add (k * 3)).off + 1, none⟩ = some (.slice A1 x.acc.length c1) := hat.cells 1 _ rfl
      have e2 : wr.cell? ⟨(a.add (k * 3)).block, (a.add (k * 3)).off + 2, none⟩ = some (.slice A2 x.dat.length c2) := hat.cells 2 _ rfl
      have HX := Lib.hid hx
      clear hat hx
      cases b
      all_goals
        (go_wp2_with fail
         all_goals
          (go_roundw
           case rel =>
            refine ⟨k + 1, _, by omega, by go_num, rfl, ?_, by simp⟩
            refine Iff.trans ?_ (FitsTo.insStep HX.out HF.out)
            simp
            try omega
           case measure => simp [intOf]; omega))
    · obtain rfl : k = n := by omega
      have HF1 : Hid (b = true ↔ FitsTo m m.ins []) := by
        have := HF.out
        rw [List.take_of_length_le (by omega)] at this
        exact Lib.hid this
      clear HF
      go_wp2_with fail
      go_loopw [3, 5] (fun v i w' => ∃ (k : Nat) (b : Bool), k ≤ ln ∧ i = .int .i64 k ∧ v = .bool b ∧ (b = true ↔ FitsTo m m.ins (m.looks.take k)) ∧ w' = wr) (fun v i _ => ln - (intOf i).toNat)
      case atStart => exact ⟨0, b, Nat.zero_le _, rfl, rfl, by simpa using HF1.out, rfl⟩
      case round =>
        clear HF1
        obtain ⟨k2, b2, hk2, rfl, rfl, hf, rfl⟩ := hrel
        have HF := Lib.hid hf
        clear hf
        by_cases hlt2 : k2 < ln
        · obtain ⟨a, x, va, vd, rfl, hab, hx, hat⟩ := HM.out.looks.get hlt2
          obtain ⟨A1, c1, rfl, _, _, _⟩ := hat.wr.is
          obtain ⟨A2, c2, rfl, _, _, _⟩ := hat.rd.is
          have l1 := hat.wr.le
          have l2 := hat.rd.le
          unfold maxLen at l1 l2
          have e1 : wr.cell? ⟨(a.add (k2 * 34)).block, (a.add (k2 * 34)).off + 32, none⟩ = some (.slice A1 x.wr.length c1) := hat.cells 32 _ (by rw [List.getElem?_append_right (by rw [bv_length, hat.len]; omega), bv_length, hat.len]; rfl)
          have e2 : wr.cell? ⟨(a.add (k2 * 34)).block, (a.add (k2 * 34)).off + 33, none⟩ = some (.slice A2 x.rd.length c2) := hat.cells 33 _ (by rw [List.getElem?_append_right (by rw [bv_length, hat.len]; omega), bv_length, hat.len]; rfl)
          have HX := Lib.hid hx
          clear hat hx
          cases b2
          all_goals
            (go_wp2_with fail
             all_goals
              (go_roundw
               case rel =>
                refine ⟨k2 + 1, _, by omega, by go_num, rfl, ?_, by simp⟩
                refine Iff.trans ?_ (FitsTo.lookStep HX.out HF.out)
                simp
                try omega
               case measure => simp [intOf]; omega))
        · obtain rfl : k2 = ln := by omega
          have hf2 : b2 = true ↔ FitsTo m m.ins m.looks := by
            have := HF.out
            rwa [List.take_of_length_le (by omega)] at this
          have HF2 := Lib.hid hf2
          clear HF hf2
          obtain ⟨d0, d1, -, -, d38⟩ := HD.out
          have hfit : (b2 = true ∧ (m.v0 = true ∨ (m.looks = [] ∧ m.s < 128))) ↔ Fits m := by
            rw [HF2.out]
            unfold FitsTo Fits
            exact ⟨fun ⟨⟨⟨h1, h2, h3⟩, h4, h5⟩, h6⟩ => ⟨h6, h1, h2, h3, h4, h5⟩, fun ⟨h6, h1, h2, h3, h4, h5⟩ => ⟨⟨⟨h1, h2, h3⟩, h4, h5⟩, h6⟩⟩
          have hnil : m.looks = [] ↔ k2 = 0 := by rw [← List.length_eq_zero_iff, ll]
          rw [hnil] at hfit
          have HFIT := Lib.hid hfit
          clear hfit hnil
          generalize hv : m.v0 = v0 at *
          cases b2 <;> cases v0
          all_goals
            (go_wp2_with fail
             all_goals
              (go_ret
               refine ⟨⟨_, rfl, ?_⟩, HB0.out⟩
               refine Iff.trans ?_ HFIT.out
               simp
               try omega))
end Go.Proofs.Ytolijdbdpnbchaa

namespace Go.Proofs.Ytolijdbdpnbchaa
open Go.RowKit
set_option linter.unusedVariables false

/-- what the reference's Put leaves -/
def RefPutDone (w : World) (ys : List Int) (e : Ending) (w' : World) : Prop :=
  ∃ v, e = .returned (.tuple #[v, .int .i64 0]) ∧ OwnB w' w.heap.size v ys ∧ Below w.heap.size w w'

theorem KeyAt.sees {w : World} {a : Addr} {k B : Nat} {x : List Int} (h : KeyAt w a k x) (hb : a.block < B) : Sees w B (some (a.add (k * 32))) 32 (bv x) :=
  ⟨by rw [bv_length, h.len], fun j u hu => ⟨_, rfl, by rw [addr_block]; exact hb, h.cells j u hu⟩⟩

theorem OwnB.less {w : World} {b b' : Nat} {v : Value} {ys : List Int} (h : OwnB w b v ys) (hb : b' ≤ b) : OwnB w b' v ys := by
  refine ⟨h.1, ?_⟩
  rcases h.2 with h2 | ⟨g, cap, cur, h1, h2, h3⟩
  · exact .inl h2
  · exact .inr ⟨g, cap, cur, h1, Nat.le_trans hb h2, h3⟩
theorem LookAt.sees {w : World} {a : Addr} {k B B' : Nat} {x : LLook} {va vd : Value} (h : LookAt w B' a k x va vd) (hb : a.block < B) : Sees w B (some (a.add (k * 34))) 32 (bv x.tab) :=
  ⟨by rw [bv_length, h.len], fun j u hu => ⟨_, rfl, by rw [addr_block]; exact hb, h.cells j u (by rw [List.getElem?_append_left (by have := (List.getElem?_eq_some_iff.1 hu).1; exact this)]; exact hu)⟩⟩

set_option maxRecDepth 100000 in
set_option maxHeartbeats 2000000 in
theorem refPut_ok (q : Raw) (m : LMsg) (B : Nat) (w : World) (hm : MsgIn w B q m) (hB : B ≤ w.heap.size) (hf : Fits m) (hl : (enc m).length ≤ 1000000000) :
    Calls Try.prog 32 #[.agg (q.cells m).toArray] w (RefPutDone w (enc m)) := by
  obtain ⟨KA, kn, kc, IA, n, ic, LA, ln, lc⟩ := q
  have hrow := Row.new w 31 (Raw.cells ⟨KA, kn, kc, IA, n, ic, LA, ln, lc⟩ m)
  have hb0 := (Below.refl w.heap.size w).alloc (Nat.le_refl _) (.cells (Raw.cells ⟨KA, kn, kc, IA, n, ic, LA, ln, lc⟩ m).toArray 31)
  have hlen := cells_len (q := ⟨KA, kn, kc, IA, n, ic, LA, ln, lc⟩) hm.recent
  have HF := Lib.hid (may_ ⟨KA, kn, kc, IA, n, ic, LA, ln, lc⟩ m B _ (hm.alloc hB (.cells (Raw.cells ⟨KA, kn, kc, IA, n, ic, LA, ln, lc⟩ m).toArray 31)) (Nat.le_trans hB hb0.size))
  have HREC := Lib.hid (fun j u => @cells_recent ⟨KA, kn, kc, IA, n, ic, LA, ln, lc⟩ m j u)
  have HMR := Lib.hid (MsgRow.of hrow hm.recent)
  obtain ⟨cs, hcs⟩ : ∃ cs, cs = Raw.cells ⟨KA, kn, kc, IA, n, ic, LA, ln, lc⟩ m := ⟨_, rfl⟩
  rw [← hcs] at hrow hb0 hlen HF HREC HMR ⊢
  clear hcs
  have HSZ := Lib.hid (show (Try.prog.info? 31).map (·.size) = some cs.length by rw [size_msg, hlen])
  have HROW := Lib.hid hrow
  have HM := Lib.hid hm
  have HB0 := Lib.hid hb0
  have k1 := hm.kn
  have k2 := hm.n
  have k3 := hm.ln
  dsimp only at k1 k2 k3
  unfold maxLen at k1 k2 k3
  have HL := Lib.hid hl
  have HFI := Lib.hid hf
  clear hlen hm hb0 hrow hl hf
  go_enter Try.func32, Try.ntmps32
  go_wp2_with (first
    | (with_reducible show wpList _ _ _ ({ dst := some 8, op := Op.load _ _, type := _, pos := _, after := _, guard := _ } :: _) _ _; go_must (refine wpList_load_whole rfl 31 (.tmp 1) rfl w.heap.size 31 cs _ Try.underlying31 rfl HSZ.out HROW.out ?_ ?_; go_simp)))
  refine HF.out.mono ?_
  rintro e w1 ⟨⟨b, rfl, hb⟩, hb1⟩
  obtain rfl : b = true := hb.2 HFI.out
  clear hb
  have hlt0 : w.heap.size < w1.heap.size := Nat.lt_of_lt_of_le HROW.out.lt hb1.size
  have hr1 := HROW.out.below hb1 HROW.out.lt
  have hm1 := HMR.out.keep HROW.out.lt hb1
  have hbw1 := HB0.out.trans (hb1.mono HB0.out.size)
  generalize hW : (w.alloc (Obj.cells cs.toArray 31)) = W0 at *
  clear hW HF HMR HROW HB0 hb1
  have HR1 := Lib.hid hr1
  have HMR1 := Lib.hid hm1
  have HBW1 := Lib.hid hbw1
  have HM1 := Lib.hid (HM.out.below (hbw1.mono hB))
  clear hr1 hbw1 HM
  generalize hv0 : m.v0 = v0 at *
  have HV0 := Lib.hid hv0
  clear hv0
  have hpar := enc_parts m
  have hhl : (encHead m).length = (if v0 then 1 else 0) + 3 := by unfold encHead; rw [HV0.out]; cases v0 <;> rfl
  have HPAR := Lib.hid hpar
  have HHL := Lib.hid hhl
  clear hpar hhl hm1
  have hfk := HFI.out.2.1
  have hfi := HFI.out.2.2.1
  have hfl := HFI.out.2.2.2.1
  rw [HM1.out.keys.len] at hfk
  rw [HM1.out.ins.len] at hfi
  rw [HM1.out.looks.len] at hfl
  dsimp only at hfk hfi hfl
  have HE : Hid (enc m = encHead m ++ short kn ++ m.keys.flatten ++ m.recent ++ short n ++ m.ins.flatMap encIn ++ encTail m) := by
    have e1 := HM1.out.keys.len
    have e2 := HM1.out.ins.len
    dsimp only at e1 e2
    refine Lib.hid ?_
    unfold enc
    rw [e1, e2]
    simp only [List.append_assoc]
  have HPL : Hid ((encHead m).length + 3 + m.keys.flatten.length + m.recent.length + 3 + (m.ins.flatMap encIn).length + (encTail m).length ≤ 1000000006) := by
    have h1 := HPAR.out
    have h2 := HL.out
    exact Lib.hid (by omega)
  have HO1 := Lib.hid (OwnB.nil w1 w1.heap.size)
  -- the first byte
  obtain ⟨d0, -, -, -, -, -, -⟩ := HMR1.out
  rw [HV0.out] at d0
  go_upto_if 12 with fail
  clear d0
  go_cut [4] from 8 to 126 (fun v wc => OwnB wc w1.heap.size v (if v0 then [128] else []) ∧ Below w1.heap.size w1 wc)
  case first =>
    cases v0
    · go_wp2_with fail
      go_meet
      case rel => exact ⟨HO1.out, Below.refl _ _⟩
    · go_wp2_with (first
       | (at_builtin; with_reducible show wpList _ _ _ ({ dst := some 15, op := _, type := _, pos := _, after := _, guard := _ } :: _) _ _; go_must (refine wpList_addLit rfl (.tmp 13) (.tmp 14) 37 rfl w1.heap.size Try.underlying37 info_u8 (.slice none 0 0) [] [128] 1 rfl ?_ HO1.out ?_ (Nat.le_refl _) (by simp only [List.nil_append, List.length_cons, List.length_nil]; omega) ?_; go_simp; go_simp; intro v1 w1' ho1 hg1)))
      go_meet
      case rel => exact ⟨by simpa only [List.nil_append, if_true] using ho1, hg1.belowB HO1.out (Nat.le_refl _)⟩
  case rest =>
  obtain ⟨ho, hb⟩ := hcut
  have hhead : (if v0 then [128] else []) ++ [m.s, m.r, m.o] = encHead m := by unfold encHead; rw [HV0.out]
  have hprel : ((if v0 then [128] else []) : List Int).length ≤ 1 := by cases v0 <;> simp
  generalize ((if v0 then [128] else []) : List Int) = pre at *
  obtain ⟨-, d1, d2, d3, -, -, -⟩ := HMR1.out.keep hlt0 hb
  have HO0 := Lib.hid ho
  have HB0 := Lib.hid hb
  have HH := Lib.hid hhead
  clear ho hb hhead HO1
  go_wp2_with (first
    | (at_builtin; with_reducible show wpList _ _ _ ({ dst := some 27, op := _, type := _, pos := _, after := _, guard := _ } :: _) _ _; go_must (refine wpList_addLit rfl (.tmp 16) (.tmp 26) 37 rfl w1.heap.size Try.underlying37 info_u8 _ pre [m.s, m.r, m.o] 3 rfl ?_ HO0.out ?_ HB0.out.size (by simp only [List.length_append, List.length_cons, List.length_nil]; omega) ?_; go_simp; go_simp; intro v2 w2 ho2 hg2; have hb2 := HB0.out.trans (hg2.belowB HO0.out HB0.out.size); obtain ⟨-, -, -, -, d4, -, -⟩ := HMR1.out.keep hlt0 hb2; have HO2 : Hid (OwnB w2 w1.heap.size v2 (encHead m)) := Lib.hid (by rw [← HH.out]; exact ho2); have HB2 := Lib.hid hb2; clear ho2 hg2 hb2 d1 d2 d3 HB0 HO0)))
  clear d4 HH
  have hs3 := short_len3 kn
  have HX1 := HPL.out
  refine (refShortB kn w2 hfk).mono ?_
  rintro e w3 ⟨A3, c3, rfl, hown3, hb3⟩
  have hz2 := HB2.out.size
  have HB3 := Lib.hid (HB2.out.trans (hb3.mono hz2))
  have HO3 := Lib.hid (HO2.out.below hb3)
  have HS3 := Lib.hid hown3.sees
  clear hown3 hb3 HO2 HB2 hz2
  go_wp2_with (first
    | (at_builtin; with_reducible show wpList _ _ _ ({ dst := some 33, op := _, type := _, pos := _, after := _, guard := _ } :: _) _ _; go_must (refine wpList_addB rfl (.tmp 28) (.tmp 32) 37 rfl w1.heap.size Try.underlying37 info_u8 _ (encHead m) ?_ HO3.out _ _ _ c3 (short kn) ?_ HS3.out HB3.out.size (by simp only [List.length_append]; omega) ?_; go_simp; go_simp; intro v4 w4 ho4 hg4; have HB4 := Lib.hid (HB3.out.trans (hg4.belowB HO3.out HB3.out.size)); have HO4 := Lib.hid ho4; clear ho4 hg4 HO3 HB3 HS3)))
  have HS4 := short_len3 n
  have hkl : ∀ k, (m.keys.take k).flatten.length ≤ m.keys.flatten.length := fun k => by
    have := flatMap_take_len id m.keys k
    simpa only [List.flatMap_id] using this
  have hrl := HM1.out.recent
  have HXL := Lib.hid (And.intro HX1 (And.intro hs3 (And.intro HS4 (And.intro hkl hrl))))
  clear HX1 hs3 HS4 hkl hrl
  go_loopw [4, 5] (fun v i wr => ∃ k : Nat, k ≤ kn ∧ i = .int .i64 k ∧ OwnB wr w1.heap.size v (encHead m ++ short kn ++ (m.keys.take k).flatten) ∧ Below w1.heap.size w1 wr) (fun v i _ => kn - (intOf i).toNat)
  case atStart =>
    refine ⟨0, Nat.zero_le _, rfl, ?_, HB4.out⟩
    simpa only [List.take_zero, List.flatten_nil, List.append_nil] using HO4.out
  case round =>
  clear HO4 HB4
  obtain ⟨k, hk, rfl, ho, hb⟩ := hrel
  have HOR := Lib.hid ho
  have HBR := Lib.hid hb
  have d4 := (HMR1.out.keep hlt0 hb).c4
  dsimp only at d4
  clear ho hb
  by_cases hlt : k < kn
  · obtain ⟨a, x, rfl, hab, hx, hat⟩ := HM1.out.keys.get hlt
    have HX := Lib.hid hx
    have hat := hat.keep hab fun p hp => HBR.out.cell (Nat.lt_of_lt_of_le hp (Nat.le_trans hB (Nat.le_of_lt hlt0)))
    have HLN := Lib.hid hat.len
    have HAT := Lib.hid (hat.sees (B := wr.heap.size) (by have := HBR.out.size; omega))
    have hln : (encHead m ++ short kn ++ (m.keys.take k).flatten).length + 32 ≤ 2000000000 := by
      obtain ⟨h1, h2, h3, h4, h5⟩ := HXL.out
      have := h4 k
      simp only [List.length_append]
      omega
    have HLE := Lib.hid hln
    clear hat hx hln
    go_wp2_with (first
      | (at_builtin; with_reducible show wpList _ _ _ ({ dst := some 47, op := _, type := _, pos := _, after := _, guard := _ } :: _) _ _; go_must (refine wpList_addB rfl (.tmp 41) (.tmp 46) 37 rfl w1.heap.size Try.underlying37 info_u8 _ _ ?_ HOR.out _ _ 32 32 x ?_ HAT.out HBR.out.size (by have q1 := HLE.out; have q2 := HLN.out; rw [List.length_append]; omega) ?_; go_simp; go_simp; intro v5 w5 ho5 hg5; have HB5 := Lib.hid (HBR.out.trans (hg5.belowB HOR.out HBR.out.size)); have HO5 := Lib.hid ho5; clear ho5 hg5)))
    go_roundw
    case rel =>
      refine ⟨k + 1, by omega, by go_num, ?_, HB5.out⟩
      rw [flatten_take_succ HX.out, ← List.append_assoc]
      exact HO5.out
    case measure => simp [intOf]; omega
  · have HKK := Lib.hid (show k = kn by omega)
    have hok : OwnB wr w1.heap.size u4 (encHead m ++ short kn ++ m.keys.flatten) := by
      have := HOR.out
      rwa [List.take_of_length_le (by have := HM1.out.keys.len; dsimp only at this; have := HKK.out; omega)] at this
    have hsr := (HR1.out.below HBR.out hlt0).sees_at (o := 5) (xs := bv m.recent) (n := 32) (by rw [bv_length, HXL.out.2.2.2.2]) HREC.out
    have HOK := Lib.hid hok
    have HSR := Lib.hid hsr
    clear hok HOR hsr
    go_wp2_with (first
      | (at_builtin; with_reducible show wpList _ _ _ ({ dst := some 51, op := _, type := _, pos := _, after := _, guard := _ } :: _) _ _; go_must (refine wpList_addB rfl (.tmp 48) (.tmp 50) 37 rfl w1.heap.size Try.underlying37 info_u8 _ _ ?_ HOK.out _ _ 32 32 m.recent ?_ HSR.out HBR.out.size (by obtain ⟨h1, h2, h3, h4, h5⟩ := HXL.out; simp only [List.length_append]; omega) ?_; go_simp; go_simp; intro v5 w5 ho5 hg5; have hb5 := HBR.out.trans (hg5.belowB HOK.out HBR.out.size); have d37 := (HMR1.out.keep hlt0 hb5).c37; dsimp only at d37; have HB5 := Lib.hid hb5; have HO5 := Lib.hid ho5; clear hb5 ho5 hg5)))
    clear d37 d4 HOK HSR HBR HKK
    refine (refShortB n w5 hfi).mono ?_
    rintro e w6 ⟨A6, c6, rfl, hown6, hb6⟩
    have hz5 := HB5.out.size
    have HB6 := Lib.hid (HB5.out.trans (hb6.mono hz5))
    have HO6 := Lib.hid (HO5.out.below hb6)
    have HS6 := Lib.hid hown6.sees
    clear hown6 hb6 HO5 HB5 hz5
    go_wp2_with (first
      | (at_builtin; with_reducible show wpList _ _ _ ({ dst := some 57, op := _, type := _, pos := _, after := _, guard := _ } :: _) _ _; go_must (refine wpList_addB rfl (.tmp 52) (.tmp 56) 37 rfl w1.heap.size Try.underlying37 info_u8 _ _ ?_ HO6.out _ _ _ c6 (short n) ?_ HS6.out HB6.out.size (by obtain ⟨h1, h2, h3, h4, h5⟩ := HXL.out; simp only [List.length_append]; omega) ?_; go_simp; go_simp; intro v7 w7 ho7 hg7; have HB7 := Lib.hid (HB6.out.trans (hg7.belowB HO6.out HB6.out.size)); have HO7 := Lib.hid ho7; clear ho7 hg7 HO6 HB6 HS6)))
    go_loopw [4, 6] (fun v i wr => ∃ k : Nat, k ≤ n ∧ i = .int .i64 k ∧ OwnB wr w1.heap.size v (encHead m ++ short kn ++ m.keys.flatten ++ m.recent ++ short n ++ (m.ins.take k).flatMap encIn) ∧ Below w1.heap.size w1 wr) (fun v i _ => n - (intOf i).toNat)
    case atStart =>
      refine ⟨0, Nat.zero_le _, rfl, ?_, HB7.out⟩
      simpa only [List.take_zero, List.flatMap_nil, List.append_nil] using HO7.out
    case round =>
    clear HO7 HB7
    obtain ⟨k2, hk2, rfl, ho, hb⟩ := hrel
    have HOR := Lib.hid ho
    have HBR := Lib.hid hb
    have d37 := (HMR1.out.keep hlt0 hb).c37
    dsimp only at d37
    clear ho hb
    by_cases hlt2 : k2 < n
    · obtain ⟨a, x, va, vd, rfl, hab, hx, hat⟩ := HM1.out.ins.get hlt2
      replace hat := hat.keep hab fun p hp => HBR.out.cell (Nat.lt_of_lt_of_le hp (Nat.le_trans hB (Nat.le_of_lt hlt0)))
      have e0 : wr.cell? (a.add (k2 * 3)) = some (.int .u8 x.p) := by
        have h := hat.cells 0 _ rfl
        rwa [addr_add, Nat.add_zero] at h
      have HX := Lib.hid hx
      have HAT := Lib.hid hat
      have hln : (encHead m ++ short kn ++ m.keys.flatten ++ m.recent ++ short n ++ (m.ins.take k2).flatMap encIn).length + (encIn x).length ≤ 2000000000 := by
        obtain ⟨h1, h2, h3, h4, h5⟩ := HXL.out
        have h6 := flatMap_take_len encIn m.ins (k2 + 1)
        rw [flatMap_take_succ encIn hx] at h6
        simp only [List.length_append] at h6 ⊢
        omega
      have hel : (encIn x).length = 1 + ((encL x.acc).length + (encL x.dat).length) := by simp [encIn]; omega
      have hfx := HFI.out.2.2.2.2.1 x (List.mem_of_getElem? hx)
      generalize hys : encHead m ++ short kn ++ m.keys.flatten ++ m.recent ++ short n ++ (m.ins.take k2).flatMap encIn = ys at *
      have HYS := Lib.hid hys
      have HLN := Lib.hid hln
      have HEL := Lib.hid hel
      clear hat hx hln hel hys
      have hab1 : a.block < w1.heap.size := by omega
      go_upto_region 18 with (first
        | (at_builtin; with_reducible show wpList _ _ _ ({ dst := some 73, op := _, type := _, pos := _, after := _, guard := _ } :: _) _ _; go_must (refine wpList_addLit rfl (.tmp 65) (.tmp 72) 37 rfl w1.heap.size Try.underlying37 info_u8 _ ys [x.p] 1 rfl ?_ HOR.out ?_ HBR.out.size (by have q1 := HLN.out; rw [List.length_append, List.length_singleton]; omega) ?_; go_simp; go_simp; intro v5 w5 ho5 hg5; have hb5 := hg5.belowB HOR.out HBR.out.size; have HAT5 := Lib.hid (HAT.out.keep hab fun p hp => hb5.cell (by omega)); have HB5 := Lib.hid (HBR.out.trans hb5); have HO5 := Lib.hid ho5; clear ho5 hg5 hb5 d37 e0)))
      have f37 : w5.drew.cell? ⟨w.heap.size, 37, none⟩ = some (.slice (some a) n ic) := (HMR1.out.keep hlt0 HB5.out).c37
      have f1 : w5.drew.cell? ⟨(a.add (k2 * 3)).block, (a.add (k2 * 3)).off + 1, none⟩ = some va := HAT5.out.cells 1 _ rfl
      have f2 : w5.drew.cell? ⟨(a.add (k2 * 3)).block, (a.add (k2 * 3)).off + 2, none⟩ = some vd := HAT5.out.cells 2 _ rfl
      have hki : (k2 : Int) < n := by omega
      have hk0 : (0 : Int) ≤ k2 := by omega
      have hab3 : (a.add (k2 * 3)).block < w1.heap.size := by rw [addr_block]; exact hab1
      have HD5 := Lib.hid (show OwnB w5.drew w1.heap.size v5 (ys ++ [x.p]) from HO5.out)
      have HVA := Lib.hid ((HAT5.out.keep (w' := w5.drew) hab fun p hp => rfl).acc.more (Nat.le_trans hB (Nat.le_of_lt hlt0)))
      have HVD := Lib.hid ((HAT5.out.keep (w' := w5.drew) hab fun p hp => rfl).dat.more (Nat.le_trans hB (Nat.le_of_lt hlt0)))
      have HZ5 := Lib.hid (show w1.heap.size ≤ w5.drew.heap.size from HB5.out.size)
      have HFX := Lib.hid hfx
      clear hfx
      have HC5 := Lib.hid (refList_ w1.heap.size w1.heap.size v5 va (ys ++ [x.p]) x.acc w5.drew HD5.out HZ5.out HVA.out (Nat.le_refl _) HFX.out.1 (by have h1 := HLN.out; have h2 := HEL.out; rw [List.length_append, List.length_singleton]; omega))
      go_region_held2 (fun w' => w'.cell? ⟨w.heap.size, 37, none⟩ = some (.slice (some a) n ic) ∧ w'.cell? ⟨(a.add (k2 * 3)).block, (a.add (k2 * 3)).off + 1, none⟩ = some va ∧ w'.cell? ⟨(a.add (k2 * 3)).block, (a.add (k2 * 3)).off + 2, none⟩ = some vd) ((first | (refine ⟨?_, ?_, ?_⟩ <;> assumption) | go_keep)) ((first
        | ((with_reducible refine HC5.out.mono ?_)
           rintro e w6 ⟨v6, rfl, ho6, hg6⟩
           have hb6 := hg6.belowB HD5.out HZ5.out
           have g37 : w6.cell? ⟨w.heap.size, 37, none⟩ = some (.slice (some a) n ic) := (hb6.cell (p := ⟨w.heap.size, 37, none⟩) hlt0).trans f37
           have g1 : w6.cell? ⟨(a.add (k2 * 3)).block, (a.add (k2 * 3)).off + 1, none⟩ = some va := (hb6.cell (p := ⟨(a.add (k2 * 3)).block, (a.add (k2 * 3)).off + 1, none⟩) hab3).trans f1
           have g2 : w6.cell? ⟨(a.add (k2 * 3)).block, (a.add (k2 * 3)).off + 2, none⟩ = some vd := (hb6.cell (p := ⟨(a.add (k2 * 3)).block, (a.add (k2 * 3)).off + 2, none⟩) hab3).trans f2
           have HO6 := Lib.hid ho6
           have HB6 := Lib.hid hb6
           have HC6 := Lib.hid (refList_ w1.heap.size w1.heap.size v6 vd _ x.dat w6 HO6.out (Nat.le_trans HZ5.out HB6.out.size) (HVD.out.below HB6.out) (Nat.le_refl _) HFX.out.2 (by have h1 := HLN.out; have h2 := HEL.out; simp only [List.length_append, List.length_singleton]; omega))
           clear ho6 hg6 hb6)
        | ((with_reducible refine HC6.out.mono ?_)
           rintro e w7' ⟨v7', rfl, ho7', hg7'⟩
           have hb7' := hg7'.belowB HO6.out (Nat.le_trans HZ5.out HB6.out.size)
           have i37 : w7'.cell? ⟨w.heap.size, 37, none⟩ = some (.slice (some a) n ic) := (hb7'.cell (p := ⟨w.heap.size, 37, none⟩) hlt0).trans g37
           have i1 : w7'.cell? ⟨(a.add (k2 * 3)).block, (a.add (k2 * 3)).off + 1, none⟩ = some va := (hb7'.cell (p := ⟨(a.add (k2 * 3)).block, (a.add (k2 * 3)).off + 1, none⟩) hab3).trans g1
           have i2 : w7'.cell? ⟨(a.add (k2 * 3)).block, (a.add (k2 * 3)).off + 2, none⟩ = some vd := (hb7'.cell (p := ⟨(a.add (k2 * 3)).block, (a.add (k2 * 3)).off + 2, none⟩) hab3).trans g2
           have HO7' := Lib.hid ho7'
           have HB7' := Lib.hid hb7'
           clear ho7' hg7' hb7')))
      clear HC5 HC6 HD5 HVA HVD
      go_wp2_with fail
      go_roundw
      case rel =>
        refine ⟨k2 + 1, by omega, by go_num, ?_, HB5.out.trans (((Below.refl _ _).drew.trans HB6.out).trans HB7'.out)⟩
        have := HO7'.out
        rw [flatMap_take_succ encIn HX.out, ← List.append_assoc, HYS.out]
        simpa only [encIn, List.append_assoc, List.singleton_append, List.cons_append, List.nil_append] using this
      case measure => simp [intOf]; omega
    · have hok : OwnB wr w1.heap.size u4 (encHead m ++ short kn ++ m.keys.flatten ++ m.recent ++ short n ++ m.ins.flatMap encIn) := by
        have := HOR.out
        rwa [List.take_of_length_le (by have h1 := HM1.out.ins.len; dsimp only at h1; omega)] at this
      have HOK := Lib.hid hok
      have d0 := (HMR1.out.keep hlt0 HBR.out).c0
      rw [HV0.out] at d0
      clear hok HOR
      cases v0
      · go_wp2_with fail
        go_ret2
        refine ⟨_, rfl, ?_, HBW1.out.trans (HBR.out.mono (Nat.le_of_lt hlt0))⟩
        have ht : encTail m = [] := by unfold encTail; rw [HV0.out]; rfl
        rw [HE.out, ht, List.append_nil]
        exact HOK.out.less (Nat.le_of_lt hlt0)
      · have d38 := (HMR1.out.keep hlt0 HBR.out).c38
        dsimp only at d38
        go_wp2_with fail
        clear d0 d38 d37
        have hs9 := short_len3 ln
        have ht : encTail m = short m.looks.length ++ m.looks.flatMap encLook := by unfold encTail; rw [HV0.out]; rfl
        rw [HM1.out.looks.len] at ht
        dsimp only at ht
        have htl : (encTail m).length = (short ln).length + (m.looks.flatMap encLook).length := by rw [ht, List.length_append]
        have HTL := Lib.hid (And.intro ht (And.intro htl hs9))
        clear ht htl hs9
        refine (refShortB ln wr hfl).mono ?_
        rintro e w8 ⟨A8, c8, rfl, hown8, hb8⟩
        have hz8 := HBR.out.size
        have HB8 := Lib.hid (HBR.out.trans (hb8.mono hz8))
        have HO8 := Lib.hid (HOK.out.below hb8)
        have HS8 := Lib.hid hown8.sees
        clear hown8 hb8 HOK HBR hz8
        go_wp2_with (first
          | (at_builtin; with_reducible show wpList _ _ _ ({ dst := some 96, op := _, type := _, pos := _, after := _, guard := _ } :: _) _ _; go_must (refine wpList_addB rfl (.tmp 91) (.tmp 95) 37 rfl w1.heap.size Try.underlying37 info_u8 _ _ ?_ HO8.out _ _ _ c8 (short ln) ?_ HS8.out HB8.out.size (by obtain ⟨h1, h2, h3, h4, h5⟩ := HXL.out; obtain ⟨_, h6, h7⟩ := HTL.out; simp only [List.length_append]; omega) ?_; go_simp; go_simp; intro v9 w9 ho9 hg9; have HB9 := Lib.hid (HB8.out.trans (hg9.belowB HO8.out HB8.out.size)); have HO9 := Lib.hid ho9; clear ho9 hg9 HO8 HB8 HS8)))
        generalize hall : encHead m ++ short kn ++ m.keys.flatten ++ m.recent ++ short n ++ m.ins.flatMap encIn = all at *
        have HALL := Lib.hid hall
        clear hall
        go_loopw [4, 7] (fun v i wr => ∃ k : Nat, k ≤ ln ∧ i = .int .i64 k ∧ OwnB wr w1.heap.size v (all ++ short ln ++ (m.looks.take k).flatMap encLook) ∧ Below w1.heap.size w1 wr) (fun v i _ => ln - (intOf i).toNat)
        case atStart =>
          refine ⟨0, Nat.zero_le _, rfl, ?_, HB9.out⟩
          simpa only [List.take_zero, List.flatMap_nil, List.append_nil] using HO9.out
        case round =>
        clear HO9 HB9
        obtain ⟨k3, hk3, rfl, ho, hb⟩ := hrel
        have HOR := Lib.hid ho
        have HBR := Lib.hid hb
        have d38 := (HMR1.out.keep hlt0 hb).c38
        dsimp only at d38
        clear ho hb
        by_cases hlt3 : k3 < ln
        · obtain ⟨a, x, va, vd, rfl, hab, hx, hat⟩ := HM1.out.looks.get hlt3
          replace hat := hat.keep hab fun p hp => HBR.out.cell (Nat.lt_of_lt_of_le hp (Nat.le_trans hB (Nat.le_of_lt hlt0)))
          have hab1 : a.block < w1.heap.size := by omega
          have HX := Lib.hid hx
          have HAT := Lib.hid hat
          have HTS := Lib.hid (hat.sees (B := wr.heap.size) (by have := HBR.out.size; omega))
          have hln : (all ++ short ln ++ (m.looks.take k3).flatMap encLook).length + (encLook x).length ≤ 2000000000 := by
            obtain ⟨h1, h2, h3, h4, h5⟩ := HXL.out
            obtain ⟨_, h8, h9⟩ := HTL.out
            have h6 := flatMap_take_len encLook m.looks (k3 + 1)
            rw [flatMap_take_succ encLook hx] at h6
            rw [← HALL.out]
            simp only [List.length_append] at h6 ⊢
            omega
          have hel : (encLook x).length = 32 + ((encL x.wr).length + (encL x.rd).length) := by simp [encLook, hat.len]
          have hfx := HFI.out.2.2.2.2.2 x (List.mem_of_getElem? hx)
          generalize hys : all ++ short ln ++ (m.looks.take k3).flatMap encLook = ys at *
          have HYS := Lib.hid hys
          have HLN := Lib.hid hln
          have HEL := Lib.hid hel
          have HTB := Lib.hid hat.len
          clear hat hx hln hel hys
          go_upto_region 25 with (first
            | (at_builtin; with_reducible show wpList _ _ _ ({ dst := some 111, op := _, type := _, pos := _, after := _, guard := _ } :: _) _ _; go_must (refine wpList_addB rfl (.tmp 104) (.tmp 110) 37 rfl w1.heap.size Try.underlying37 info_u8 _ ys ?_ HOR.out _ _ 32 32 x.tab ?_ HTS.out HBR.out.size (by have q1 := HLN.out; have q2 := HTB.out; rw [List.length_append]; omega) ?_; go_simp; go_simp; intro v5 w5 ho5 hg5; have hb5 := hg5.belowB HOR.out HBR.out.size; have HAT5 := Lib.hid (HAT.out.keep hab fun p hp => hb5.cell (by omega)); have HB5 := Lib.hid (HBR.out.trans hb5); have HO5 := Lib.hid ho5; clear ho5 hg5 hb5 d38)))
          have f37 : w5.drew.cell? ⟨w.heap.size, 38, none⟩ = some (.slice (some a) ln lc) := (HMR1.out.keep hlt0 HB5.out).c38
          have f1 : w5.drew.cell? ⟨(a.add (k3 * 34)).block, (a.add (k3 * 34)).off + 32, none⟩ = some va := HAT5.out.cells 32 _ (by rw [List.getElem?_append_right (by rw [bv_length, HAT5.out.len]; omega), bv_length, HAT5.out.len]; rfl)
          have f2 : w5.drew.cell? ⟨(a.add (k3 * 34)).block, (a.add (k3 * 34)).off + 33, none⟩ = some vd := HAT5.out.cells 33 _ (by rw [List.getElem?_append_right (by rw [bv_length, HAT5.out.len]; omega), bv_length, HAT5.out.len]; rfl)
          have hki : (k3 : Int) < ln := by omega
          have hk0 : (0 : Int) ≤ k3 := by omega
          have hab3 : (a.add (k3 * 34)).block < w1.heap.size := by rw [addr_block]; exact hab1
          have HD5 := Lib.hid (show OwnB w5.drew w1.heap.size v5 (ys ++ x.tab) from HO5.out)
          have HVA := Lib.hid ((HAT5.out.keep (w' := w5.drew) hab fun p hp => rfl).wr.more (Nat.le_trans hB (Nat.le_of_lt hlt0)))
          have HVD := Lib.hid ((HAT5.out.keep (w' := w5.drew) hab fun p hp => rfl).rd.more (Nat.le_trans hB (Nat.le_of_lt hlt0)))
          have HZ5 := Lib.hid (show w1.heap.size ≤ w5.drew.heap.size from HB5.out.size)
          have HFX := Lib.hid hfx
          clear hfx
          have HC5 := Lib.hid (refList_ w1.heap.size w1.heap.size v5 va (ys ++ x.tab) x.wr w5.drew HD5.out HZ5.out HVA.out (Nat.le_refl _) HFX.out.1 (by have h1 := HLN.out; have h2 := HEL.out; have h3 := HTB.out; rw [List.length_append]; omega))
          go_region_held2 (fun w' => w'.cell? ⟨w.heap.size, 38, none⟩ = some (.slice (some a) ln lc) ∧ w'.cell? ⟨(a.add (k3 * 34)).block, (a.add (k3 * 34)).off + 32, none⟩ = some va ∧ w'.cell? ⟨(a.add (k3 * 34)).block, (a.add (k3 * 34)).off + 33, none⟩ = some vd) ((first | (refine ⟨?_, ?_, ?_⟩ <;> assumption) | go_keep)) ((first
            | ((with_reducible refine HC5.out.mono ?_)
               rintro e w6 ⟨v6, rfl, ho6, hg6⟩
               have hb6 := hg6.belowB HD5.out HZ5.out
               have g37 : w6.cell? ⟨w.heap.size, 38, none⟩ = some (.slice (some a) ln lc) := (hb6.cell (p := ⟨w.heap.size, 38, none⟩) hlt0).trans f37
               have g1 : w6.cell? ⟨(a.add (k3 * 34)).block, (a.add (k3 * 34)).off + 32, none⟩ = some va := (hb6.cell (p := ⟨(a.add (k3 * 34)).block, (a.add (k3 * 34)).off + 32, none⟩) hab3).trans f1
               have g2 : w6.cell? ⟨(a.add (k3 * 34)).block, (a.add (k3 * 34)).off + 33, none⟩ = some vd := (hb6.cell (p := ⟨(a.add (k3 * 34)).block, (a.add (k3 * 34)).off + 33, none⟩) hab3).trans f2
               have HO6 := Lib.hid ho6
               have HB6 := Lib.hid hb6
               have HC6 := Lib.hid (refList_ w1.heap.size w1.heap.size v6 vd _ x.rd w6 HO6.out (Nat.le_trans HZ5.out HB6.out.size) (HVD.out.below HB6.out) (Nat.le_refl _) HFX.out.2 (by have h1 := HLN.out; have h2 := HEL.out; have h3 := HTB.out; simp only [List.length_append]; omega))
               clear ho6 hg6 hb6)
            | ((with_reducible refine HC6.out.mono ?_)
               rintro e w7' ⟨v7', rfl, ho7', hg7'⟩
               have hb7' := hg7'.belowB HO6.out (Nat.le_trans HZ5.out HB6.out.size)
               have i37 : w7'.cell? ⟨w.heap.size, 38, none⟩ = some (.slice (some a) ln lc) := (hb7'.cell (p := ⟨w.heap.size, 38, none⟩) hlt0).trans g37
               have i1 : w7'.cell? ⟨(a.add (k3 * 34)).block, (a.add (k3 * 34)).off + 32, none⟩ = some va := (hb7'.cell (p := ⟨(a.add (k3 * 34)).block, (a.add (k3 * 34)).off + 32, none⟩) hab3).trans g1
               have i2 : w7'.cell? ⟨(a.add (k3 * 34)).block, (a.add (k3 * 34)).off + 33, none⟩ = some vd := (hb7'.cell (p := ⟨(a.add (k3 * 34)).block, (a.add (k3 * 34)).off + 33, none⟩) hab3).trans g2
               have HO7' := Lib.hid ho7'
               have HB7' := Lib.hid hb7'
               clear ho7' hg7' hb7')))
          clear HC5 HC6 HD5 HVA HVD
          go_wp2_with fail
          go_roundw
          case rel =>
            refine ⟨k3 + 1, by omega, by go_num, ?_, HB5.out.trans (((Below.refl _ _).drew.trans HB6.out).trans HB7'.out)⟩
            have := HO7'.out
            rw [flatMap_take_succ encLook HX.out, ← List.append_assoc, HYS.out]
            simpa only [encLook, List.append_assoc] using this
          case measure => simp [intOf]; omega
        · have hok : OwnB wr w1.heap.size u4 (all ++ short ln ++ m.looks.flatMap encLook) := by
            have := HOR.out
            rwa [List.take_of_length_le (by have h1 := HM1.out.looks.len; dsimp only at h1; omega)] at this
          have HOK := Lib.hid hok
          clear hok HOR
          go_wp2_with fail
          go_ret2
          refine ⟨_, rfl, ?_, HBW1.out.trans (HBR.out.mono (Nat.le_of_lt hlt0))⟩
          rw [HE.out, HTL.out.1, ← List.append_assoc]
          exact HOK.out.less (Nat.le_of_lt hlt0)

/-- what may not be put -/
theorem refPut_no (q : Raw) (m : LMsg) (B : Nat) (w : World) (hm : MsgIn w B q m) (hB : B ≤ w.heap.size) (hf : ¬ Fits m) :
    Calls Try.prog 32 #[.agg (q.cells m).toArray] w fun e w' => e = .returned (.tuple #[.slice none 0 0, .int .i64 1]) ∧ Below w.heap.size w w' := by
  obtain ⟨KA, kn, kc, IA, n, ic, LA, ln, lc⟩ := q
  have hrow := Row.new w 31 (Raw.cells ⟨KA, kn, kc, IA, n, ic, LA, ln, lc⟩ m)
  have hb0 := (Below.refl w.heap.size w).alloc (Nat.le_refl _) (.cells (Raw.cells ⟨KA, kn, kc, IA, n, ic, LA, ln, lc⟩ m).toArray 31)
  have hlen := cells_len (q := ⟨KA, kn, kc, IA, n, ic, LA, ln, lc⟩) hm.recent
  have HF := Lib.hid (may_ ⟨KA, kn, kc, IA, n, ic, LA, ln, lc⟩ m B _ (hm.alloc hB (.cells (Raw.cells ⟨KA, kn, kc, IA, n, ic, LA, ln, lc⟩ m).toArray 31)) (Nat.le_trans hB hb0.size))
  obtain ⟨cs, hcs⟩ : ∃ cs, cs = Raw.cells ⟨KA, kn, kc, IA, n, ic, LA, ln, lc⟩ m := ⟨_, rfl⟩
  rw [← hcs] at hrow hb0 hlen HF ⊢
  clear hcs
  have HSZ := Lib.hid (show (Try.prog.info? 31).map (·.size) = some cs.length by rw [size_msg, hlen])
  have HROW := Lib.hid hrow
  have HB0 := Lib.hid hb0
  have HNF := Lib.hid hf
  clear hlen hm hb0 hrow hf
  go_enter Try.func32, Try.ntmps32
  go_wp2_with (first
    | (with_reducible show wpList _ _ _ ({ dst := some 8, op := Op.load _ _, type := _, pos := _, after := _, guard := _ } :: _) _ _; go_must (refine wpList_load_whole rfl 31 (.tmp 1) rfl w.heap.size 31 cs _ Try.underlying31 rfl HSZ.out HROW.out ?_ ?_; go_simp)))
  refine HF.out.mono ?_
  rintro e w1 ⟨⟨b, rfl, hb⟩, hb1⟩
  obtain rfl : b = false := by
    cases b
    · rfl
    · exact absurd (hb.1 rfl) HNF.out
  clear hb
  go_wp2_with fail
  go_ret2
  exact ⟨rfl, HB0.out.trans (hb1.mono HB0.out.size)⟩
end Go.Proofs.Ytolijdbdpnbchaa

namespace Go.Proofs.Ytolijdbdpnbchaa
open Go.RowKit
set_option linter.unusedVariables false

theorem SigAt.sees {w : World} {a : Addr} {k B : Nat} {x : List Int} (h : SigAt w a k x) (hb : a.block < B) : Sees w B (some (a.add (k * 64))) 64 (bv x) :=
  ⟨by rw [bv_length, h.len], fun i u hu => ⟨_, rfl, by rw [addr_block]; exact hb, h.cells i u hu⟩⟩

set_option maxRecDepth 100000 in
set_option maxHeartbeats 2000000 in
theorem refPutTx (s : TRaw) (x : LTx) (B : Nat) (w : World) (hm : TxIn w B s x) (hB : B ≤ w.heap.size) (hn : x.sigs.length ≤ 65535) (hl : (enc x.m).length ≤ 1000000) :
    Calls Try.prog 12 #[.agg (s.cells x).toArray] w (PutTxDone w x) := by
  obtain ⟨SA, sn, sc, q⟩ := s
  have hsl := hm.sigs.len
  dsimp only at hsl
  have hrow := Row.new w 33 (TRaw.cells ⟨SA, sn, sc, q⟩ x)
  have hb0 := (Below.refl w.heap.size w).alloc (Nat.le_refl _) (.cells (TRaw.cells ⟨SA, sn, sc, q⟩ x).toArray 33)
  have c0 : (w.alloc (.cells (TRaw.cells ⟨SA, sn, sc, q⟩ x).toArray 33)).cell? ⟨w.heap.size, 0, none⟩ = some (.slice SA sn sc) := hrow.cell 0
  have HM0 := Lib.hid (hm.below (hb0.mono hB))
  have HSM := Lib.hid (show (Try.prog.info? 31).map (·.size) = some (q.cells x.m).length by rw [size_msg, cells_len hm.m.recent])
  have HCM := Lib.hid (tcells_m (s := ⟨SA, sn, sc, q⟩) (x := x))
  have HSC := Lib.hid (show sn ≤ sc ∧ sc ≤ maxLen from hm.sn)
  have HT0 := Lib.hid (show (TRaw.cells ⟨SA, sn, sc, q⟩ x)[0]? = some (.slice SA sn sc) from rfl)
  dsimp only at HCM
  generalize TRaw.cells ⟨SA, sn, sc, q⟩ x = cs at *
  have HROW := Lib.hid hrow
  have HB0 := Lib.hid hb0
  have HSL := Lib.hid hsl
  have hsn : ¬ (65535 : Int) < sn := by omega
  clear hrow hb0 hm
  go_enter Try.func12, Try.ntmps12
  go_wp2_with ((with_reducible show wpList _ _ _ ({ dst := some 14, op := Op.load _ _, type := _, pos := _, after := _, guard := _ } :: _) _ _); go_must (refine wpList_load_at rfl 31 (.tmp 13) rfl ⟨w.heap.size, 1, none⟩ (q.cells x.m) _ Try.underlying31 rfl HSM.out (fun j v hv => by rw [addr_row, HROW.out.cell, HCM.out]; exact hv) ?_ ?_; go_simp))
  by_cases hf : Fits x.m
  rotate_left
  · refine (refPut_no q x.m B _ HM0.out.m (Nat.le_trans hB HB0.out.size) hf).mono ?_
    rintro e w2 ⟨rfl, hb2⟩
    go_wp2_with fail
    go_ret2
    exact .inl ⟨hf, rfl, HB0.out.trans (hb2.mono HB0.out.size)⟩
  refine (refPut_ok q x.m B _ HM0.out.m (Nat.le_trans hB HB0.out.size) hf (by omega)).mono ?_
  rintro e w2 ⟨vm, rfl, hom, hb2⟩
  obtain ⟨MA, mc, rfl⟩ := hom.form
  have hrow2 := HROW.out.below hb2 HROW.out.lt
  have c2 : w2.cell? ⟨w.heap.size, 0, none⟩ = some (.slice SA sn sc) := (hrow2.cell 0).trans HT0.out
  have HROW2 := Lib.hid hrow2
  have HB2 := Lib.hid (HB0.out.trans (hb2.mono HB0.out.size))
  have HM2 := Lib.hid (HM0.out.below (hb2.mono (Nat.le_trans hB HB0.out.size)))
  have HSM2 := Lib.hid hom.sees
  have HF := Lib.hid hf
  have HSH := Lib.hid (refShort sn w2 (by omega) (by omega))
  have hlen := encTx_len (x := x) HM2.out.sigs.each
  rw [hsl] at hlen
  have HLEN := Lib.hid hlen
  have H3 := Lib.hid (short_len3 (sn : Int))
  clear hrow2 hb2 hom hf hlen c0
  go_wp2_with fail
  refine HSH.out.mono ?_
  rintro e w3 hret
  obtain ⟨SbA, sbc, rfl, hob, hb3⟩ := hret
  have HO3 : Hid (OwnB w3 w2.heap.size (.slice SbA (short (sn : Int)).length sbc) (short (sn : Int))) := Lib.hid hob
  have HB3 := Lib.hid hb3
  clear hob hb3 c2 HSH
  go_wp2_with fail
  go_loopw [6, 7] (fun v i wr => ∃ k : Nat, k ≤ sn ∧ i = .int .i64 k ∧ OwnB wr w2.heap.size v (short (sn : Int) ++ (x.sigs.take k).flatten) ∧ Below w2.heap.size w2 wr) (fun v i _ => sn - (intOf i).toNat)
  case atStart =>
    refine ⟨0, Nat.zero_le _, rfl, ?_, HB3.out⟩
    simpa only [List.take_zero, List.flatten_nil, List.append_nil] using HO3.out
  case round =>
  clear HO3 HB3
  obtain ⟨k, hk, rfl, ho, hb⟩ := hrel
  have HOR := Lib.hid ho
  have HBR := Lib.hid hb
  have hsz := HBR.out.size
  have c0 : wr.cell? ⟨w.heap.size, 0, none⟩ = some (.slice SA sn sc) := ((HROW2.out.below hb HROW2.out.lt).cell 0).trans HT0.out
  clear ho hb
  by_cases hlt : k < sn
  · obtain ⟨a, y, rfl, hab, hx, hat⟩ := HM2.out.sigs.get hlt
    have hat := hat.keep hab fun p hp => HBR.out.cell (Nat.lt_of_lt_of_le hp (Nat.le_trans hB HB2.out.size))
    have HAT := Lib.hid (hat.sees (B := B) hab)
    have HYL := Lib.hid hat.len
    have HX := Lib.hid hx
    have hln : (short (sn : Int) ++ (x.sigs.take k).flatten).length + 64 ≤ 2000000000 := by
      have h1 := flat64_len (x.sigs.take k) (fun z hz => HM2.out.sigs.each z (List.mem_of_mem_take hz))
      have h2 : (x.sigs.take k).length = k := by rw [List.length_take]; have := HSL.out; omega
      have h3 := H3.out
      rw [List.length_append, h1, h2]
      omega
    have HLN := Lib.hid hln
    clear hat hx hln
    go_wp2_with (first
      | (at_builtin; (with_reducible show wpList _ _ _ ({ dst := some 38, op := _, type := _, pos := _, after := _, guard := _ } :: _) _ _); go_must (refine wpList_addB rfl (.tmp 32) (.tmp 37) 37 rfl w2.heap.size Try.underlying37 info_u8 u6 _ ?_ HOR.out B (some (a.add (k * 64))) 64 64 y ?_ HAT.out hsz ?_ ?_; go_simp; go_simp; (have q1 := HLN.out; have q2 := HYL.out; rw [List.length_append]; omega); intro v5 w5 ho5 hg5; have HB5 := Lib.hid (HBR.out.trans (hg5.belowB HOR.out hsz)); have HO5 := Lib.hid ho5; clear ho5 hg5)))
    go_roundw
    case rel =>
      refine ⟨k + 1, by omega, by go_num, ?_, HB5.out⟩
      rw [flat64_take_succ HX.out, ← List.append_assoc]
      exact HO5.out
    case measure => simp [intOf]; omega
  · have HOK : Hid (OwnB wr w2.heap.size u6 (short (sn : Int) ++ x.sigs.flatten)) := by
      have := HOR.out
      rw [List.take_of_length_le (by have := HSL.out; omega)] at this
      exact Lib.hid this
    have HS2 := Lib.hid (HSM2.out.below HBR.out)
    obtain ⟨N, hN⟩ : ∃ N, N = (encTx x).length := ⟨_, rfl⟩
    have HE : Hid (short (sn : Int) ++ x.sigs.flatten ++ enc x.m = encTx x) := Lib.hid (by unfold encTx; rw [HSL.out]; simp only [List.append_assoc])
    have HN := Lib.hid hN
    have hbnd : N ≤ 10000000 := by have := HLEN.out; have := H3.out; omega
    have HBND := Lib.hid hbnd
    clear HOR hN
    go_upto_region 12 with (first
      | (at_builtin; (with_reducible show wpList _ _ _ ({ dst := some 41, op := _, type := _, pos := _, after := _, guard := _ } :: _) _ _); go_must (refine wpList_addB rfl (.tmp 39) (.tmp 40) 37 rfl w2.heap.size Try.underlying37 info_u8 u6 _ ?_ HOK.out w2.heap.size MA (enc x.m).length mc (enc x.m) ?_ HS2.out hsz ?_ ?_; go_simp; go_simp; (rw [HE.out, ← HN.out]; have := HBND.out; omega); intro v5 w5 ho5 hg5; rw [HE.out] at ho5; have HB5 := Lib.hid (HBR.out.trans (hg5.belowB HOK.out hsz)); have HO5 := Lib.hid ho5; clear ho5 hg5)))
    obtain ⟨A5, c5, rfl⟩ := HO5.out.form
    rw [← HN.out]
    have hB5 := HB2.out.trans (HB5.out.mono HB2.out.size)
    have HBF := Lib.hid hB5
    clear hB5
    by_cases hbig : 1232 < N
    · have hbig' : (1232 : Int) < N := by omega
      go_wp2_with fail
      go_ret2
      exact .inr (.inl ⟨HF.out, by rw [← HN.out]; exact hbig, rfl, HBF.out⟩)
    · have hbig' : ¬ (1232 : Int) < N := by omega
      go_wp2_with fail
      go_ret2
      refine .inr (.inr ⟨HF.out, by rw [← HN.out]; omega, ⟨_, rfl, ?_⟩, HBF.out⟩)
      have h9 := own_base HO5.out HB2.out.size
      have h10 : OwnB w5 w.heap.size (.slice A5 N c5) (encTx x) := by rw [HN.out]; exact h9
      exact h10
end Go.Proofs.Ytolijdbdpnbchaa

namespace Go.Proofs.Ytolijdbdpnbchaa
open Go.RowKit
set_option linter.unusedVariables false

/-- no list of it is longer than memory is wide -/
structure Sized (m : LMsg) : Prop where
  keys : m.keys.length ≤ 140737488355328
  ins : m.ins.length ≤ 140737488355328
  looks : m.looks.length ≤ 140737488355328
  inl : ∀ i ∈ m.ins, i.acc.length ≤ 140737488355328 ∧ i.dat.length ≤ 140737488355328
  lol : ∀ l ∈ m.looks, l.wr.length ≤ 140737488355328 ∧ l.rd.length ≤ 140737488355328

def inSize (l : List LIn) : Nat := (l.map fun i => i.acc.length + i.dat.length).sum
def lookSize (l : List LLook) : Nat := (l.map fun i => i.wr.length + i.rd.length).sum
/-- how much of it is gone through -/
def total (m : LMsg) : Nat := m.keys.length + m.ins.length + m.looks.length + inSize m.ins + lookSize m.looks

theorem inSize_succ {l : List LIn} {k : Nat} {x : LIn} (h : l[k]? = some x) : inSize (l.take (k + 1)) = inSize (l.take k) + (x.acc.length + x.dat.length) := by
  unfold inSize
  rw [List.take_add_one, h]
  simp
theorem lookSize_succ {l : List LLook} {k : Nat} {x : LLook} (h : l[k]? = some x) : lookSize (l.take (k + 1)) = lookSize (l.take k) + (x.wr.length + x.rd.length) := by
  unfold lookSize
  rw [List.take_add_one, h]
  simp

/-- what Great tells -/
def GreatDone (w : World) (m : LMsg) (e : Ending) (w' : World) : Prop := (∃ b, e = .returned (.bool b) ∧ (b = false → total m < 3000)) ∧ Below w.heap.size w w'

set_option maxRecDepth 100000 in
set_option maxHeartbeats 1000000 in
theorem great_ (q : Raw) (m : LMsg) (B : Nat) (w : World) (hm : MsgIn w B q m) (hB : B ≤ w.heap.size) (hs : Sized m) :
    Calls Try.prog 26 #[.agg (q.cells m).toArray] w (GreatDone w m) := by
  obtain ⟨KA, kn, kc, IA, n, ic, LA, ln, lc⟩ := q
  have rb := MsgRow.of (Row.new w 31 (Raw.cells ⟨KA, kn, kc, IA, n, ic, LA, ln, lc⟩ m)) hm.recent
  have hb0 := (Below.refl w.heap.size w).alloc (Nat.le_refl _) (.cells (Raw.cells ⟨KA, kn, kc, IA, n, ic, LA, ln, lc⟩ m).toArray 31)
  obtain ⟨cs, hcs⟩ : ∃ cs, cs = Raw.cells ⟨KA, kn, kc, IA, n, ic, LA, ln, lc⟩ m := ⟨_, rfl⟩
  rw [← hcs] at rb hb0 ⊢
  clear hcs
  obtain ⟨d0, d1, d2, d3, d4, d37, d38⟩ := rb
  dsimp only at d4 d37 d38
  have lk := hm.keys.len
  have li := hm.ins.len
  have ll := hm.looks.len
  dsimp only at lk li ll
  have k1 := hs.keys
  have k2 := hs.ins
  have k3 := hs.looks
  rw [lk] at k1
  rw [li] at k2
  rw [ll] at k3
  have HM := Lib.hid (hm.below (hb0.mono hB))
  have HSZ := Lib.hid hs
  have HB0 := Lib.hid hb0
  have HT : Hid (total m = kn + n + ln + inSize m.ins + lookSize m.looks) := Lib.hid (by unfold total; rw [lk, li, ll])
  clear d0 d1 d2 d3 hm hs hb0
  go_enter Try.func26, Try.ntmps26
  go_wp2
  generalize (w.alloc (Obj.cells cs.toArray 31)) = W0 at *
  go_loopw [3, 4] (fun nn i wr => ∃ (k j s : Nat), k ≤ n ∧ i = .int .i64 k ∧ nn = .int .i64 s ∧ wr = W0.drewN j ∧ s = kn + n + ln + inSize (m.ins.take k) ∧ s ≤ 900000000000000) (fun nn i _ => n - (intOf i).toNat)
  case atStart => exact ⟨0, 0, kn + n + ln, Nat.zero_le _, rfl, by simp, rfl, by simp [inSize], by omega⟩
  case round =>
    obtain ⟨k, j, s, hk, rfl, rfl, rfl, hsum, hs9⟩ := hrel
    have HS := Lib.hid hsum
    clear hsum
    by_cases hgo : k < n ∧ s < 3000
    · obtain ⟨hlt, hs3⟩ := hgo
      obtain ⟨a, x, va, vd, rfl, hab, hx, hat⟩ := HM.out.ins.get hlt
      obtain ⟨A1, c1, rfl, _, _, _⟩ := hat.acc.is
      obtain ⟨A2, c2, rfl, _, _, _⟩ := hat.dat.is
      have e1 : W0.cell? ⟨(a.add (k * 3)).block, (a.add (k * 3)).off + 1, none⟩ = some (.slice A1 x.acc.length c1) := hat.cells 1 _ rfl
      have e2 : W0.cell? ⟨(a.add (k * 3)).block, (a.add (k * 3)).off + 2, none⟩ = some (.slice A2 x.dat.length c2) := hat.cells 2 _ rfl
      have l1 := (HSZ.out.inl x (List.mem_of_getElem? hx)).1
      have l2 := (HSZ.out.inl x (List.mem_of_getElem? hx)).2
      have HX := Lib.hid (inSize_succ hx)
      clear hat hx
      go_wp2
      go_quiet (fail)
      go_wp2
      go_roundw
      case rel => exact ⟨k + 1, j + nq, s + x.acc.length + x.dat.length, by omega, by go_num, by go_num, by simp, by have := HS.out; have := HX.out; omega, by omega⟩
      case measure => simp [intOf]; omega
    · have HGO : Hid (3000 ≤ s ∨ s = kn + n + ln + inSize m.ins) := by
        refine Lib.hid ?_
        by_cases h3 : s < 3000
        · right
          have hkn : k = n := by
            have : ¬ k < n := fun h => hgo ⟨h, h3⟩
            omega
          have := HS.out
          rwa [hkn, List.take_of_length_le (by omega)] at this
        · left; omega
      have hdec : (k < n ∧ ¬ s < 3000) ∨ ¬ k < n := by
        by_cases h : k < n
        · exact .inl ⟨h, fun h3 => hgo ⟨h, h3⟩⟩
        · exact .inr h
      clear HS hgo
      rcases hdec with ⟨hd1, hd2⟩ | hd1
      all_goals
        (go_wp2
         go_loopw [3, 5] (fun nn i wr => ∃ (k j s : Nat), k ≤ ln ∧ i = .int .i64 k ∧ nn = .int .i64 s ∧ wr = W0.drewN j ∧ (3000 ≤ s ∨ s = kn + n + ln + inSize m.ins + lookSize (m.looks.take k)) ∧ s ≤ 900000000000000) (fun nn i _ => ln - (intOf i).toNat)
         case atStart => exact ⟨0, j, s, Nat.zero_le _, rfl, rfl, rfl, by simpa [lookSize] using HGO.out, hs9⟩
         case round =>
          clear HGO hd1
          try clear hd2
          clear hs9 hk
          obtain ⟨k, j, s, hk, rfl, rfl, rfl, hsum, hs9⟩ := hrel
          have HS := Lib.hid hsum
          clear hsum
          by_cases hgo : k < ln ∧ s < 3000
          · obtain ⟨hlt, hs3⟩ := hgo
            obtain ⟨a, x, va, vd, rfl, hab, hx, hat⟩ := HM.out.looks.get hlt
            have hc1 : W0.cell? ((a.add (k * 34)).add 32) = some va := hat.cells 32 va (by rw [List.getElem?_append_right (by rw [bv_length, hat.len]; exact Nat.le_refl _), bv_length, hat.len]; rfl)
            have hc2 : W0.cell? ((a.add (k * 34)).add 33) = some vd := hat.cells 33 vd (by rw [List.getElem?_append_right (by rw [bv_length, hat.len]; omega), bv_length, hat.len]; rfl)
            obtain ⟨A1, c1, rfl, _, _, _⟩ := hat.wr.is
            obtain ⟨A2, c2, rfl, _, _, _⟩ := hat.rd.is
            have e1 : W0.cell? ⟨(a.add (k * 34)).block, (a.add (k * 34)).off + 32, none⟩ = some (.slice A1 x.wr.length c1) := hc1
            have e2 : W0.cell? ⟨(a.add (k * 34)).block, (a.add (k * 34)).off + 33, none⟩ = some (.slice A2 x.rd.length c2) := hc2
            have l1 := (HSZ.out.lol x (List.mem_of_getElem? hx)).1
            have l2 := (HSZ.out.lol x (List.mem_of_getElem? hx)).2
            have HX := Lib.hid (lookSize_succ hx)
            clear hat hx hc1 hc2
            go_wp2
            go_quiet (fail)
            go_wp2
            go_roundw
            case rel =>
              refine ⟨k + 1, j + nq, s + x.wr.length + x.rd.length, by omega, by go_num, by go_num, by simp, ?_, by omega⟩
              have h1 := HS.out
              have h2 := HX.out
              omega
            case measure => simp [intOf]; omega
          · have HT2 : Hid (s < 3000 → total m < 3000) := by
              refine Lib.hid fun h3 => ?_
              have hkn : k = ln := by
                have : ¬ k < ln := fun h => hgo ⟨h, h3⟩
                omega
              have h1 := HS.out
              rw [hkn, List.take_of_length_le (by omega)] at h1
              have h2 := HT.out
              omega
            have hdec : (k < ln ∧ ¬ s < 3000) ∨ ¬ k < ln := by
              by_cases h : k < ln
              · exact .inl ⟨h, fun h3 => hgo ⟨h, h3⟩⟩
              · exact .inr h
            clear HS hgo
            rcases hdec with ⟨hd1, hd2⟩ | hd1
            all_goals
              (go_wp2
               go_ret
               exact ⟨⟨_, rfl, fun hb => HT2.out (by first | (simp at hb; done) | (simp at hb; omega))⟩, below_drewN HB0.out j⟩))

theorem encIn_len (i : LIn) : (encIn i).length ≤ 7 + (i.acc.length + i.dat.length) := by
  have h1 := short_len3 i.acc.length
  have h2 := short_len3 i.dat.length
  simp only [encIn, encL, List.length_cons, List.length_append]
  omega
theorem encLook_len (l : LLook) (h : l.tab.length = 32) : (encLook l).length ≤ 38 + (l.wr.length + l.rd.length) := by
  have h1 := short_len3 l.wr.length
  have h2 := short_len3 l.rd.length
  simp only [encLook, encL, List.length_append, h]
  omega
theorem ins_len : ∀ (l : List LIn), (l.flatMap encIn).length ≤ 7 * l.length + inSize l
  | [] => by simp
  | i :: r => by
    have h1 := ins_len r
    have h2 := encIn_len i
    simp only [List.flatMap_cons, List.length_append, List.length_cons, inSize, List.map_cons, List.sum_cons] at h1 ⊢
    omega
theorem looks_len : ∀ (l : List LLook), (∀ x ∈ l, x.tab.length = 32) → (l.flatMap encLook).length ≤ 38 * l.length + lookSize l
  | [], _ => by simp
  | i :: r, h => by
    have h1 := looks_len r (fun x hx => h x (by simp [hx]))
    have h2 := encLook_len i (h i (by simp))
    simp only [List.flatMap_cons, List.length_append, List.length_cons, lookSize, List.map_cons, List.sum_cons] at h1 ⊢
    omega

theorem LooksIn.tabs {w : World} {B n : Nat} {A : Option Addr} {l : List LLook} (h : LooksIn w B A n l) : ∀ x ∈ l, x.tab.length = 32 := by
  intro x hx
  obtain ⟨i, hi, rfl⟩ := List.getElem_of_mem hx
  obtain ⟨a, va, vd, _, _, _, ht, _⟩ := h.at_ i _ (List.getElem?_eq_getElem hi)
  exact ht

theorem enc_le {w : World} {B : Nat} {q : Raw} {m : LMsg} (hm : MsgIn w B q m) (ht : total m < 3000) : (enc m).length ≤ 1000000 := by
  have h1 := enc_parts m
  have h2 := flatten_len m.keys hm.keys.each
  have h3 := ins_len m.ins
  have h4 := looks_len m.looks hm.looks.tabs
  have h5 := hm.recent
  have h6 := short_len3 m.keys.length
  have h7 := short_len3 m.ins.length
  have h8 := short_len3 m.looks.length
  have h9 : (encHead m).length ≤ 4 := by unfold encHead; split <;> simp
  have h10 : (encTail m).length ≤ 3 + (m.looks.flatMap encLook).length := by
    unfold encTail
    split
    · simp only [List.length_append]; omega
    · simp
  unfold total at ht
  omega

theorem size_mem {l : List LIn} {x : LIn} (h : x ∈ l) : x.acc.length + x.dat.length ≤ inSize l := by
  induction l with
  | nil => cases h
  | cons y r ih =>
    simp only [inSize, List.map_cons, List.sum_cons] at ih ⊢
    rcases List.mem_cons.1 h with rfl | h
    · omega
    · have := ih h; omega
theorem lsize_mem {l : List LLook} {x : LLook} (h : x ∈ l) : x.wr.length + x.rd.length ≤ lookSize l := by
  induction l with
  | nil => cases h
  | cons y r ih =>
    simp only [lookSize, List.map_cons, List.sum_cons] at ih ⊢
    rcases List.mem_cons.1 h with rfl | h
    · omega
    · have := ih h; omega

theorem fits_of {m : LMsg} (ht : total m < 3000) : Fits m ↔ (m.v0 = true ∨ (m.looks = [] ∧ m.s < 128)) := by
  unfold total at ht
  refine ⟨fun h => h.1, fun h => ⟨h, by omega, by omega, by omega, fun i hi => ?_, fun l hl => ?_⟩⟩
  · have := size_mem hi
    omega
  · have := lsize_mem hl
    omega
end Go.Proofs.Ytolijdbdpnbchaa

namespace Go.Proofs.Ytolijdbdpnbchaa
open Go.RowKit
set_option linter.unusedVariables false

set_option maxRecDepth 100000 in
set_option maxHeartbeats 400000 in
theorem great4 (s : TRaw) (x : LTx) (B : Nat) (w : World) (hm : TxIn w B s x) (hB : B ≤ w.heap.size) (hs : Sized x.m) :
    Calls Try.prog 8 #[.agg (s.cells x).toArray] w fun e w' => (∃ b, e = .returned (.bool b) ∧ (b = false → x.sigs.length ≤ 100 ∧ total x.m < 3000)) ∧ Below w.heap.size w w' := by
  obtain ⟨SA, sn, sc, q⟩ := s
  have hsl := hm.sigs.len
  have hsc := hm.sn
  dsimp only at hsl hsc
  have hrow := Row.new w 33 (TRaw.cells ⟨SA, sn, sc, q⟩ x)
  have hb0 := (Below.refl w.heap.size w).alloc (Nat.le_refl _) (.cells (TRaw.cells ⟨SA, sn, sc, q⟩ x).toArray 33)
  have c0 : (w.alloc (.cells (TRaw.cells ⟨SA, sn, sc, q⟩ x).toArray 33)).cell? ⟨w.heap.size, 0, none⟩ = some (.slice SA sn sc) := hrow.cell 0
  have HG := Lib.hid (great_ q x.m B _ (hm.below (hb0.mono hB)).m (Nat.le_trans hB hb0.size) hs)
  have HSM := Lib.hid (show (Try.prog.info? 31).map (·.size) = some (q.cells x.m).length by rw [size_msg, cells_len hm.m.recent])
  have HCM := Lib.hid (tcells_m (s := ⟨SA, sn, sc, q⟩) (x := x))
  dsimp only at HCM
  have HSL := Lib.hid hsl
  unfold maxLen at hsc
  generalize TRaw.cells ⟨SA, sn, sc, q⟩ x = cs at *
  have HROW := Lib.hid hrow
  have HB0 := Lib.hid hb0
  clear hrow hb0 hm hsl
  by_cases h : 100 < (sn : Int)
  · go_enter Try.func8, Try.ntmps8
    go_wp2_with fail
    go_ret
    exact ⟨⟨true, rfl, fun h => by cases h⟩, HB0.out⟩
  · go_enter Try.func8, Try.ntmps8
    go_wp2_with (first
      | ((with_reducible show wpList _ _ _ ({ dst := some 9, op := Op.load _ _, type := _, pos := _, after := _, guard := _ } :: _) _ _); go_must (refine wpList_load_atg (by kernel_rfl) 31 (.tmp 8) rfl ⟨w.heap.size, 1, none⟩ (q.cells x.m) _ Try.underlying31 rfl HSM.out (fun j u hu => by rw [addr_row, HROW.out.cell, HCM.out]; exact hu) ?_ ?_; go_simp)))
    refine HG.out.mono ?_
    rintro e w1 ⟨⟨b, rfl, hgr⟩, hb1⟩
    go_wp2_with fail
    go_ret
    exact ⟨⟨b, rfl, fun hb => ⟨by have := HSL.out; omega, hgr hb⟩⟩, HB0.out.trans (hb1.mono HB0.out.size)⟩
end Go.Proofs.Ytolijdbdpnbchaa

namespace Go.Proofs.Ytolijdbdpnbchaa
open Go.RowKit
set_option linter.unusedVariables false

theorem same_yes3 (A B : Option Addr) (n m c d : Nat) (xs : List Int) (w : World) (S T : Nat)
    (hx : Sees w S A n (bv xs)) (hy : Sees w T B m (bv xs)) (hn : n ≤ maxLen) (hm : m ≤ maxLen) :
    Calls Try.prog 13 #[.slice A n c, .slice B m d] w fun e w' => e = .returned (.bool true) ∧ ∃ k, w' = w.drewN k := by
  refine (sameBytes A B n m c d xs xs w S T hx hy hn hm).mono ?_
  rintro e w' ⟨rfl, k, rfl⟩
  exact ⟨by simp, k, rfl⟩
end Go.Proofs.Ytolijdbdpnbchaa

namespace Go.Proofs.Ytolijdbdpnbchaa
open Go.RowKit
set_option linter.unusedVariables false

open Go.ChangeShapes Go.WideShapes Go.RowKit

theorem list_of {α : Type} {p : Nat → α → Prop} : ∀ (n : Nat), (∀ i, i < n → ∃ x, p i x) → ∃ l : List α, l.length = n ∧ ∀ i x, l[i]? = some x → p i x
  | 0, _ => ⟨[], rfl, fun i x h => by simp at h⟩
  | n + 1, h => by
    obtain ⟨l, hl, hp⟩ := list_of n fun i hi => h i (by omega)
    obtain ⟨x, hx⟩ := h n (Nat.lt_succ_self _)
    refine ⟨l ++ [x], by simp [hl], fun i y hy => ?_⟩
    by_cases hi : i < n
    · rw [List.getElem?_append_left (by omega)] at hy
      exact hp i y hy
    · rw [List.getElem?_append_right (by omega)] at hy
      have h1 := (List.getElem?_eq_some_iff.1 hy).1
      simp at h1
      have : i = n := by omega
      subst this
      rw [show i - l.length = 0 by omega] at hy
      simp at hy
      exact hy ▸ hx

theorem KeysIn.of_at {w : World} {B : Nat} {A : Option Addr} {n : Nat} {l : List (List Int)} (hn : l.length = n) (h : ∀ (i : Nat) x, l[i]? = some x → x.length = 32 ∧ ∃ a, A = some a ∧ a.block < B ∧ ∀ j u, (bv x)[j]? = some u → w.cell? (a.add (i * 32 + j)) = some u) : KeysIn w B A n l := by
  have he : ∀ k ∈ l, k.length = 32 := fun k hk => by
    obtain ⟨i, hi, rfl⟩ := List.getElem_of_mem hk
    exact (h i _ (List.getElem?_eq_getElem hi)).1
  have hf : l.flatten.length = n * 32 := by
    rw [← hn]
    clear hn h
    induction l with
    | nil => rfl
    | cons y r ih =>
      have h1 := ih (fun k hk => he k (by simp [hk]))
      have h2 := he y (by simp)
      simp only [List.flatten_cons, List.length_append, List.length_cons, h1, h2]
      omega
  refine ⟨hn, he, ⟨by rw [bv_length]; exact hf, fun i u hu => ?_⟩⟩
  have hi := (List.getElem?_eq_some_iff.1 hu).1
  rw [bv_length, hf] at hi
  have hk : i / 32 < l.length := by omega
  obtain ⟨h1, a, rfl, h2, h3⟩ := h (i / 32) _ (List.getElem?_eq_getElem hk)
  refine ⟨_, rfl, h2, ?_⟩
  have hlt : i % 32 < (bv l[i / 32]).length := by rw [bv_length, h1]; omega
  obtain ⟨u', hu'⟩ : ∃ u', (bv l[i / 32])[i % 32]? = some u' := ⟨_, List.getElem?_eq_getElem hlt⟩
  have h4 := h3 _ _ hu'
  rw [show i / 32 * 32 + i % 32 = i by omega] at h4
  rw [h4]
  rw [bv_getElem?] at hu hu'
  obtain ⟨z', hz', rfl⟩ : ∃ z, (l[i / 32])[i % 32]? = some z ∧ u' = .int .u8 z := by
    cases hq : (l[i / 32])[i % 32]? with
    | none => rw [hq] at hu'; simp at hu'
    | some z => rw [hq] at hu'; exact ⟨z, rfl, by simpa using hu'.symm⟩
  have h5 := flatten_at 32 l (i / 32) _ (fun i y hy => he y (List.mem_of_getElem? hy)) (List.getElem?_eq_getElem hk) (i % 32) z' hz'
  rw [show i / 32 * 32 + i % 32 = i by omega] at h5
  rw [h5] at hu
  exact hu

theorem byte_wf {z : Int} (h : (Lit.int .u8 z).wf = true) : IsByte z := by
  have := bounds_u8 h
  unfold IsByte
  omega

section
variable {H : Type} {enc : TypeId × Value → H}
/-- no list in it is longer than the form's reach -/
def Wt (t : TypeId) (d : DataW H) : Prop := ∀ n ∈ d.weights Try.prog t, n ≤ reachBytes
theorem wt_all {e : TypeId} : ∀ {l : List (DataW H)}, (∀ n ∈ DataW.weightsAll Try.prog e l, n ≤ reachBytes) → ∀ d ∈ l, Wt e d
  | [], _, d, hd => by simp at hd
  | y :: r, h, d, hd => by
    rcases List.mem_cons.1 hd with rfl | hd
    · exact fun n hn => h n (by simp [DataW.weightsAll, hn])
    · exact wt_all (l := r) (fun n hn => h n (by simp [DataW.weightsAll, hn])) d hd

variable {w : World} {base : Nat} {held : Bool}
theorem open_sl {t e : TypeId} {fuel : Nat} {cs : List Value} {x : DataW H × List MemPlace} (ht : Try.prog.underlying t = some (.slice e)) (hc : 0 < Try.prog.cellsOf e)
    (h : DataW.trod enc Try.prog w base (fun _ => true) held fuel t cs = some x) (hw : Wt t x.1) :
    ∃ A n c, cs = [.slice A n c] ∧ n ≤ c ∧ c ≤ maxLen ∧ n * Try.prog.bytesOf e ≤ reachBytes ∧ ∀ i, i < n → ∃ a cs' y m, A = some a ∧ a.block < w.heap.size ∧ cs'.length = Try.prog.cellsOf e ∧
      (∀ j u, cs'[j]? = some u → w.cell? (a.add (i * Try.prog.cellsOf e + j)) = some u) ∧ DataW.trod enc Try.prog w base (fun _ => true) held m e cs' = some y ∧ Wt e y.1 := by
  rcases Go.Deep.open_slice ht h with ⟨rfl, rfl⟩ | ⟨a, len, cap, m, n, D, Pl, rfl, hb, hl, hm, hmm, rfl, hx⟩
  · exact ⟨none, 0, 0, rfl, Nat.le_refl _, Nat.zero_le _, by simp, fun i hi => by omega⟩
  · have hm' : m = cap := by simpa using hmm
    have h1 : ((len + (m - len)) * Try.prog.bytesOf e) ≤ reachBytes := by
      refine hw _ ?_
      simp [DataW.weights, ht]
    have h2 : ∀ d ∈ (List.range len).map D, Wt e d := wt_all fun n hn => hw n (by simp only [DataW.weights, ht]; simp [hn])
    refine ⟨some a, len, cap, rfl, hl, hm, Nat.le_trans (Nat.mul_le_mul_right _ (by omega)) h1, fun i hi => ?_⟩
    obtain ⟨cs', hcs, htr⟩ := hx i (by omega)
    have hbl := World.cells?_block hcs hc
    obtain ⟨_, hlen, hat⟩ := World.cells?_some hcs
    refine ⟨a, cs', _, n, rfl, by rwa [addr_block] at hbl, hlen, fun j u hu => ?_, htr, h2 _ (by simp; exact ⟨i, hi, rfl⟩)⟩
    have := hat j (by have := (List.getElem?_eq_some_iff.1 hu).1; omega)
    rw [addr_add] at this
    rw [this, hu]

theorem cellsU8 : Try.prog.cellsOf 5 = 1 := by kernel_rfl
theorem bytesU8 : Try.prog.bytesOf 5 = 1 := by kernel_rfl
theorem cellsKey : Try.prog.cellsOf 58 = 32 := by kernel_rfl
theorem bytesKey : Try.prog.bytesOf 58 = 32 := by kernel_rfl
theorem cellsHash : Try.prog.cellsOf 27 = 32 := by kernel_rfl
theorem cellsIn : Try.prog.cellsOf 89 = 3 := by kernel_rfl
theorem bytesIn : Try.prog.bytesOf 89 = 56 := by kernel_rfl
theorem cellsLook : Try.prog.cellsOf 93 = 34 := by kernel_rfl
theorem bytesLook : Try.prog.bytesOf 93 = 80 := by kernel_rfl
theorem cellsBs : Try.prog.cellsOf 37 = 1 := by kernel_rfl
theorem reach47 : reachBytes ≤ 140737488355328 := by decide

theorem open_bytes {fuel : Nat} {v : Value} {x : DataW H × List MemPlace} (h : DataW.trod enc Try.prog w base (fun _ => true) held fuel 37 [v] = some x) (hw : Wt 37 x.1) :
    ∃ l, BytesIn w w.heap.size v l ∧ AllBytes l ∧ l.length ≤ 140737488355328 := by
  obtain ⟨A, n, c, hcs, h1, h2, h3, h4⟩ := open_sl Try.underlying37 (by rw [cellsU8]; omega) h hw
  obtain rfl : v = .slice A n c := by simpa using hcs
  rw [bytesU8] at h3
  have := reach47
  obtain ⟨l, hl, hp⟩ := list_of (α := Int) (p := fun i z => IsByte z ∧ ∃ a, A = some a ∧ a.block < w.heap.size ∧ w.cell? (a.add i) = some (.int .u8 z)) n fun i hi => by
    obtain ⟨a, cs', y, m, e1, e2, e3, e4, e5, _⟩ := h4 i hi
    obtain ⟨z, rfl, _, hz⟩ := DataW.trod_int Try.underlying5 e5
    have := e4 0 _ rfl
    rw [cellsU8, Nat.mul_one, Nat.add_zero] at this
    exact ⟨z, byte_wf hz, a, e1, e2, this⟩
  subst hl
  refine ⟨l, ⟨A, c, rfl, ⟨bv_length _, fun i u hu => ?_⟩, h1, h2⟩, fun z hz => ?_, by omega⟩
  · rw [bv_getElem?] at hu
    cases hq : l[i]? with
    | none => rw [hq] at hu; simp at hu
    | some z =>
      rw [hq] at hu
      obtain ⟨_, a, e1, e2, e3⟩ := hp i z hq
      obtain rfl : Value.int .u8 z = u := by simpa using hu
      exact ⟨a, e1, e2, e3⟩
  · obtain ⟨i, hi, rfl⟩ := List.getElem_of_mem hz
    exact (hp i _ (List.getElem?_eq_getElem hi)).1

theorem open_32 {t : TypeId} {fuel : Nat} {cs : List Value} {x : DataW H × List MemPlace} (ht : Try.prog.underlying t = some (.array 32 5)) (hc : Try.prog.cellsOf t = 32) (h : DataW.trod enc Try.prog w base (fun _ => true) held fuel t cs = some x) :
    ∃ l : List Int, cs = bv l ∧ l.length = 32 ∧ AllBytes l := by
  obtain ⟨xs, m, _, _, hl, hxs, hat⟩ := DataW.trod_array ht h
  obtain ⟨l, hll, hp⟩ := list_of (α := Int) (p := fun i z => IsByte z ∧ cs[i]? = some (.int .u8 z)) 32 fun i hi => by
    have h1 := hat i hi
    have hx : xs[i]? = some xs[i] := List.getElem?_eq_getElem (by omega)
    rw [cellsU8, hx] at h1
    obtain ⟨z, hz, _, hwz⟩ := DataW.trod_int Try.underlying5 h1
    refine ⟨z, byte_wf hwz, ?_⟩
    have := congrArg List.head? hz
    simpa [List.head?_take] using this
  rw [hc] at hl
  refine ⟨l, List.ext_getElem? fun i => ?_, hll, fun z hz => ?_⟩
  · by_cases hi : i < 32
    · have e := List.getElem?_eq_getElem (l := l) (i := i) (by omega)
      rw [bv_getElem?, e, (hp i _ e).2]
      rfl
    · rw [List.getElem?_eq_none (by omega), List.getElem?_eq_none (by rw [bv_length]; omega)]
  · obtain ⟨i, hi, rfl⟩ := List.getElem_of_mem hz
    exact (hp i _ (List.getElem?_eq_getElem hi)).1
end

open Go.ChangeShapes Go.WideShapes Go.RowKit

theorem three_of {cs : List Value} (h : cs.length = 3) : ∃ a b c, cs = [a, b, c] := by
  match cs, h with
  | [a, b, c], _ => exact ⟨a, b, c, rfl⟩
theorem two_of {cs : List Value} (h : cs.length = 2) : ∃ a b, cs = [a, b] := by
  match cs, h with
  | [a, b], _ => exact ⟨a, b, rfl⟩

section
variable {H : Type} {enc : TypeId × Value → H} {w : World} {base : Nat} {held : Bool}
theorem wt_in {y0 y1 y2 : DataW H} (h : Wt 89 (.agg [y0, y1, y2])) : Wt 37 y1 ∧ Wt 37 y2 := by
  refine ⟨fun n hn => h n ?_, fun n hn => h n ?_⟩ <;> simp only [DataW.weights, Try.underlying89] <;> simp [DataW.weightsEach, hn]
theorem wt_look {y0 y1 y2 : DataW H} (h : Wt 93 (.agg [y0, y1, y2])) : Wt 37 y1 ∧ Wt 37 y2 := by
  refine ⟨fun n hn => h n ?_, fun n hn => h n ?_⟩ <;> simp only [DataW.weights, Try.underlying93] <;> simp [DataW.weightsEach, hn]
theorem wt_msg {y0 y1 y2 y3 y4 y5 : DataW H} (h : Wt 31 (.agg [y0, y1, y2, y3, y4, y5])) : Wt 25 y2 ∧ Wt 28 y4 ∧ Wt 29 y5 := by
  refine ⟨fun n hn => h n ?_, fun n hn => h n ?_, fun n hn => h n ?_⟩ <;> simp only [DataW.weights, Try.underlying31] <;> simp [DataW.weightsEach, hn]

theorem open_keys {fuel : Nat} {v : Value} {x : DataW H × List MemPlace} (h : DataW.trod enc Try.prog w base (fun _ => true) held fuel 25 [v] = some x) (hw : Wt 25 x.1) :
    ∃ A n c l, v = .slice A n c ∧ n ≤ c ∧ c ≤ maxLen ∧ KeysIn w w.heap.size A n l ∧ (∀ k ∈ l, k.length = 32 ∧ AllBytes k) ∧ l.length ≤ 140737488355328 := by
  obtain ⟨A, n, c, hcs, h1, h2, h3, h4⟩ := open_sl Try.underlying25 (by rw [cellsKey]; omega) h hw
  obtain rfl : v = .slice A n c := by simpa using hcs
  rw [bytesKey] at h3
  have := reach47
  obtain ⟨l, hl, hp⟩ := list_of (α := List Int) (p := fun i z => (z.length = 32 ∧ AllBytes z) ∧ ∃ a, A = some a ∧ a.block < w.heap.size ∧ ∀ j u, (bv z)[j]? = some u → w.cell? (a.add (i * 32 + j)) = some u) n fun i hi => by
    obtain ⟨a, cs', y, m, e1, e2, e3, e4, e5, _⟩ := h4 i hi
    obtain ⟨z, rfl, hz, hz'⟩ := open_32 Try.underlying58 cellsKey e5
    rw [cellsKey] at e4
    exact ⟨z, ⟨hz, hz'⟩, a, e1, e2, e4⟩
  subst hl
  refine ⟨A, l.length, c, l, rfl, h1, h2, KeysIn.of_at rfl fun i x hx => ⟨(hp i x hx).1.1, (hp i x hx).2⟩, fun k hk => ?_, by omega⟩
  obtain ⟨i, hi, rfl⟩ := List.getElem_of_mem hk
  exact (hp i _ (List.getElem?_eq_getElem hi)).1

theorem open_ins {fuel : Nat} {v : Value} {x : DataW H × List MemPlace} (h : DataW.trod enc Try.prog w base (fun _ => true) held fuel 28 [v] = some x) (hw : Wt 28 x.1) :
    ∃ A n c l, v = .slice A n c ∧ n ≤ c ∧ c ≤ maxLen ∧ InsIn w w.heap.size A n l ∧ (∀ i ∈ l, (IsByte i.p ∧ AllBytes i.acc ∧ AllBytes i.dat) ∧ i.acc.length ≤ 140737488355328 ∧ i.dat.length ≤ 140737488355328) ∧ l.length ≤ 140737488355328 := by
  obtain ⟨A, n, c, hcs, h1, h2, h3, h4⟩ := open_sl Try.underlying28 (by rw [cellsIn]; omega) h hw
  obtain rfl : v = .slice A n c := by simpa using hcs
  rw [bytesIn] at h3
  have := reach47
  obtain ⟨l, hl, hp⟩ := list_of (α := LIn) (p := fun i z => ((IsByte z.p ∧ AllBytes z.acc ∧ AllBytes z.dat) ∧ z.acc.length ≤ 140737488355328 ∧ z.dat.length ≤ 140737488355328) ∧
      ∃ a va vd, A = some a ∧ a.block < w.heap.size ∧ w.cell? (a.add (i * 3)) = some (.int .u8 z.p) ∧ w.cell? (a.add (i * 3 + 1)) = some va ∧ w.cell? (a.add (i * 3 + 2)) = some vd ∧ BytesIn w w.heap.size va z.acc ∧ BytesIn w w.heap.size vd z.dat) n fun i hi => by
    obtain ⟨a, cs', y, m, e1, e2, e3, e4, e5, e6⟩ := h4 i hi
    obtain ⟨y0, y1, y2, k, rfl, hl, t0, t1, t2⟩ := Go.Deep.trod_struct3 Try.underlying89 e5
    rw [cellsIn] at e3 e4
    obtain ⟨c0, c1, c2, rfl⟩ : ∃ c0 c1 c2, cs' = [c0, c1, c2] := three_of e3
    obtain ⟨w1, w2⟩ := wt_in e6
    have t0' : DataW.trod enc Try.prog w base (fun _ => true) held k 5 [c0] = some y0 := by simpa [cellsU8] using t0
    have t1' : DataW.trod enc Try.prog w base (fun _ => true) held k 37 [c1] = some y1 := by simpa [cellsBs] using t1
    have t2' : DataW.trod enc Try.prog w base (fun _ => true) held k 37 [c2] = some y2 := by simpa [cellsBs] using t2
    obtain ⟨z, hz, _, hz'⟩ := DataW.trod_int Try.underlying5 t0'
    obtain rfl : c0 = .int .u8 z := by simpa using hz
    obtain ⟨la, a1, a2, a3⟩ := open_bytes t1' w1
    obtain ⟨ld, d1, d2, d3⟩ := open_bytes t2' w2
    exact ⟨⟨z, la, ld⟩, ⟨⟨byte_wf hz', a2, d2⟩, a3, d3⟩, a, c1, c2, e1, e2, e4 0 _ rfl, e4 1 _ rfl, e4 2 _ rfl, a1, d1⟩
  subst hl
  refine ⟨A, l.length, c, l, rfl, h1, h2, ⟨rfl, fun i x hx => (hp i x hx).2⟩, fun k hk => ?_, by omega⟩
  obtain ⟨i, hi, rfl⟩ := List.getElem_of_mem hk
  exact (hp i _ (List.getElem?_eq_getElem hi)).1

theorem open_looks {fuel : Nat} {v : Value} {x : DataW H × List MemPlace} (h : DataW.trod enc Try.prog w base (fun _ => true) held fuel 29 [v] = some x) (hw : Wt 29 x.1) :
    ∃ A n c l, v = .slice A n c ∧ n ≤ c ∧ c ≤ maxLen ∧ LooksIn w w.heap.size A n l ∧ (∀ i ∈ l, ((i.tab.length = 32 ∧ AllBytes i.tab) ∧ AllBytes i.wr ∧ AllBytes i.rd) ∧ i.wr.length ≤ 140737488355328 ∧ i.rd.length ≤ 140737488355328) ∧ l.length ≤ 140737488355328 := by
  obtain ⟨A, n, c, hcs, h1, h2, h3, h4⟩ := open_sl Try.underlying29 (by rw [cellsLook]; omega) h hw
  obtain rfl : v = .slice A n c := by simpa using hcs
  rw [bytesLook] at h3
  have := reach47
  obtain ⟨l, hl, hp⟩ := list_of (α := LLook) (p := fun i z => (((z.tab.length = 32 ∧ AllBytes z.tab) ∧ AllBytes z.wr ∧ AllBytes z.rd) ∧ z.wr.length ≤ 140737488355328 ∧ z.rd.length ≤ 140737488355328) ∧
      ∃ a va vd, A = some a ∧ a.block < w.heap.size ∧ (∀ j u, (bv z.tab ++ [va, vd])[j]? = some u → w.cell? (a.add (i * 34 + j)) = some u) ∧ z.tab.length = 32 ∧ BytesIn w w.heap.size va z.wr ∧ BytesIn w w.heap.size vd z.rd) n fun i hi => by
    obtain ⟨a, cs', y, m, e1, e2, e3, e4, e5, e6⟩ := h4 i hi
    obtain ⟨y0, y1, y2, k, rfl, hl, t0, t1, t2⟩ := Go.Deep.trod_struct3 Try.underlying93 e5
    rw [cellsLook] at e3 e4
    obtain ⟨w1, w2⟩ := wt_look e6
    have t0' : DataW.trod enc Try.prog w base (fun _ => true) held k 58 (cs'.take 32) = some y0 := by simpa [cellsKey] using t0
    obtain ⟨z, hz, hz1, hz2⟩ := open_32 Try.underlying58 cellsKey t0'
    obtain ⟨c1, c2, hc12⟩ : ∃ c1 c2, cs'.drop 32 = [c1, c2] := two_of (by rw [List.length_drop, e3])
    obtain rfl : cs' = bv z ++ [c1, c2] := by rw [← hz, ← hc12, List.take_append_drop]
    have t1' : DataW.trod enc Try.prog w base (fun _ => true) held k 37 [c1] = some y1 := by
      have := t1
      simp only [cellsBs] at this
      rw [hc12] at this
      exact this
    have t2' : DataW.trod enc Try.prog w base (fun _ => true) held k 37 [c2] = some y2 := by
      have := t2
      simp only [cellsBs] at this
      rw [show (33 : Nat) = 32 + 1 from rfl, ← List.drop_drop, hc12] at this
      exact this
    obtain ⟨la, a1, a2, a3⟩ := open_bytes t1' w1
    obtain ⟨ld, d1, d2, d3⟩ := open_bytes t2' w2
    exact ⟨⟨z, la, ld⟩, ⟨⟨⟨hz1, hz2⟩, a2, d2⟩, a3, d3⟩, a, c1, c2, e1, e2, e4, hz1, a1, d1⟩
  subst hl
  refine ⟨A, l.length, c, l, rfl, h1, h2, ⟨rfl, fun i x hx => (hp i x hx).2⟩, fun k hk => ?_, by omega⟩
  obtain ⟨i, hi, rfl⟩ := List.getElem_of_mem hk
  exact (hp i _ (List.getElem?_eq_getElem hi)).1
end

open Go.ChangeShapes Go.WideShapes Go.RowKit

theorem six_of {α : Type} {xs : List α} (h : xs.length = 6) : ∃ a b c d e f, xs = [a, b, c, d, e, f] := by
  match xs, h with
  | [a, b, c, d, e, f], _ => exact ⟨a, b, c, d, e, f, rfl⟩
theorem one_of {cs : List Value} (h : cs.length = 1) : ∃ a, cs = [a] := by
  match cs, h with
  | [a], _ => exact ⟨a, rfl⟩
theorem cellsBool : Try.prog.cellsOf 4 = 1 := by kernel_rfl
theorem cellsHead : Try.prog.cellsOf 24 = 3 := by kernel_rfl
theorem cellsKeys : Try.prog.cellsOf 25 = 1 := by kernel_rfl
theorem cellsIns : Try.prog.cellsOf 28 = 1 := by kernel_rfl
theorem cellsLooks : Try.prog.cellsOf 29 = 1 := by kernel_rfl
theorem cellsMsg : Try.prog.cellsOf 31 = 39 := by kernel_rfl
theorem cut {α : Type} (cs : List α) (a k b : Nat) (h : a + k = b) : cs.drop a = (cs.drop a).take k ++ cs.drop b := by
  subst h
  rw [← List.drop_drop, List.take_append_drop]

section
variable {H : Type} {enc : TypeId × Value → H} {w : World} {base b0 : Nat} {held : Bool}
theorem open_msg_cells {fuel : Nat} {cs : List Value} {x : DataW H × List MemPlace} (hf : DataW.trod enc Try.prog w base (fun _ => true) held fuel 31 cs = some x) (hw : Wt 31 x.1) :
    ∃ q m, cs = Raw.cells q m ∧ MsgIn w w.heap.size q m ∧ m.Wf ∧ Sized m := by
  obtain ⟨xs, n, _, hx, hl, hlen, ht⟩ := DataW.trod_struct Try.underlying31 hf
  rw [cellsMsg] at hl
  obtain ⟨y0, y1, y2, y3, y4, y5, rfl⟩ := six_of hlen
  have hx1 : x.1 = .agg [y0.1, y1.1, y2.1, y3.1, y4.1, y5.1] := by simpa using congrArg Prod.fst hx
  rw [hx1] at hw
  obtain ⟨w2, w4, w5⟩ := wt_msg hw
  have t0 : DataW.trod enc Try.prog w base (fun _ => true) held n 4 ((cs.drop 0).take 1) = some y0 := by rw [← cellsBool]; exact ht 0 _ rfl
  have t1 : DataW.trod enc Try.prog w base (fun _ => true) held n 24 ((cs.drop 1).take 3) = some y1 := by rw [← cellsHead]; exact ht 1 _ rfl
  have t2 : DataW.trod enc Try.prog w base (fun _ => true) held n 25 ((cs.drop 4).take 1) = some y2 := by rw [← cellsKeys]; exact ht 2 _ rfl
  have t3 : DataW.trod enc Try.prog w base (fun _ => true) held n 27 ((cs.drop 5).take 32) = some y3 := by rw [← cellsHash]; exact ht 3 _ rfl
  have t4 : DataW.trod enc Try.prog w base (fun _ => true) held n 28 ((cs.drop 37).take 1) = some y4 := by rw [← cellsIns]; exact ht 4 _ rfl
  have t5 : DataW.trod enc Try.prog w base (fun _ => true) held n 29 ((cs.drop 38).take 1) = some y5 := by rw [← cellsLooks]; exact ht 5 _ rfl
  have hsplit : cs = (cs.drop 0).take 1 ++ ((cs.drop 1).take 3 ++ ((cs.drop 4).take 1 ++ ((cs.drop 5).take 32 ++ ((cs.drop 37).take 1 ++ (cs.drop 38).take 1)))) := by
    have e5 : cs.drop 38 = (cs.drop 38).take 1 := (List.take_of_length_le (by rw [List.length_drop]; omega)).symm
    rw [← e5, ← cut cs 37 1 38 rfl, ← cut cs 5 32 37 rfl, ← cut cs 4 1 5 rfl, ← cut cs 1 3 4 rfl, ← cut cs 0 1 1 rfl]
    rfl
  obtain ⟨b, hb, _⟩ := DataW.trod_bool Try.underlying4 t0
  obtain ⟨z0, z1, z2, k, _, _, s0, s1, s2⟩ := Go.Deep.trod_struct3 Try.underlying24 t1
  obtain ⟨c0, c1, c2, hc⟩ := three_of (cs := (cs.drop 1).take 3) (by simp; omega)
  rw [hc] at s0 s1 s2
  have s0' : DataW.trod enc Try.prog w base (fun _ => true) held k 5 [c0] = some z0 := by simpa [cellsU8] using s0
  have s1' : DataW.trod enc Try.prog w base (fun _ => true) held k 5 [c1] = some z1 := by simpa [cellsU8] using s1
  have s2' : DataW.trod enc Try.prog w base (fun _ => true) held k 5 [c2] = some z2 := by simpa [cellsU8] using s2
  obtain ⟨i0, hi0, _, wi0⟩ := DataW.trod_int Try.underlying5 s0'
  obtain ⟨i1, hi1, _, wi1⟩ := DataW.trod_int Try.underlying5 s1'
  obtain ⟨i2, hi2, _, wi2⟩ := DataW.trod_int Try.underlying5 s2'
  obtain ⟨v2, hv2⟩ := one_of (cs := (cs.drop 4).take 1) (by simp; omega)
  obtain ⟨v4, hv4⟩ := one_of (cs := (cs.drop 37).take 1) (by simp; omega)
  obtain ⟨v5, hv5⟩ := one_of (cs := (cs.drop 38).take 1) (by simp; omega)
  rw [hv2] at t2
  rw [hv4] at t4
  rw [hv5] at t5
  obtain ⟨KA, kn, kc, ks, rfl, k1, k2, k3, k4, k5⟩ := open_keys t2 w2
  obtain ⟨hh, hh1, hh2, hh3⟩ := open_32 Try.underlying27 cellsHash t3
  obtain ⟨IA, ni, ic, is, rfl, n1, n2, n3, n4, n5⟩ := open_ins t4 w4
  obtain ⟨LA, ln, lc, ls, rfl, l1, l2, l3, l4, l5⟩ := open_looks t5 w5
  obtain rfl : c0 = .int .u8 i0 := by simpa using hi0
  obtain rfl : c1 = .int .u8 i1 := by simpa using hi1
  obtain rfl : c2 = .int .u8 i2 := by simpa using hi2
  refine ⟨⟨KA, kn, kc, IA, ni, ic, LA, ln, lc⟩, ⟨b, i0, i1, i2, ks, hh, is, ls⟩, ?_, ⟨hh2, k3, n3, l3, ⟨k1, k2⟩, ⟨n1, n2⟩, ⟨l1, l2⟩⟩,
    ⟨byte_wf wi0, byte_wf wi1, byte_wf wi2, k4, ⟨hh2, hh3⟩, fun i hi => (n4 i hi).1, fun l hl => (l4 l hl).1⟩, ⟨k5, n5, l5, fun i hi => (n4 i hi).2, fun l hl => (l4 l hl).2⟩⟩
  rw [hsplit, hb, hc, hv2, hh1, hv4, hv5]
  rfl
set_option maxRecDepth 100000 in
theorem open_msg {r : Reach} {v : Value} {d : DataW H} {p : List MemPlace} (hv : Value.okWide Try.prog w r b0 31 v) (h : DataW.Trod enc Try.prog w base (fun _ => true) held 31 v d p) (hw : Wt 31 d) :
    ∃ q m, v = .agg (Raw.cells q m).toArray ∧ MsgIn w w.heap.size q m ∧ m.Wf ∧ Sized m := by
  simp only [Value.okWide, Try.underlying31] at hv
  obtain ⟨arr, rfl, h2, _⟩ := hv
  obtain ⟨fuel, hf⟩ := h
  obtain ⟨q, m, h3, h4⟩ := open_msg_cells hf hw
  refine ⟨q, m, ?_, h4⟩
  have : arr.toList = Raw.cells q m := h3
  rw [← this]
end
end Go.Proofs.Ytolijdbdpnbchaa

namespace Go.Proofs.Ytolijdbdpnbchaa
open Go.ChangeShapes Go.WideShapes Go.RowKit
set_option linter.unusedVariables false

theorem SigsIn.of_at {w : World} {B : Nat} {A : Option Addr} {n : Nat} {l : List (List Int)} (hn : l.length = n) (h : ∀ (i : Nat) x, l[i]? = some x → x.length = 64 ∧ ∃ a, A = some a ∧ a.block < B ∧ ∀ j u, (bv x)[j]? = some u → w.cell? (a.add (i * 64 + j)) = some u) : SigsIn w B A n l := by
  have he : ∀ k ∈ l, k.length = 64 := fun k hk => by
    obtain ⟨i, hi, rfl⟩ := List.getElem_of_mem hk
    exact (h i _ (List.getElem?_eq_getElem hi)).1
  have hf : l.flatten.length = n * 64 := by
    rw [← hn]
    clear hn h
    induction l with
    | nil => rfl
    | cons y r ih =>
      have h1 := ih (fun k hk => he k (by simp [hk]))
      have h2 := he y (by simp)
      simp only [List.flatten_cons, List.length_append, List.length_cons, h1, h2]
      omega
  refine ⟨hn, he, ⟨by rw [bv_length]; exact hf, fun i u hu => ?_⟩⟩
  have hi := (List.getElem?_eq_some_iff.1 hu).1
  rw [bv_length, hf] at hi
  have hk : i / 64 < l.length := by omega
  obtain ⟨h1, a, rfl, h2, h3⟩ := h (i / 64) _ (List.getElem?_eq_getElem hk)
  refine ⟨_, rfl, h2, ?_⟩
  have hlt : i % 64 < (bv l[i / 64]).length := by rw [bv_length, h1]; omega
  obtain ⟨u', hu'⟩ : ∃ u', (bv l[i / 64])[i % 64]? = some u' := ⟨_, List.getElem?_eq_getElem hlt⟩
  have h4 := h3 _ _ hu'
  rw [show i / 64 * 64 + i % 64 = i by omega] at h4
  rw [h4]
  rw [bv_getElem?] at hu hu'
  obtain ⟨z', hz', rfl⟩ : ∃ z, (l[i / 64])[i % 64]? = some z ∧ u' = .int .u8 z := by
    cases hq : (l[i / 64])[i % 64]? with
    | none => rw [hq] at hu'; simp at hu'
    | some z => rw [hq] at hu'; exact ⟨z, rfl, by simpa using hu'.symm⟩
  have h5 := flatten_at 64 l (i / 64) _ (fun i y hy => he y (List.mem_of_getElem? hy)) (List.getElem?_eq_getElem hk) (i % 64) z' hz'
  rw [show i / 64 * 64 + i % 64 = i by omega] at h5
  rw [h5] at hu
  exact hu

section
variable {H : Type} {enc : TypeId × Value → H} {w : World} {base b0 : Nat} {held : Bool}
theorem cellsSig : Try.prog.cellsOf 62 = 64 := by kernel_rfl
theorem bytesSig : Try.prog.bytesOf 62 = 64 := by kernel_rfl
theorem cellsSigs : Try.prog.cellsOf 22 = 1 := by kernel_rfl
theorem cellsTx : Try.prog.cellsOf 33 = 40 := by kernel_rfl
theorem open_64 {t : TypeId} {fuel : Nat} {cs : List Value} {x : DataW H × List MemPlace} (ht : Try.prog.underlying t = some (.array 64 5)) (hc : Try.prog.cellsOf t = 64) (h : DataW.trod enc Try.prog w base (fun _ => true) held fuel t cs = some x) :
    ∃ l : List Int, cs = bv l ∧ l.length = 64 ∧ AllBytes l := by
  obtain ⟨xs, m, _, _, hl, hxs, hat⟩ := DataW.trod_array ht h
  obtain ⟨l, hll, hp⟩ := list_of (α := Int) (p := fun i z => IsByte z ∧ cs[i]? = some (.int .u8 z)) 64 fun i hi => by
    have h1 := hat i hi
    have hx : xs[i]? = some xs[i] := List.getElem?_eq_getElem (by omega)
    rw [cellsU8, hx] at h1
    obtain ⟨z, hz, _, hwz⟩ := DataW.trod_int Try.underlying5 h1
    refine ⟨z, byte_wf hwz, ?_⟩
    have := congrArg List.head? hz
    simpa [List.head?_take] using this
  rw [hc] at hl
  refine ⟨l, List.ext_getElem? fun i => ?_, hll, fun z hz => ?_⟩
  · by_cases hi : i < 64
    · have e := List.getElem?_eq_getElem (l := l) (i := i) (by omega)
      rw [bv_getElem?, e, (hp i _ e).2]
      rfl
    · rw [List.getElem?_eq_none (by omega), List.getElem?_eq_none (by rw [bv_length]; omega)]
  · obtain ⟨i, hi, rfl⟩ := List.getElem_of_mem hz
    exact (hp i _ (List.getElem?_eq_getElem hi)).1
theorem open_sigs {fuel : Nat} {v : Value} {x : DataW H × List MemPlace} (h : DataW.trod enc Try.prog w base (fun _ => true) held fuel 22 [v] = some x) (hw : Wt 22 x.1) :
    ∃ A n c l, v = .slice A n c ∧ n ≤ c ∧ c ≤ maxLen ∧ SigsIn w w.heap.size A n l ∧ (∀ k ∈ l, k.length = 64 ∧ AllBytes k) ∧ l.length ≤ 140737488355328 := by
  obtain ⟨A, n, c, hcs, h1, h2, h3, h4⟩ := open_sl Try.underlying22 (by rw [cellsSig]; omega) h hw
  obtain rfl : v = .slice A n c := by simpa using hcs
  rw [bytesSig] at h3
  have := reach47
  obtain ⟨l, hl, hp⟩ := list_of (α := List Int) (p := fun i z => (z.length = 64 ∧ AllBytes z) ∧ ∃ a, A = some a ∧ a.block < w.heap.size ∧ ∀ j u, (bv z)[j]? = some u → w.cell? (a.add (i * 64 + j)) = some u) n fun i hi => by
    obtain ⟨a, cs', y, m, e1, e2, e3, e4, e5, _⟩ := h4 i hi
    obtain ⟨z, rfl, hz, hz'⟩ := open_64 Try.underlying62 cellsSig e5
    rw [cellsSig] at e4
    exact ⟨z, ⟨hz, hz'⟩, a, e1, e2, e4⟩
  subst hl
  refine ⟨A, l.length, c, l, rfl, h1, h2, SigsIn.of_at rfl fun i x hx => ⟨(hp i x hx).1.1, (hp i x hx).2⟩, fun k hk => ?_, by omega⟩
  obtain ⟨i, hi, rfl⟩ := List.getElem_of_mem hk
  exact (hp i _ (List.getElem?_eq_getElem hi)).1
theorem wt_tx {y0 y1 : DataW H} (h : Wt 33 (.agg [y0, y1])) : Wt 22 y0 ∧ Wt 31 y1 := by
  refine ⟨fun n hn => h n ?_, fun n hn => h n ?_⟩ <;> simp only [DataW.weights, Try.underlying33] <;> simp [DataW.weightsEach, hn]
theorem open_tx_cells {fuel : Nat} {cs : List Value} {x : DataW H × List MemPlace} (hf : DataW.trod enc Try.prog w base (fun _ => true) held fuel 33 cs = some x) (hw : Wt 33 x.1) :
    ∃ s t, cs = TRaw.cells s t ∧ TxIn w w.heap.size s t ∧ t.Wf ∧ Sized t.m ∧ t.sigs.length ≤ 140737488355328 := by
  obtain ⟨xs, n, _, hx, hl, hlen, ht⟩ := DataW.trod_struct Try.underlying33 hf
  rw [cellsTx] at hl
  obtain ⟨y0, y1, rfl⟩ : ∃ a b, xs = [a, b] := by
    match xs, hlen with
    | [a, b], _ => exact ⟨a, b, rfl⟩
  have hx1 : x.1 = .agg [y0.1, y1.1] := by simpa using congrArg Prod.fst hx
  rw [hx1] at hw
  obtain ⟨w0, w1⟩ := wt_tx hw
  have t0 : DataW.trod enc Try.prog w base (fun _ => true) held n 22 ((cs.drop 0).take 1) = some y0 := by rw [← cellsSigs]; exact ht 0 _ rfl
  have t1 : DataW.trod enc Try.prog w base (fun _ => true) held n 31 ((cs.drop 1).take 39) = some y1 := by rw [← cellsMsg]; exact ht 1 _ rfl
  have hsplit : cs = (cs.drop 0).take 1 ++ (cs.drop 1).take 39 := by
    have e5 : cs.drop 1 = (cs.drop 1).take 39 := (List.take_of_length_le (by rw [List.length_drop]; omega)).symm
    rw [← e5, ← cut cs 0 1 1 rfl]
    rfl
  obtain ⟨v0, hv0⟩ := one_of (cs := (cs.drop 0).take 1) (by simp; omega)
  rw [hv0] at t0
  obtain ⟨SA, sn, sc, ss, rfl, k1, k2, k3, k4, k5⟩ := open_sigs t0 w0
  obtain ⟨q, m, e1, e2, e3, e4⟩ := open_msg_cells t1 w1
  refine ⟨⟨SA, sn, sc, q⟩, ⟨ss, m⟩, ?_, ⟨k3, ⟨k1, k2⟩, e2⟩, ⟨k4, e3⟩, e4, k5⟩
  rw [hsplit, hv0, e1]
  rfl
set_option maxRecDepth 100000 in
theorem open_tx {r : Reach} {v : Value} {d : DataW H} {p : List MemPlace} (hv : Value.okWide Try.prog w r b0 33 v) (h : DataW.Trod enc Try.prog w base (fun _ => true) held 33 v d p) (hw : Wt 33 d) :
    ∃ s t, v = .agg (TRaw.cells s t).toArray ∧ TxIn w w.heap.size s t ∧ t.Wf ∧ Sized t.m ∧ t.sigs.length ≤ 140737488355328 := by
  simp only [Value.okWide, Try.underlying33] at hv
  obtain ⟨arr, rfl, h2, _⟩ := hv
  obtain ⟨fuel, hf⟩ := h
  obtain ⟨s, t, h3, h4⟩ := open_tx_cells hf hw
  refine ⟨s, t, ?_, h4⟩
  have : arr.toList = TRaw.cells s t := h3
  rw [← this]
end
end Go.Proofs.Ytolijdbdpnbchaa

namespace Go.Proofs.Ytolijdbdpnbchaa
open Go.RowKit
set_option linter.unusedVariables false

/-- what Put answers, in one form: a list of its own -/
def PutOne (w : World) (ys : List Int) (ev : Int) (e : Ending) (w' : World) : Prop :=
  ∃ X : Sl, e = .returned (.tuple #[X.val, .int .i64 ev]) ∧ Sees w' w'.heap.size (X.A.map fun g => ⟨g, 0, none⟩) X.n (bv ys) ∧ SlFit w' (X, Kd.b) ∧ (∀ g, X.A = some g → w.heap.size ≤ g ∧ g < w'.heap.size) ∧ Below w.heap.size w w'
theorem put_none {w w' : World} {ev : Int} (hb : Below w.heap.size w w') : PutOne w [] ev (.returned (.tuple #[.slice none 0 0, .int .i64 ev])) w' :=
  ⟨⟨none, 0, 0⟩, rfl, ⟨rfl, fun i u hu => by simp [bv, cv] at hu⟩, ⟨rfl, rfl⟩, (fun g hg => by cases hg), hb⟩
theorem put_one (x : LTx) : ∃ (ys : List Int) (ev : Int), ys.length ≤ 1232 ∧ ∀ w e w', PutTxDone w x e w' → PutOne w ys ev e w' := by
  by_cases hf : Fits x.m
  · by_cases hl : 1232 < (encTx x).length
    · refine ⟨[], 3, by simp, ?_⟩
      rintro w e w' (⟨h, _⟩ | ⟨_, _, rfl, hb⟩ | ⟨_, h, _⟩)
      · exact absurd hf h
      · exact put_none hb
      · omega
    · refine ⟨encTx x, 0, by omega, ?_⟩
      rintro w e w' (⟨h, _⟩ | ⟨_, h, _⟩ | ⟨_, _, ⟨v, rfl, ho⟩, hb⟩)
      · exact absurd hf h
      · exact absurd h hl
      · obtain ⟨X, hv, hn, h0, h1⟩ := own_sl ho
        subst hv
        refine ⟨X, rfl, ?_, ?_, fun g hg => ⟨(h1 g hg).1, (h1 g hg).2.1⟩, hb⟩
        · unfold Sl.val at ho
          exact OwnB.sees ho
        · obtain ⟨A, n, c⟩ := X
          cases A with
          | none => exact h0 rfl
          | some g =>
            obtain ⟨_, _, _, h2, h3, cur, h4, h5⟩ := h1 g rfl
            exact ⟨h2, h3, cur, h4, by rw [h5]; exact Nat.le_refl _, fun _ => by rw [h5]; rfl⟩
  · refine ⟨[], 1, by simp, ?_⟩
    rintro w e w' (⟨_, rfl, hb⟩ | ⟨h, _⟩ | ⟨h, _⟩)
    · exact put_none hb
    · exact absurd h hf
    · exact absurd h hf

set_option maxRecDepth 100000 in
set_option maxHeartbeats 4000000 in
theorem put_walk4 (s : TRaw) (x : LTx) (w : World) (hm : TxIn w w.heap.size s x) (hs : Sized x.m) :
    Calls Try.prog 3 #[.agg (s.cells x).toArray] w fun e w' => e = .returned (.bool true) ∧ Below w.heap.size w w' := by
  have hrow := Row.new w 33 (s.cells x)
  have hb0 := (Below.refl w.heap.size w).alloc (Nat.le_refl _) (.cells (s.cells x).toArray 33)
  have hm0 := hm.below hb0
  have HG := Lib.hid (great4 s x w.heap.size _ hm0 hb0.size hs)
  have HTS := Lib.hid (show (Try.prog.info? 33).map (·.size) = some (s.cells x).length by rw [size_tx, tcells_len hm.m.recent])
  have HROW := Lib.hid hrow
  have HM0 := Lib.hid hm0
  have HB0 := Lib.hid hb0
  clear hrow hb0 hm0 hm hs
  go_enter Try.func3, Try.ntmps3
  go_wp2_with ((with_reducible show wpList _ _ _ ({ dst := some 9, op := Op.load _ _, type := _, pos := _, after := _, guard := _ } :: _) _ _); go_must (refine wpList_load_whole rfl 33 (.tmp 1) rfl w.heap.size 33 (s.cells x) _ Try.underlying33 rfl HTS.out HROW.out ?_ ?_; go_simp))
  refine HG.out.mono ?_
  rintro e w1 ⟨⟨b, rfl, hgr⟩, hb1⟩
  cases b
  rotate_left
  · have hbw := HB0.out.trans (hb1.mono HB0.out.size)
    have HBW := Lib.hid hbw
    clear hbw hb1 hgr
    go_wp2_with fail
    refine (lives4 _).mono ?_
    rintro e w2 ⟨rfl, hb2⟩
    go_wp2_with fail
    go_ret
    exact ⟨rfl, HBW.out.trans (hb2.mono HBW.out.size)⟩
  obtain ⟨hsg, ht⟩ := hgr rfl
  have hsz : x.m.keys.length ≤ 65535 ∧ x.m.ins.length ≤ 65535 ∧ x.m.looks.length ≤ 65535 := by unfold total at ht; omega
  have hix : ∀ i ∈ x.m.ins, i.acc.length ≤ 65535 ∧ i.dat.length ≤ 65535 := fun i hi => by have := size_mem hi; unfold total at ht; omega
  have hlx : ∀ l ∈ x.m.looks, l.wr.length ≤ 65535 ∧ l.rd.length ≤ 65535 := fun l hl => by have := lsize_mem hl; unfold total at ht; omega
  have HR1 := Lib.hid (HROW.out.below hb1 HROW.out.lt)
  have HB1 := Lib.hid (HB0.out.trans (hb1.mono HB0.out.size))
  have HM1 := Lib.hid (HM0.out.below (hb1.mono HB0.out.size))
  have hle := enc_le HM1.out.m ht
  obtain ⟨ys, ev, hys, hany⟩ := put_one x
  have HSG := Lib.hid (show x.sigs.length ≤ 65535 by omega)
  have HT := Lib.hid (twinTx s x w.heap.size w1 HM1.out HB1.out.size HSG.out hsz hix hlx)
  have HSZ := Lib.hid hsz
  have HXX := Lib.hid (And.intro hix hlx)
  have HANY := Lib.hid hany
  have HY := Lib.hid hys
  have HLE := Lib.hid hle
  clear hgr ht hsz hix hlx hle hany hys hb1 HG HM0 hsg
  go_wp2_with ((with_reducible show wpList _ _ _ ({ dst := some 12, op := Op.load _ _, type := _, pos := _, after := _, guard := _ } :: _) _ _); go_must (refine wpList_load_whole rfl 33 (.tmp 1) rfl w.heap.size 33 (s.cells x) _ Try.underlying33 rfl HTS.out HR1.out ?_ ?_; go_simp))
  refine HT.out.mono ?_
  rintro e w2 ⟨s2, lo, rfl, hlo, hv, htw, hb2⟩
  have HTS2 := Lib.hid (show (Try.prog.info? 33).map (·.size) = some (s2.cells x).length by rw [size_tx, tcells_len hv.in_.m.recent])
  have HTL2 := Lib.hid (tcells_len (s := s2) (x := x) hv.in_.m.recent)
  have HV := Lib.hid hv
  have HTW := Lib.hid htw
  have HLO := Lib.hid hlo
  have B2 := Lib.hid hb2
  clear hv htw hlo hb2 HT
  go_wp2_with (first
    | ((with_reducible show wpList _ _ _ ({ dst := none, op := Op.store 33 _ _, type := _, pos := _, after := _, guard := _ } :: _) _ _); go_must (refine wpList_store_new rfl 33 (.tmp 3) (.tmp 13) rfl (s2.cells x) HTS2.out tcells_one (by rw [HTL2.out]; rfl) ?_ ?_ ?_; go_simp; go_simp; intro w3 hr3 hb3 hz3; have R3 := Lib.hid hr3; have B3 := Lib.hid hb3; have Z3 := Lib.hid hz3; clear hr3 hb3 hz3))
    | ((with_reducible show wpList _ _ _ ({ dst := some 15, op := Op.load _ _, type := _, pos := _, after := _, guard := _ } :: _) _ _); go_must (refine wpList_load_whole rfl 33 (.tmp 3) rfl w2.heap.size 33 (s2.cells x) _ Try.underlying33 rfl HTS2.out R3.out ?_ ?_; go_simp)))
  refine (putTx s2 x w2.heap.size w3 (HV.out.in_.below B3.out) B3.out.size HSG.out HLE.out).mono ?_
  rintro e w4 hd
  obtain ⟨⟨xa, xn, xc⟩, rfl, hse, hfit, hxg, hb4⟩ := HANY.out _ _ _ hd
  have HSE := Lib.hid hse
  have HFIT := Lib.hid hfit
  have HXG := Lib.hid hxg
  have B4 := Lib.hid hb4
  have B02 : Hid (Below w.heap.size w w2) := Lib.hid (HB1.out.trans (B2.out.mono HB1.out.size))
  have B24 : Hid (Below w2.heap.size w2 w4) := Lib.hid (B3.out.trans (B4.out.mono B3.out.size))
  have B04 : Hid (Below w.heap.size w w4) := Lib.hid (B02.out.trans (B24.out.mono B02.out.size))
  have R14 : Hid (Row w4 w.heap.size 33 (s.cells x)) := Lib.hid ((HR1.out.below B2.out HR1.out.lt).below B24.out (HR1.out.below B2.out HR1.out.lt).lt)
  have R24 : Hid (Row w4 w2.heap.size 33 (s2.cells x)) := Lib.hid (R3.out.below B4.out R3.out.lt)
  have M4 : Hid (TxIn w4 w.heap.size s x) := Lib.hid ((HM1.out.below (B2.out.mono HB1.out.size)).below (B24.out.mono B02.out.size))
  have T4 : Hid (TwTx w4 s2 x) := Lib.hid (HTW.out.below B24.out)
  clear hd hse hfit hxg hb4 HR1 R3 HM1 HTW HROW
  go_wp2_with ((with_reducible show wpList _ _ _ ({ dst := some 20, op := Op.load _ _, type := _, pos := _, after := _, guard := _ } :: _) _ _); go_must (refine wpList_load_whole rfl 33 (.tmp 1) rfl w.heap.size 33 (s.cells x) _ Try.underlying33 rfl HTS.out R14.out ?_ ?_; go_simp))
  refine (refPutTx s x w.heap.size w4 M4.out B04.out.size HSG.out HLE.out).mono ?_
  rintro e w5 hd
  obtain ⟨⟨ya, yn, yc⟩, rfl, hse, _, _, hb5⟩ := HANY.out _ _ _ hd
  have hxn : ys.length = xn := by have := HSE.out.len; rwa [bv_length] at this
  have hyn : ys.length = yn := by have := hse.len; rwa [bv_length] at this
  have HSB := Lib.hid (same_yes3 _ (ya.map fun g => ⟨g, 0, none⟩) xn yn xc yc ys w5 w4.heap.size w5.heap.size (HSE.out.below hb5) hse (by have := HY.out; unfold maxLen; omega) (by have := HY.out; unfold maxLen; omega))
  have B5 := Lib.hid hb5
  clear hd hse hxn hyn hb5
  go_wp2_with fail
  refine HSB.out.mono ?_
  rintro e w6 ⟨rfl, k6, rfl⟩
  have B56 : Hid (Below w4.heap.size w4 (w5.drewN k6)) := Lib.hid (below_drewN B5.out k6)
  have R16 : Hid (Row (w5.drewN k6) w.heap.size 33 (s.cells x)) := Lib.hid (R14.out.below B56.out R14.out.lt)
  have R26 : Hid (Row (w5.drewN k6) w2.heap.size 33 (s2.cells x)) := Lib.hid (R24.out.below B56.out R24.out.lt)
  have M6 : Hid (TxIn (w5.drewN k6) w.heap.size s x) := Lib.hid (M4.out.below (B56.out.mono B04.out.size))
  have T6 : Hid (TwTx (w5.drewN k6) s2 x) := Lib.hid (T4.out.below B56.out)
  generalize w5.drewN k6 = w6 at *
  clear HSB R14 R24 M4 T4 B5
  go_wp2_with (first
    | ((with_reducible show wpList _ _ _ ({ dst := some 34, op := Op.load _ _, type := _, pos := _, after := _, guard := _ } :: _) _ _); go_must (refine wpList_load_atg (by kernel_rfl) 33 (.tmp 3) rfl ⟨w2.heap.size, 0, none⟩ (s2.cells x) _ Try.underlying33 rfl HTS2.out (fun j v hv => by rw [addr_row, R26.out.cell, Nat.zero_add]; exact hv) ?_ ?_; go_simp))
    | ((with_reducible show wpList _ _ _ ({ dst := some 35, op := Op.load _ _, type := _, pos := _, after := _, guard := _ } :: _) _ _); go_must (refine wpList_load_atg (by kernel_rfl) 33 (.tmp 1) rfl ⟨w.heap.size, 0, none⟩ (s.cells x) _ Try.underlying33 rfl HTS.out (fun j v hv => by rw [addr_row, R16.out.cell, Nat.zero_add]; exact hv) ?_ ?_; go_simp)))
  refine (leftTx s s2 x w.heap.size w6 T6.out M6.out (Nat.le_trans B04.out.size B56.out.size) HSG.out HSZ.out HXX.out.1 HXX.out.2).mono ?_
  rintro e W ⟨rfl, hb7⟩
  have B4W : Hid (Below w4.heap.size w4 W) := Lib.hid (B56.out.trans (hb7.mono B56.out.size))
  have B27 : Hid (Below w2.heap.size w2 W) := Lib.hid (B24.out.trans (B4W.out.mono B24.out.size))
  have B07 : Hid (Below w.heap.size w W) := Lib.hid (B02.out.trans (B27.out.mono B02.out.size))
  have R27 : Hid (Row W w2.heap.size 33 (s2.cells x)) := Lib.hid (R26.out.below hb7 R26.out.lt)
  clear hb7 R16 R26 M6 T6
  go_upto_region 9 with fail
  have HK0 := Lib.hid (Bk.new W)
  have BW0 : Hid (Below W.heap.size W (W.alloc (.cells #[.slice none 0 0] 45))) := Lib.hid ((Below.refl _ _).alloc (Nat.le_refl _) _)
  have R37 : Hid (Row (W.alloc (.cells #[.slice none 0 0] 45)) w2.heap.size 33 (s2.cells x)) := Lib.hid (R27.out.alloc _)
  have B20 : Hid (Below w2.heap.size w2 (W.alloc (.cells #[.slice none 0 0] 45))) := Lib.hid (B27.out.trans (BW0.out.mono B27.out.size))
  have B40 : Hid (Below w4.heap.size w4 (W.alloc (.cells #[.slice none 0 0] 45))) := Lib.hid (B4W.out.trans (BW0.out.mono B4W.out.size))
  have HNE : Hid (w2.heap.size < W.heap.size ∧ w4.heap.size ≤ W.heap.size ∧ w.heap.size ≤ W.heap.size ∧ w2.heap.size < w3.heap.size ∧ w.heap.size ≤ w1.heap.size ∧ w1.heap.size ≤ lo) := Lib.hid ⟨R27.out.lt, B4W.out.size, B07.out.size, by have := Z3.out; omega, HB1.out.size, HLO.out⟩
  obtain ⟨ps, hf, hrise, hlow, hlen, hbook⟩ := (HV.out.got.below B20.out).pages
  have HBK := Lib.hid hbook
  have HF := Lib.hid (And.intro hf (And.intro hrise hlow))
  clear hbook hf hrise hlow R27 HLO
  generalize hW0 : W.alloc (.cells #[.slice none 0 0] 45) = W0 at *
  go_wp2_with (((with_reducible show wpList _ _ _ ({ dst := some 40, op := Op.load 33 _, type := _, pos := _, after := _, guard := _ } :: _) _ _); go_must (refine wpList_load_whole rfl 33 (.tmp 3) rfl w2.heap.size 33 (s2.cells x) _ Try.underlying33 rfl HTS2.out R37.out ?_ ?_; go_simp)))
  refine (HBK.out W.heap.size W.heap.size [] W0 W0 (Below.refl _ _) HK0.out (by have := HNE.out; omega) (by have := HNE.out; omega) (by simp)).mono ?_
  rintro e w8 ⟨rfl, hb8⟩
  have HK8 := Lib.hid hb8
  clear hb8 HK0 R37
  go_wp2_with fail
  refine (bkBytes W.heap.size W.heap.size _ ⟨xa, xn, xc⟩ W0 w8 HK8.out (by rw [List.nil_append]; omega)).mono ?_
  rintro e w9 ⟨rfl, hb9⟩
  have HK9 := Lib.hid hb9
  clear hb9 HK8
  go_wp2_with fail
  refine (apartBk W.heap.size W.heap.size w.heap.size _ W0 w9 HK9.out ?_ ?_ ?_ ?_).mono ?_
  · intro y hy
    rcases List.mem_append.1 hy with hy | hy
    · rw [List.nil_append] at hy
      exact HF.out.1 y hy
    · obtain rfl : y = _ := List.mem_singleton.1 hy
      exact HFIT.out.keep fun g hg => B40.out.block g (HXG.out g hg).2
  · rw [blocks_app, List.nil_append]
    refine pair_app (m := w2.heap.size) HF.out.2.1 (pair_one _) (fun g hg => (HF.out.2.2 g hg).2) fun g hg => ?_
    have h1 := HXG.out g (blocks_one _ g hg)
    have := HNE.out
    omega
  · intro g hg
    rw [blocks_app, List.nil_append] at hg
    have h2 := HNE.out
    rcases List.mem_append.1 hg with hg | hg
    · have := HF.out.2.2 g hg
      omega
    · have := HXG.out g (blocks_one _ g hg)
      have := B02.out.size
      omega
  · have := HK9.out.one.size
    have := BW0.out.size
    have := HNE.out
    omega
  rintro e w10 ⟨rfl, hb10⟩
  have B010 : Hid (Below w.heap.size w w10) := Lib.hid (((B07.out.trans (BW0.out.mono HNE.out.2.2.1)).trans (HK9.out.one.below HNE.out.2.2.1 HNE.out.2.2.1)).trans hb10)
  clear hb10
  go_wp2_with fail
  refine (lives4 _).mono ?_
  rintro e w11 ⟨rfl, hb11⟩
  go_wp2_with fail
  go_ret
  exact ⟨rfl, B010.out.trans (hb11.mono B010.out.size)⟩
end Go.Proofs.Ytolijdbdpnbchaa

namespace Go.Proofs.Ytolijdbdpnbchaa.packetsPut
open Go.ChangeShapes Go.WideShapes Go.ChangeAt Go.RowKit
set_option linter.unusedVariables false

theorem own : ownKnob Try.prog.godebug = none := by kernel_rfl
theorem laidOut : laidOutB Try.prog = true := by kernel_rfl

set_option maxRecDepth 100000 in
theorem lifted (os : Os) (started : os.Started) (H : Type) (enc : TypeId × Value → H) :
    ReturnsInHanded {} Try.checked os 3 .any (Rows.packetsPutSpec.pre6 enc Try.prog Try.f3 Rows.packetsPutRow.domain false) (Rows.packetsPutSpec.post enc Try.prog Try.f3 false true false false) := by
  refine returnsInHanded_of_change_sized (C := Try.checked) own started (by kernel_rfl) Try.func3
    (ChangeSpec.witness6 (enc := enc) (C := Try.checked) false ⟨#[], #[.agg #[.slice none 0 0, .bool false, .int .u8 0, .int .u8 0, .int .u8 0, .slice none 0 0, .int .u8 0, .int .u8 0, .int .u8 0, .int .u8 0, .int .u8 0, .int .u8 0, .int .u8 0, .int .u8 0, .int .u8 0, .int .u8 0, .int .u8 0, .int .u8 0, .int .u8 0, .int .u8 0, .int .u8 0, .int .u8 0, .int .u8 0, .int .u8 0, .int .u8 0, .int .u8 0, .int .u8 0, .int .u8 0, .int .u8 0, .int .u8 0, .int .u8 0, .int .u8 0, .int .u8 0, .int .u8 0, .int .u8 0, .int .u8 0, .int .u8 0, .int .u8 0, .slice none 0 0, .slice none 0 0]], []⟩ 8 (by kernel_rfl) (by kernel_rfl) (by kernel_rfl) (by kernel_rfl)) ?_
  intro W base args ds gs before hval0 hW hcnd hsz0 _
  have hval : ∀ (j : Nat) t v, Try.f3.params[j]? = some t → args[j]? = some v → Value.okWide Try.prog W .any base t v := hval0
  have hW' := hW
  obtain ⟨p, q, hA0, hV, rfl, hfz, hnd⟩ := hW
  have hA : DataW.TrodAll enc Try.prog W 0 (fun _ => true) true Try.f3.params.toList args.toList ds p := hA0
  have hsz : (DataW.weightsEach Try.prog (Try.f3.params.toList ++ Rows.packetsPutSpec.plain.varTypes Try.prog) (ds ++ gs)).all (· ≤ reachBytes) = true := hsz0
  rw [Try.params3] at hA hval hsz
  obtain ⟨v0, vs0, d0, ds0, p0, q0, hargs, rfl, rfl, h0, r0⟩ := trodAll_cons hA
  obtain ⟨rfl, rfl, rfl⟩ := trodAll_nil r0
  obtain rfl : args = #[v0] := by cases args; simp_all
  obtain ⟨rfl, rfl⟩ := trodVars_none hV
  have k0 := h0
  have lt0 : ∀ x ∈ p0, x.block < W.heap.size := by obtain ⟨m, hm⟩ := k0; exact DataW.trod_lt m _ _ _ hm
  obtain ⟨s0_, x0, rfl, in0, wf0, sz0, sl0⟩ := open_tx (hval 0 33 v0 rfl rfl) h0 (fun n hn => by
    have := List.all_eq_true.1 hsz _ (DataW.weights_mem_each (j := 0) rfl rfl n hn)
    simpa using this)
  clear hA0 hval0
  refine (put_walk4 s0_ x0 W in0 sz0).mono fun e W' ⟨he, bel⟩ => ?_
  subst he
  exact ⟨_, rfl, _, _, _, [], _, [], hW', trodAll_mk1 (shut_bool Try.underlying4 _), (trodAll_cons_mk (Below.trod laidOut (by kernel_rfl) (of_decide_eq_true (by kernel_rfl)) k0 bel lt0) trodAll_mk0), rfl, bel.frame _, fun h => by cases h⟩

theorem over : Rows.packetsPutRow.holds Try.pinned (OpenSpec.ofChange Rows.packetsPutSpec) :=
  OpenClaim.holds_of_wide 3 Try.f3 rfl rfl rfl rfl rfl rfl rfl ⟨rfl, rfl, rfl, rfl, rfl⟩ rfl rfl rfl rfl rfl (by kernel_rfl) Try.func3 (by kernel_rfl)
    (of_decide_eq_true (by kernel_rfl)) (by unfold Func.isWrapper; first | (rw [if_pos (by decide +kernel)]; kernel_rfl) | (rw [if_neg (by decide +kernel)]; exact ⟨rfl, rfl⟩))
    (fun os started H enc _ => lifted os started H enc)

theorem proved : Rows.PacketsPutSaid := over
#print axioms proved
end Go.Proofs.Ytolijdbdpnbchaa.packetsPut
