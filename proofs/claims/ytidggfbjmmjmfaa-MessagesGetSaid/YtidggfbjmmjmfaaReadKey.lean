/-
  messages.reader.key: 32 bytes.
-/
import Derived.Test.YtidggfbjmmjmfaaRead
import Derived.Test.YtidggfbjmmjmfaaPutMsg
namespace Go.Proofs.Ytidggfbjmmjmfaa
open Go.RowKit
set_option linter.unusedVariables false

theorem RdIn.alloc {w : World} {p B : Nat} {zs : List Int} (h : RdIn w p B zs) (hB : B ≤ p) (o : Obj) : RdIn (w.alloc o) p B zs := h.below ((Below.refl _ _).alloc (Nat.le_refl _) o) hB
theorem RdIn.drew {w : World} {p B : Nat} {zs : List Int} (h : RdIn w p B zs) : RdIn w.drew p B zs := by
  obtain ⟨A, c, hr, hs, h1, h2⟩ := h.is
  exact ⟨A, c, hr.drew, hs.drew, h1, h2⟩
theorem But.drew {w w' : World} {p : Nat} (h : But p w w') : But p w w'.drew := ⟨h.os, h.tape, h.output, h.size, h.block⟩
theorem But.alloc {w w' : World} {p : Nat} (h : But p w w') (o : Obj) : But p w (w'.alloc o) := h.trans (.of_below ((Below.refl _ _).alloc (Nat.le_refl _) o) p)

def zeros (n : Nat) : List Value := List.replicate n (.int .u8 0)
theorem zeros32 : (#[.int .u8 0, .int .u8 0, .int .u8 0, .int .u8 0, .int .u8 0, .int .u8 0, .int .u8 0, .int .u8 0, .int .u8 0, .int .u8 0, .int .u8 0, .int .u8 0, .int .u8 0, .int .u8 0, .int .u8 0, .int .u8 0, .int .u8 0, .int .u8 0, .int .u8 0, .int .u8 0, .int .u8 0, .int .u8 0, .int .u8 0, .int .u8 0, .int .u8 0, .int .u8 0, .int .u8 0, .int .u8 0, .int .u8 0, .int .u8 0, .int .u8 0, .int .u8 0] : Array Value) = (zeros 32).toArray := rfl

set_option maxRecDepth 100000 in
set_option maxHeartbeats 800000 in
theorem key_ (p B : Nat) (zs : List Int) (w : World) (h : RdIn w p B zs) (hB : B ≤ p) :
    Calls Try.prog 52 #[.pointer (some ⟨p, 0, none⟩)] w (Reads w p B (pTake 32 zs) fun _ v x => v = .agg (bv x).toArray ∧ x.length = 32) := by
  have hp := h.lt
  have HR := Lib.hid h
  clear h
  by_cases hz : zs.length < 32
  · have hP : pTake 32 zs = .error 5 := if_pos hz
    have HP := Lib.hid hP
    clear hP
    go_enter Try.func52, Try.ntmps52
    go_wp2_with fail
    rw [zeros32]
    refine wp_region_any (by kernel_rfl) ?_
    try (change wpAny _ _ _ _ _ _ _ (World.drew _))
    refine wpAny_take (i := 0) (v := ?_) rfl (by kernel_rfl) (by kernel_rfl) (by kernel_rfl) (fun _ _ _ h => h) (Or.inl ⟨by rfl, ?_⟩) ?_
    rotate_left
    · intro w
      go_simp
      try with_reducible rfl
    refine wpAny_take (i := 1) (v := ?_) rfl (by kernel_rfl) (by kernel_rfl) (by kernel_rfl) (fun _ _ _ h => h) (Or.inl ⟨by rfl, ?_⟩) ?_
    rotate_left
    · intro w
      go_simp
      try with_reducible rfl
    refine wpAny_ready (rs := [2]) (by kernel_rfl) (by simp) ?_
    refine AllReady.cons rfl (fun K hK => ?_) AllReady.nil
    go_simp
    refine (take_no p B 32 zs _ ((HR.out.alloc hB _).drew) hz).mono ?_
    rintro e w1 ⟨rfl, rfl⟩
    exact ⟨rfl, .inr ⟨5, HP.out, rfl, ((But.refl p w).alloc _).drew⟩⟩
  · have hP : pTake 32 zs = .ok (zs.take 32, zs.drop 32) := if_neg hz
    have HP := Lib.hid hP
    clear hP
    go_enter Try.func52, Try.ntmps52
    go_wp2_with fail
    rw [zeros32]
    refine wp_region_any (by kernel_rfl) ?_
    try (change wpAny _ _ _ _ _ _ _ (World.drew _))
    refine wpAny_take (i := 0) (v := ?_) rfl (by kernel_rfl) (by kernel_rfl) (by kernel_rfl) (fun _ _ _ h => h) (Or.inl ⟨by rfl, ?_⟩) ?_
    rotate_left
    · intro w
      go_simp
      try with_reducible rfl
    refine wpAny_take (i := 1) (v := ?_) rfl (by kernel_rfl) (by kernel_rfl) (by kernel_rfl) (fun _ _ _ h => h) (Or.inl ⟨by rfl, ?_⟩) ?_
    rotate_left
    · intro w
      go_simp
      try with_reducible rfl
    refine wpAny_ready (rs := [2]) (by kernel_rfl) (by simp) ?_
    refine AllReady.cons rfl (fun K hK => ?_) AllReady.nil
    go_simp
    refine (take_ok p B 32 zs _ ((HR.out.alloc hB (.cells (zeros 32).toArray 53)).drew) hB (by omega) (by omega)).mono ?_
    rintro e w1 ⟨⟨A, c, rfl, hs⟩, hr, ht⟩
    simp only []
    refine hK _ _ ?_
    have hl : (zs.take 32).length = 32 := by rw [List.length_take]; omega
    have hb1 : But p w w1 := (((But.refl p w).alloc (.cells (zeros 32).toArray 53)).drew).trans (But.of_turned ht)
    have hr1 : Row w1 w.heap.size 53 (zeros 32) := ht.row ((Row.new w 53 (zeros 32)).drew) (Nat.ne_of_gt hp)
    have HT := Lib.hid ht
    clear hK K ht
    refine wpAny_ready (rs := [3]) (by kernel_rfl) (by simp) ?_
    refine AllReady.cons rfl (fun K hK => ?_) AllReady.nil
    refine step_copy_splice rfl (.tmp 3) (.tmp 5) 34 34 rfl 5 Try.underlying34 size_u8 (some ⟨w.heap.size, 0, none⟩) A 32 32 32 c ?_ ?_ w.heap.size 0 (zeros 32) 53 hr1.is (bv (zs.take 32)) ?_ ?_ ?_ (bv_one _) w.heap.size w1 (Below.refl _ _) (Nat.le_refl _) ?_
    · go_simp
    · go_simp
    · rw [bv_length, hl]; rfl
    · intro hpos
      obtain ⟨a, _, e, _⟩ := hs.at_ (k := 0) (by omega)
      refine ⟨rfl, a, e, fun j v hv => ?_⟩
      obtain ⟨_, e', _, hc⟩ := hs.cell j v hv
      rw [e] at e'
      cases e'
      exact hc
    · rw [bv_length, hl]; simp [zeros]
    intro w2 h2 hb2
    have hr2 : Row w2 w.heap.size 53 (bv (zs.take 32)) := ⟨by
      rw [h2.out]
      have : splice (zeros 32) 0 (bv (zs.take 32)) = bv (zs.take 32) := by
        unfold splice
        rw [bv_length, hl]
        simp [zeros]
      rw [this]⟩
    refine hK _ _ ?_
    clear hK K
    refine wpAny_done (by kernel_rfl) ?_ _
    have hrd2 : RdIn w2 p B (zs.drop 32) := by
      obtain ⟨A', c', q1, q2, q3, q4⟩ := hr.is
      exact ⟨A', c', q1.below hb2 hp, q2.below (hb2.mono (by omega)), q3, q4⟩
    have hbw2 : But p w w2 := ⟨hb2.os.trans hb1.os, hb2.tape.trans hb1.tape, hb2.output.trans hb1.output, Nat.le_trans hb1.size hb2.size, fun k hk hne => (hb2.block k hk).trans (hb1.block k hk hne)⟩
    have HR2 := Lib.hid hr2
    have HRD := Lib.hid hrd2
    have HBW := Lib.hid hbw2
    have hz : (Try.prog.info? 53).map (·.size) = some (bv (zs.take 32)).length := by rw [size_key, bv_length, hl]
    have HZ := Lib.hid hz
    clear hr2 hrd2 hbw2 hb2 h2 hr1 hb1 hz hs hr HT
    go_wp2_with (first
      | (with_reducible show wpList _ _ _ ({ dst := some 7, op := Op.load _ _, type := _, pos := _, after := _, guard := _ } :: _) _ _; go_must (refine wpList_load_whole rfl 53 (.tmp 2) rfl w.heap.size 53 (bv (zs.take 32)) _ Try.underlying53 rfl HZ.out HR2.out ?_ ?_; go_simp))
      | (with_reducible show wpList _ _ _ ({ dst := none, op := Op.store 53 _ _, type := _, pos := _, after := _, guard := _ } :: _) _ _; go_must (refine wpList_store_whole rfl 53 (.tmp 2) (.tmp 7) rfl w.heap.size (bv (zs.take 32)) (bv (zs.take 32)) HR2.out HZ.out rfl (bv_one _) ?_ ?_ ?_; go_simp; go_simp; intro w3 hr3 ht3; have HR3 := Lib.hid hr3; have HT3 := Lib.hid ht3; clear hr3 ht3)))
    refine bodyPost_ret (results_cell_row (h := rfl) _ w3 w.heap.size 53 (bv (zs.take 32)).toArray (0, 0) _ (by rfl) HR3.out.is Try.underlying53 rfl (by simpa using HZ.out)) rfl ?_
    have hne : p ≠ w.heap.size := Nat.ne_of_lt hp
    refine .inl ⟨zs.take 32, zs.drop 32, _, HP.out, rfl, ⟨rfl, hl⟩, ?_, ?_⟩
    · obtain ⟨A', c', q1, q2, q3, q4⟩ := HRD.out.is
      exact ⟨A', c', HT3.out.row q1 hne, q2.below (HT3.out.below (by omega)), q3, q4⟩
    · exact ⟨HT3.out.os.trans HBW.out.os, HT3.out.tape.trans HBW.out.tape, HT3.out.output.trans HBW.out.output, by rw [HT3.out.size]; exact HBW.out.size, fun k hk hne' => (HT3.out.block k (by omega)).trans (HBW.out.block k hk hne')⟩
end Go.Proofs.Ytidggfbjmmjmfaa
