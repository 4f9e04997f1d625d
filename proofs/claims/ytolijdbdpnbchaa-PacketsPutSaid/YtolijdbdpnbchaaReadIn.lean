/-
  messages.reader.instr, lookup.
  messages.reader.lookup.
-/
import Derived.Test.YtolijdbdpnbchaaListB
namespace Go.Proofs.Ytolijdbdpnbchaa
open Go.RowKit
set_option linter.unusedVariables false

section
variable {w w' : World} {p B g lo : Nat} {zs : List Int} {v : Value} {xs : List Int}
theorem RdIn.turned (h : RdIn w p B zs) (ht : Turned w w' g) (hg : g ≠ p) (hB : B ≤ g) : RdIn w' p B zs := by
  obtain ⟨A, c, q1, q2, q3, q4⟩ := h.is
  exact ⟨A, c, ht.row q1 (fun e => hg e.symm), q2.below (ht.below hB), q3, q4⟩
theorem But.turned {w0 : World} (h : But p w0 w) (ht : Turned w w' g) (hg : w0.heap.size ≤ g) : But p w0 w' :=
  ⟨ht.os.trans h.os, ht.tape.trans h.tape, ht.output.trans h.output, by rw [ht.size]; exact h.size, fun k hk hne => (ht.block k (by omega)).trans (h.block k hk hne)⟩
theorem OwnB.turned (h : OwnB w lo v xs) (ht : Turned w w' g) (hg : g < lo) : OwnB w' lo v xs := by
  refine ⟨h.1, ?_⟩
  rcases h.2 with h2 | ⟨k, cap, cur, hv, hk, hh, r⟩
  · exact .inl h2
  · exact .inr ⟨k, cap, cur, hv, hk, (ht.block k (by omega)).trans hh, r⟩
theorem OwnB.lt (h : OwnB w lo v xs) : ∀ k, v.ownBlock = some k → lo ≤ k ∧ k < w.heap.size := World.ownsRow.lt h
theorem OwnB.more {lo' : Nat} (h : OwnB w lo v xs) (hl : lo' ≤ lo) : OwnB w lo' v xs := by
  refine ⟨h.1, ?_⟩
  rcases h.2 with h2 | ⟨k, cap, cur, hv, hk, hh, r⟩
  · exact .inl h2
  · exact .inr ⟨k, cap, cur, hv, by omega, hh, r⟩
/-- what is owned within [lo, hi) stays while these blocks do -/
theorem OwnB.stay {hi : Nat} (h : OwnB w lo v xs) (hh : ∀ k, v.ownBlock = some k → k < hi) (hk : ∀ k, lo ≤ k → k < hi → w'.heap[k]? = w.heap[k]?) : OwnB w' lo v xs := by
  refine ⟨h.1, ?_⟩
  rcases h.2 with h2 | ⟨k, cap, cur, hv, hk', hh', r⟩
  · exact .inl h2
  · exact .inr ⟨k, cap, cur, hv, hk', (hk k hk' (hh k (by rw [hv]; rfl))).trans hh', r⟩
theorem OwnB.one (h : OwnB w lo v xs) : v.oneCell' = true := by
  obtain ⟨A, c, rfl⟩ := h.form
  rfl
end

/-- a list of bytes of the call's own, in the blocks from lo to hi -/
structure OwnR (w : World) (lo hi : Nat) (v : Value) (l : List Int) : Prop where
  own : OwnB w lo v l
  lt : ∀ k, v.ownBlock = some k → k < hi
  len : l.length ≤ 65535

theorem OwnR.stay {w w' : World} {lo hi : Nat} {v : Value} {l : List Int} (h : OwnR w lo hi v l) (hk : ∀ k, lo ≤ k → k < hi → w'.heap[k]? = w.heap[k]?) : OwnR w' lo hi v l := ⟨h.own.stay h.lt hk, h.lt, h.len⟩

/-- an instruction's cells, its lists in the blocks from lo to hi -/
def InV (w : World) (lo hi : Nat) (cs : List Value) (x : LIn) : Prop := ∃ va vd mid, cs = inCells x.p va vd ∧ lo ≤ mid ∧ mid ≤ hi ∧ OwnR w lo mid va x.acc ∧ OwnR w mid hi vd x.dat
/-- a lookup's -/
def LookV (w : World) (lo hi : Nat) (cs : List Value) (x : LLook) : Prop := ∃ va vd mid, cs = bv x.tab ++ [va, vd] ∧ x.tab.length = 32 ∧ lo ≤ mid ∧ mid ≤ hi ∧ OwnR w lo mid va x.wr ∧ OwnR w mid hi vd x.rd
/-- a key's -/
def KeyV (w : World) (lo hi : Nat) (cs : List Value) (x : List Int) : Prop := cs = bv x ∧ x.length = 32

set_option maxRecDepth 100000 in
set_option maxHeartbeats 1000000 in
theorem instr_ (p B : Nat) (zs : List Int) (w : World) (h : RdIn w p B zs) (hB : B ≤ p) (hz : AllBytes zs) :
    Calls Try.prog 77 #[.pointer (some ⟨p, 0, none⟩)] w (Reads w p B (pIn zs) fun w' v x => ∃ cs : List Value, v = .agg cs.toArray ∧ InV w' w.heap.size w'.heap.size cs x) := by
  have hp := h.lt
  have HC := Lib.hid (octet_ p B zs _ (h.alloc hB (.cells (inCells 0 (.slice none 0 0) (.slice none 0 0)).toArray 89)) hB)
  have HR0 := Lib.hid ((Row.new w 89 (inCells 0 (.slice none 0 0) (.slice none 0 0))))
  have HB0 := Lib.hid ((But.refl p w).alloc (.cells (inCells 0 (.slice none 0 0) (.slice none 0 0)).toArray 89))
  have hmf : ∀ (fn : Fn) (first cap : Array Value) (w : World), (Instr.makeFunc fn first cap).run Try.prog w = .ok (.func fn first cap) w := fun _ _ _ _ => rfl
  obtain ⟨P, hP⟩ : ∃ P, P = pIn zs := ⟨_, rfl⟩
  rw [← hP]
  have HP := Lib.hid hP
  have HZ := Lib.hid hz
  clear hP h hz
  go_enter Try.func77, Try.ntmps77
  go_wp2_with fail
  refine HC.out.mono ?_
  rintro e w1 (⟨x, r, v, hP1, rfl, rfl, hr1, hb1⟩ | ⟨c, hP1, rfl, hb1⟩)
  · have hrow := hb1.row HR0.out (Nat.ne_of_gt hp)
    have c0 := (in_cells hrow).1
    have f0 := hrow.frozen 0
    have hrb : AllBytes r := (front_octet _ _ _ hP1).bytes HZ.out
    have hB1 := HB0.out.trans hb1
    have hlt1 := hrow.lt
    have ht2 := turned_setCell w1 ⟨w.heap.size, 0, none⟩ (.int .u8 x)
    have hR2 : Row (w1.setCell ⟨w.heap.size, 0, none⟩ (.int .u8 x)) w.heap.size 89 (inCells x (.slice none 0 0) (.slice none 0 0)) := hrow.set_ 0 _
    have hrd2 : RdIn _ p B r := hr1.turned ht2 (Nat.ne_of_gt hp) (by show B ≤ w.heap.size; omega)
    have hB2 : But p w _ := hB1.turned ht2 (Nat.le_refl _)
    have hL2 := list_byte p B r _ hrd2 hB hrb
    have hz2 : (w1.setCell ⟨w.heap.size, 0, none⟩ (.int .u8 x)).heap.size = w1.heap.size := ht2.size
    have HRB := Lib.hid hrb
    have HP1 := Lib.hid hP1
    have HB2 := Lib.hid hB2
    have HR2 := Lib.hid hR2
    have HL2 := Lib.hid hL2
    have HZ2 := Lib.hid hz2
    clear hP1 hr1 hb1 hrow hrb hB1 ht2 hR2 hrd2 hB2 hL2 hz2
    go_wp2_with fail
    generalize (w1.setCell ⟨w.heap.size, 0, none⟩ (.int .u8 x)) = w2 at *
    refine HL2.out.mono ?_
    rintro e w3 (⟨la, r2, va, hP2, rfl, ⟨hva, hla⟩, hr3, hb3⟩ | ⟨c, hP2, rfl, hb3⟩)
    · obtain ⟨A1, c1, rfl⟩ := hva.form
      have hrow := hb3.row HR2.out (Nat.ne_of_gt hp)
      have c0 := (in_cells hrow).2.1
      have f0 := hrow.frozen 1
      have hrb : AllBytes r2 := (front_bytes _ _ _ hP2).bytes HRB.out
      have hB1 := HB2.out.trans hb3
      have hlt3 := hrow.lt
      have ht4 := turned_setCell w3 ⟨w.heap.size, 1, none⟩ (.slice A1 la.length c1)
      have hR4 : Row (w3.setCell ⟨w.heap.size, 1, none⟩ (.slice A1 la.length c1)) w.heap.size 89 (inCells x (.slice A1 la.length c1) (.slice none 0 0)) := hrow.set_ 1 _
      have hrd4 : RdIn _ p B r2 := hr3.turned ht4 (Nat.ne_of_gt hp) (by show B ≤ w.heap.size; omega)
      have hB4 : But p w _ := hB1.turned ht4 (Nat.le_refl _)
      have hL4 := list_byte p B r2 _ hrd4 hB hrb
      have hva4 : OwnB _ w2.heap.size (.slice A1 la.length c1) la := hva.turned ht4 (by show w.heap.size < w2.heap.size; rw [HZ2.out]; exact hlt1)
      have HVA := Lib.hid hva4
      have HVL : Hid (∀ k, (Value.slice A1 la.length c1).ownBlock = some k → k < w3.heap.size) := Lib.hid fun k hk => (hva.lt k hk).2
      have hz4 : (w3.setCell ⟨w.heap.size, 1, none⟩ (.slice A1 la.length c1)).heap.size = w3.heap.size := ht4.size
      have hz23 : w2.heap.size ≤ w3.heap.size := hb3.size
      have HRB2 := Lib.hid hrb
      have HP2 := Lib.hid hP2
      have HB4 := Lib.hid hB4
      have HR4 := Lib.hid hR4
      have HL4 := Lib.hid hL4
      have HZ4 := Lib.hid hz4
      have HLA := Lib.hid hla
      clear hP2 hr3 hb3 hrow hrb hB1 ht4 hR4 hrd4 hB4 hL4 hz4 hva hva4 hla HL2
      go_wp2_with fail
      generalize (w3.setCell ⟨w.heap.size, 1, none⟩ (.slice A1 la.length c1)) = w4 at *
      clear c0 f0
      refine HL4.out.mono ?_
      rintro e w5 (⟨ld, r3, vd, hP3, rfl, ⟨hvd, hld⟩, hr5, hb5⟩ | ⟨c, hP3, rfl, hb5⟩)
      · obtain ⟨A2, c2, rfl⟩ := hvd.form
        have hrow := hb5.row HR4.out (Nat.ne_of_gt hp)
        have c0 := (in_cells hrow).2.2
        have f0 := hrow.frozen 2
        have hB1 := HB4.out.trans hb5
        have hlt5 := hrow.lt
        have ht6 := turned_setCell w5 ⟨w.heap.size, 2, none⟩ (.slice A2 ld.length c2)
        have hR6 : Row (w5.setCell ⟨w.heap.size, 2, none⟩ (.slice A2 ld.length c2)) w.heap.size 89 (inCells x (.slice A1 la.length c1) (.slice A2 ld.length c2)) := hrow.set_ 2 _
        have hrd6 : RdIn _ p B r3 := hr5.turned ht6 (Nat.ne_of_gt hp) (by show B ≤ w.heap.size; omega)
        have hB6 : But p w _ := hB1.turned ht6 (Nat.le_refl _)
        have hvd6 : OwnB _ w4.heap.size (.slice A2 ld.length c2) ld := hvd.turned ht6 (by show w.heap.size < w4.heap.size; rw [HZ4.out]; exact hlt3)
        have hva6 : OwnB _ w2.heap.size (.slice A1 la.length c1) la := (hb5.ownB (by rw [HZ2.out]; omega) HVA.out).turned ht6 (by show w.heap.size < w2.heap.size; rw [HZ2.out]; exact hlt1)
        have hz6 : (w5.setCell ⟨w.heap.size, 2, none⟩ (.slice A2 ld.length c2)).heap.size = w5.heap.size := ht6.size
        have HVL2 : Hid (∀ k, (Value.slice A2 ld.length c2).ownBlock = some k → k < w5.heap.size) := Lib.hid fun k hk => (hvd.lt k hk).2
        have hz45 : w4.heap.size ≤ w5.heap.size := hb5.size
        have hone : ∀ u ∈ inCells x (.slice A1 la.length c1) (.slice A2 ld.length c2), u.oneCell' = true := by
          intro u hu
          simp only [inCells, List.mem_cons, List.not_mem_nil, or_false] at hu
          rcases hu with rfl | rfl | rfl <;> rfl
        have HON := Lib.hid hone
        have HP3 := Lib.hid hP3
        have HB6 := Lib.hid hB6
        have HR6 := Lib.hid hR6
        have HRD6 := Lib.hid hrd6
        have HVA6 := Lib.hid hva6
        have HVD6 := Lib.hid hvd6
        have HZ6 := Lib.hid hz6
        have HLD := Lib.hid hld
        clear hP3 hr5 hb5 hrow hB1 ht6 hR6 hrd6 hB6 hvd6 hva6 hz6 hvd hld HL4 hone
        go_wp2_with (first
          | (with_reducible show wpList _ _ _ ({ dst := some 16, op := Op.load _ _, type := _, pos := _, after := _, guard := _ } :: _) _ _; go_must (refine wpList_load_whole rfl 89 (.tmp 2) rfl w.heap.size 89 _ _ Try.underlying89 rfl (size_in _ _ _) HR6.out ?_ ?_; go_simp))
          | (with_reducible show wpList _ _ _ ({ dst := none, op := Op.store 89 _ _, type := _, pos := _, after := _, guard := _ } :: _) _ _; go_must (refine wpList_store_whole rfl 89 (.tmp 2) (.tmp 16) rfl w.heap.size _ _ HR6.out (size_in _ _ _) rfl HON.out ?_ ?_ ?_; go_simp; go_simp; intro w7 hr7 ht7; have HR7 := Lib.hid hr7; have HT7 := Lib.hid ht7; clear hr7 ht7)))
        generalize (w5.setCell ⟨w.heap.size, 2, none⟩ (.slice A2 ld.length c2)) = w6 at *
        refine bodyPost_ret (results_cell_row (h := rfl) _ w7 w.heap.size 89 _ (0, 0) _ (by rfl) HR7.out.is Try.underlying89 rfl (by simpa using size_in _ _ _)) rfl ?_
        have e7 := HT7.out.size
        have e6 := HZ6.out
        have e4 := HZ4.out
        have e2 := HZ2.out
        refine .inl ⟨⟨x, la, ld⟩, r3, _, ?_, rfl, ⟨_, rfl, _, _, w4.heap.size, rfl, by omega, by omega, ⟨?_, fun k hk => by have := HVL.out k hk; omega, HLA.out⟩, ⟨?_, fun k hk => by have := HVL2.out k hk; omega, HLD.out⟩⟩, ?_, ?_⟩
        · rw [HP.out]
          unfold pIn
          simp only [HP1.out, HP2.out, HP3.out]
        · exact (HVA6.out.turned HT7.out (by omega)).more (by omega)
        · exact HVD6.out.turned HT7.out (by omega)
        · exact HRD6.out.turned HT7.out (Nat.ne_of_gt hp) (by omega)
        · exact HB6.out.turned HT7.out (Nat.le_refl _)
      · refine ⟨rfl, .inr ⟨c, ?_, rfl, HB4.out.trans hb5⟩⟩
        rw [HP.out]
        unfold pIn
        simp only [HP1.out, HP2.out, hP3]
    · refine ⟨rfl, .inr ⟨c, ?_, rfl, HB2.out.trans hb3⟩⟩
      rw [HP.out]
      unfold pIn
      simp only [HP1.out, hP2]
  · refine ⟨rfl, .inr ⟨c, ?_, rfl, HB0.out.trans hb1⟩⟩
    rw [HP.out]
    unfold pIn
    rw [hP1]

def lookZ : List Value := bv (List.replicate 32 0) ++ [.slice none 0 0, .slice none 0 0]
theorem look_set1 {w : World} {g t : Nat} {tab : List Int} {va vd : Value} (hr : Row w g t (bv tab ++ [va, vd])) (ht : tab.length = 32) (u : Value) : Row (w.setCell ⟨g, 32, none⟩ u) g t (bv tab ++ [u, vd]) := by
  have h := hr.set_ 32 u
  rw [List.set_append_right _ _ (by rw [bv_length, ht]; exact Nat.le_refl _), bv_length, ht] at h
  exact h
theorem look_set2 {w : World} {g t : Nat} {tab : List Int} {va vd : Value} (hr : Row w g t (bv tab ++ [va, vd])) (ht : tab.length = 32) (u : Value) : Row (w.setCell ⟨g, 33, none⟩ u) g t (bv tab ++ [va, u]) := by
  have h := hr.set_ 33 u
  rw [List.set_append_right _ _ (by rw [bv_length, ht]; omega), bv_length, ht] at h
  exact h

set_option maxRecDepth 100000 in
set_option maxHeartbeats 1000000 in
theorem look_ (p B : Nat) (zs : List Int) (w : World) (h : RdIn w p B zs) (hB : B ≤ p) (hz : AllBytes zs) :
    Calls Try.prog 79 #[.pointer (some ⟨p, 0, none⟩)] w (Reads w p B (pLook zs) fun w' v x => ∃ cs : List Value, v = .agg cs.toArray ∧ LookV w' w.heap.size w'.heap.size cs x) := by
  have hp := h.lt
  have HC := Lib.hid (key_ p B zs _ (h.alloc hB (.cells lookZ.toArray 93)) hB)
  have HR0 := Lib.hid ((Row.new w 93 lookZ))
  have HB0 := Lib.hid ((But.refl p w).alloc (.cells lookZ.toArray 93))
  have hmf : ∀ (fn : Fn) (first cap : Array Value) (w : World), (Instr.makeFunc fn first cap).run Try.prog w = .ok (.func fn first cap) w := fun _ _ _ _ => rfl
  obtain ⟨P, hP⟩ : ∃ P, P = pLook zs := ⟨_, rfl⟩
  rw [← hP]
  have HP := Lib.hid hP
  have HZ := Lib.hid hz
  clear hP h hz
  go_enter Try.func79, Try.ntmps79
  go_wp2_with fail
  refine HC.out.mono ?_
  rintro e w1 (⟨x, r, v, hP1, rfl, ⟨rfl, hx32⟩, hr1, hb1⟩ | ⟨c, hP1, rfl, hb1⟩)
  · have hrow := hb1.row HR0.out (Nat.ne_of_gt hp)
    have hrb : AllBytes r := (front_take 32 _ _ _ hP1).bytes HZ.out
    have hB1 := HB0.out.trans hb1
    have hlt1 := hrow.lt
    have hzk : (Try.prog.info? 58).map (·.size) = some (bv x).length := by rw [size_key, bv_length, hx32]
    have HZK := Lib.hid hzk
    have HRB := Lib.hid hrb
    have HP1 := Lib.hid hP1
    have HB1 := Lib.hid hB1
    have HROW := Lib.hid hrow
    have HR1 := Lib.hid hr1
    have HX := Lib.hid hx32
    clear hP1 hr1 hb1 hrow hrb hB1 hzk hx32
    go_wp2_with (with_reducible show wpList _ _ _ ({ dst := none, op := Op.store 58 _ _, type := _, pos := _, after := _, guard := _ } :: _) _ _; go_must (refine wpList_store_part rfl 58 (.tmp 5) (.tmp 4) rfl w.heap.size 93 0 lookZ (bv x) HROW.out HZK.out (by rw [bv_length, HX.out]; decide) (bv_one x) ?_ ?_ ?_; go_simp; go_simp; intro w2 hr2 ht2; have HR2' := Lib.hid hr2; have HT2 := Lib.hid ht2; clear hr2 ht2))
    have hR2 : Row w2 w.heap.size 93 (bv x ++ [.slice none 0 0, .slice none 0 0]) := by
      have h := HR2'.out
      rw [bv_length, HX.out] at h
      exact h
    have hrd2 : RdIn _ p B r := HR1.out.turned HT2.out (Nat.ne_of_gt hp) (by omega)
    have hB2 : But p w _ := HB1.out.turned HT2.out (Nat.le_refl _)
    have HL2 := Lib.hid (list_byte p B r _ hrd2 hB HRB.out)
    have HZ2 := Lib.hid HT2.out.size
    have HB2 := Lib.hid hB2
    have HR2 := Lib.hid hR2
    clear hR2 hrd2 hB2
    refine HL2.out.mono ?_
    rintro e w3 (⟨la, r2, va, hP2, rfl, ⟨hva, hla⟩, hr3, hb3⟩ | ⟨c, hP2, rfl, hb3⟩)
    · obtain ⟨A1, c1, rfl⟩ := hva.form
      have hrow := hb3.row HR2.out (Nat.ne_of_gt hp)
      have c0 := (look_cells hrow HX.out).1
      have f0 := hrow.frozen 32
      have hrb : AllBytes r2 := (front_bytes _ _ _ hP2).bytes HRB.out
      have hB1 := HB2.out.trans hb3
      have hlt3 := hrow.lt
      have ht4 := turned_setCell w3 ⟨w.heap.size, 32, none⟩ (.slice A1 la.length c1)
      have hR4 : Row (w3.setCell ⟨w.heap.size, 32, none⟩ (.slice A1 la.length c1)) w.heap.size 93 (bv x ++ [.slice A1 la.length c1, .slice none 0 0]) := look_set1 hrow HX.out _
      have hrd4 : RdIn _ p B r2 := hr3.turned ht4 (Nat.ne_of_gt hp) (by show B ≤ w.heap.size; omega)
      have hB4 : But p w _ := hB1.turned ht4 (Nat.le_refl _)
      have hL4 := list_byte p B r2 _ hrd4 hB hrb
      have hva4 : OwnB _ w2.heap.size (.slice A1 la.length c1) la := hva.turned ht4 (by show w.heap.size < w2.heap.size; rw [HZ2.out]; exact hlt1)
      have HVA := Lib.hid hva4
      have HVL : Hid (∀ k, (Value.slice A1 la.length c1).ownBlock = some k → k < w3.heap.size) := Lib.hid fun k hk => (hva.lt k hk).2
      have hz4 : (w3.setCell ⟨w.heap.size, 32, none⟩ (.slice A1 la.length c1)).heap.size = w3.heap.size := ht4.size
      have hz23 : w2.heap.size ≤ w3.heap.size := hb3.size
      have HRB2 := Lib.hid hrb
      have HP2 := Lib.hid hP2
      have HB4 := Lib.hid hB4
      have HR4 := Lib.hid hR4
      have HL4 := Lib.hid hL4
      have HZ4 := Lib.hid hz4
      have HLA := Lib.hid hla
      clear hP2 hr3 hb3 hrow hrb hB1 ht4 hR4 hrd4 hB4 hL4 hz4 hva hva4 hla HL2
      go_wp2_with fail
      generalize (w3.setCell ⟨w.heap.size, 32, none⟩ (.slice A1 la.length c1)) = w4 at *
      clear c0 f0
      refine HL4.out.mono ?_
      rintro e w5 (⟨ld, r3, vd, hP3, rfl, ⟨hvd, hld⟩, hr5, hb5⟩ | ⟨c, hP3, rfl, hb5⟩)
      · obtain ⟨A2, c2, rfl⟩ := hvd.form
        have hrow := hb5.row HR4.out (Nat.ne_of_gt hp)
        have c0 := (look_cells hrow HX.out).2
        have f0 := hrow.frozen 33
        have hB1 := HB4.out.trans hb5
        have hlt5 := hrow.lt
        have ht6 := turned_setCell w5 ⟨w.heap.size, 33, none⟩ (.slice A2 ld.length c2)
        have hR6 : Row (w5.setCell ⟨w.heap.size, 33, none⟩ (.slice A2 ld.length c2)) w.heap.size 93 (bv x ++ [.slice A1 la.length c1, .slice A2 ld.length c2]) := look_set2 hrow HX.out _
        have hrd6 : RdIn _ p B r3 := hr5.turned ht6 (Nat.ne_of_gt hp) (by show B ≤ w.heap.size; omega)
        have hB6 : But p w _ := hB1.turned ht6 (Nat.le_refl _)
        have hvd6 : OwnB _ w4.heap.size (.slice A2 ld.length c2) ld := hvd.turned ht6 (by show w.heap.size < w4.heap.size; rw [HZ4.out]; exact hlt3)
        have hva6 : OwnB _ w2.heap.size (.slice A1 la.length c1) la := (hb5.ownB (by rw [HZ2.out]; omega) HVA.out).turned ht6 (by show w.heap.size < w2.heap.size; rw [HZ2.out]; exact hlt1)
        have hz6 : (w5.setCell ⟨w.heap.size, 33, none⟩ (.slice A2 ld.length c2)).heap.size = w5.heap.size := ht6.size
        have HVL2 : Hid (∀ k, (Value.slice A2 ld.length c2).ownBlock = some k → k < w5.heap.size) := Lib.hid fun k hk => (hvd.lt k hk).2
        have hz45 : w4.heap.size ≤ w5.heap.size := hb5.size
        have hone : ∀ u ∈ bv x ++ [.slice A1 la.length c1, .slice A2 ld.length c2], u.oneCell' = true := by
          intro u hu
          simp only [List.mem_append, List.mem_cons, List.not_mem_nil, or_false] at hu
          rcases hu with hu | rfl | rfl
          · exact bv_one _ _ hu
          · rfl
          · rfl
        have HON := Lib.hid hone
        have HP3 := Lib.hid hP3
        have HB6 := Lib.hid hB6
        have HR6 := Lib.hid hR6
        have HRD6 := Lib.hid hrd6
        have HVA6 := Lib.hid hva6
        have HVD6 := Lib.hid hvd6
        have HZ6 := Lib.hid hz6
        have HLD := Lib.hid hld
        clear hP3 hr5 hb5 hrow hB1 ht6 hR6 hrd6 hB6 hvd6 hva6 hz6 hvd hld HL4 hone
        go_wp2_with (first
          | (with_reducible show wpList _ _ _ ({ dst := some 16, op := Op.load _ _, type := _, pos := _, after := _, guard := _ } :: _) _ _; go_must (refine wpList_load_whole rfl 93 (.tmp 2) rfl w.heap.size 93 _ _ Try.underlying93 rfl (size_lk HX.out _ _) HR6.out ?_ ?_; go_simp))
          | (with_reducible show wpList _ _ _ ({ dst := none, op := Op.store 93 _ _, type := _, pos := _, after := _, guard := _ } :: _) _ _; go_must (refine wpList_store_whole rfl 93 (.tmp 2) (.tmp 16) rfl w.heap.size _ _ HR6.out (size_lk HX.out _ _) rfl HON.out ?_ ?_ ?_; go_simp; go_simp; intro w7 hr7 ht7; have HR7 := Lib.hid hr7; have HT7 := Lib.hid ht7; clear hr7 ht7)))
        generalize (w5.setCell ⟨w.heap.size, 33, none⟩ (.slice A2 ld.length c2)) = w6 at *
        refine bodyPost_ret (results_cell_row (h := rfl) _ w7 w.heap.size 93 _ (0, 0) _ (by rfl) HR7.out.is Try.underlying93 rfl (by rw [List.size_toArray]; exact size_lk HX.out _ _)) rfl ?_
        have e7 := HT7.out.size
        have e6 := HZ6.out
        have e4 := HZ4.out
        have e2 := HZ2.out
        refine .inl ⟨⟨x, la, ld⟩, r3, _, ?_, rfl, ⟨_, rfl, _, _, w4.heap.size, rfl, HX.out, by omega, by omega, ⟨?_, fun k hk => by have := HVL.out k hk; omega, HLA.out⟩, ⟨?_, fun k hk => by have := HVL2.out k hk; omega, HLD.out⟩⟩, ?_, ?_⟩
        · rw [HP.out]
          unfold pLook
          simp only [HP1.out, HP2.out, HP3.out]
        · exact (HVA6.out.turned HT7.out (by omega)).more (by omega)
        · exact HVD6.out.turned HT7.out (by omega)
        · exact HRD6.out.turned HT7.out (Nat.ne_of_gt hp) (by omega)
        · exact HB6.out.turned HT7.out (Nat.le_refl _)
      · refine ⟨rfl, .inr ⟨c, ?_, rfl, HB4.out.trans hb5⟩⟩
        rw [HP.out]
        unfold pLook
        simp only [HP1.out, HP2.out, hP3]
    · refine ⟨rfl, .inr ⟨c, ?_, rfl, HB2.out.trans hb3⟩⟩
      rw [HP.out]
      unfold pLook
      simp only [HP1.out, hP2]
  · refine ⟨rfl, .inr ⟨c, ?_, rfl, HB0.out.trans hb1⟩⟩
    rw [HP.out]
    unfold pLook
    rw [hP1]
end Go.Proofs.Ytolijdbdpnbchaa
