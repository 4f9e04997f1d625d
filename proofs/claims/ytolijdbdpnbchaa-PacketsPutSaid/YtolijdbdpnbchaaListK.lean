/-
  messages.list[ferryhouse/api.Key].
  messages.list[ferryhouse/api.Instr].
  messages.list[ferryhouse/api.Lookup].
-/
import Derived.Test.YtolijdbdpnbchaaListV
namespace Go.Proofs.Ytolijdbdpnbchaa
open Go.RowKit
set_option linter.unusedVariables false

theorem info_key : (Try.prog.info? 58).map (fun i => (i.zero, i.size, i.bytes)) = some (some (.agg (zeros 32).toArray), 32, 32) := by kernel_rfl
theorem zsz_key : (Value.agg (zeros 32).toArray).cells.size = 32 := by kernel_rfl

theorem keyV_size {w : World} {lo hi : Nat} {cs : List Value} {x : (List Int)} (h : KeyV w lo hi cs x) : cs.length = 32 := by
  rw [h.1, bv_length, h.2]
theorem keyV_one {w : World} {lo hi : Nat} {cs : List Value} {x : (List Int)} (h : KeyV w lo hi cs x) : ∀ u ∈ cs, u.oneCell' = true := by
  rw [h.1]; exact bv_one x

theorem key_c (p B : Nat) (zs : List Int) (w : World) (h : RdIn w p B zs) (hB : B ≤ p) :
    Calls Try.prog 75 #[.pointer (some ⟨p, 0, none⟩)] w (Reads w p B (pTake 32 zs) fun w' v x => ∃ cs : List Value, v = .agg cs.toArray ∧ KeyV w' w.heap.size w'.heap.size cs x) := by
  refine (key_ p B zs w h hB).mono ?_
  rintro e w' (⟨x, r, v, h1, h2, ⟨rfl, h3⟩, h4⟩ | h)
  · exact .inl ⟨x, r, _, h1, h2, ⟨_, rfl, rfl, h3⟩, h4⟩
  · exact .inr h

/-- what list leaves -/
def ListK (w : World) (p B : Nat) (zs : List Int) (e : Ending) (w' : World) : Prop :=
  Reads w p B (pList (pTake 32) zs) (fun w' v l => l.length ≤ 65535 ∧ ∃ css L R, LV KeyV 58 32 w' w.heap.size v l css L R) e w'

set_option maxRecDepth 100000 in
set_option maxHeartbeats 1000000 in
theorem list_key (p B : Nat) (zs : List Int) (w : World) (h : RdIn w p B zs) (hB : B ≤ p) (hz : AllBytes zs) :
    Calls Try.prog 74 #[.pointer (some ⟨p, 0, none⟩), .func (.func 75) #[.pointer (some ⟨p, 0, none⟩)] #[]] w (ListK w p B zs) := by
  have hp := h.lt
  have HS := Lib.hid (short_ p B zs w h hB hz)
  have HZ := Lib.hid hz
  have hmin := @run_least Try.prog
  obtain ⟨i0, hi, hz0, hz1, hz2⟩ := info_parts info_key
  clear h hz
  go_enter Try.func74, Try.ntmps74
  go_wp2_with fail
  refine HS.out.mono ?_
  rintro e w1 (⟨n, r, v, hP, rfl, ⟨rfl, hn⟩, hr, hb⟩ | ⟨c, hP, rfl, hb⟩)
  · have HP := Lib.hid hP
    have HR := Lib.hid hr
    have HB := Lib.hid hb
    have hz1' := hb.size
    have hrb : AllBytes r := (front_short _ _ _ hP).bytes HZ.out
    have HRB := Lib.hid hrb
    clear hP hr hb hrb HS
    by_cases h0 : n = 0
    · subst h0
      go_wp2_with fail
      go_ret
      refine .inl ⟨[], r, _, ?_, rfl, ⟨by simp, [], fun _ => 0, fun _ => 0, LV.none (World.ownsRow_nil _ _ _ _)⟩, HR.out, HB.out⟩
      unfold pList
      rw [HP.out]
      rfl
    · have h0' : ((n : Int) == 0) = false := by simp; omega
      obtain ⟨A, c, q1, q2, q3, q4⟩ := HR.out.is
      have c0 : w1.cell? ⟨p, 0, none⟩ = some (.slice A r.length c) := q1.cell 0
      have HN0 := Lib.hid h0
      clear q1 q2 h0
      unfold maxLen at q4
      go_wp2_with (first
        | (at_make; go_must (refine wpList_make_own _ rfl (.const (.int .i64 0)) (.tmp 17) 25 rfl w.heap.size 58 i0 _ 32 Try.underlying25 hi hz0 hz1 .i64 .i64 _ (min n r.length) rfl ?_ rfl (by rw [hz2]; omega) (by unfold maxLen; omega) hz1' ?_; go_simp; intro w2 hown hgrow)))
      have HO2 := Lib.hid (LV.none (EV := KeyV) (L := fun _ => 0) (R := fun _ => 0) hown)
      have hb2 : Below w1.heap.size w1 w2 := (Below.refl _ _).grown hgrow (Nat.le_refl _) (fun k hk => by cases hk)
      have HR2 := Lib.hid (HR.out.below hb2 hB)
      have HB2 := Lib.hid (HB.out.trans (But.of_below hb2 p))
      clear hown hgrow hb2 c0 hi hz0 hz1 hz2
      go_loopw [6, 20] (fun v i wr => ∃ (k : Nat) (l : List (List Int)) (rest : List Int) (css : List (List Value)) (L R : Nat → Nat), k ≤ n ∧ i = .int .i64 k ∧ pMany (pTake 32) k r = .ok (l, rest) ∧ LV KeyV 58 32 wr w.heap.size v l css L R ∧ RdIn wr p B rest ∧ But p w wr) (fun v i _ => n - (intOf i).toNat)
      case atStart => exact ⟨0, [], r, [], _, _, Nat.zero_le _, rfl, rfl, HO2.out, HR2.out, HB2.out⟩
      case round =>
        clear HO2 HR2 HB2
        obtain ⟨k, l, rest, css, L, R, hk, rfl, hP2, ho, hr, hb⟩ := hrel
        have HP2 := Lib.hid hP2
        have HO := Lib.hid ho
        have HBR := Lib.hid hb
        have hlk := pMany_len _ _ _ _ _ hP2
        by_cases hlt : k < n
        · have HC := Lib.hid (key_c p B rest wr hr hB )
          have hzs := hb.size
          clear hP2 ho hr hb
          go_wp2_with fail
          refine HC.out.mono ?_
          rintro e w3 (⟨x, rest', v, hP3, rfl, ⟨cs, rfl, hev⟩, hr3, hb3⟩ | ⟨c, hP3, rfl, hb3⟩)
          · have hz3 := hb3.size
            have hcs := keyV_size hev
            have hc1 := keyV_one hev
            have ho3 := HO.out.but stays_key hb3 hp
            have how := ho3.own
            have HP3 := Lib.hid hP3
            have HR3 := Lib.hid hr3
            have HB3' := Lib.hid hb3
            have HB3 := Lib.hid (HBR.out.trans hb3)
            have HEV := Lib.hid hev
            have HC1 := Lib.hid hc1
            have HOW := Lib.hid how
            clear hP3 hr3 hb3 hev hc1 how ho3
            go_wp2_with (first
              | (with_reducible show wpList _ _ _ ({ dst := some 25, op := Op.buildSlice _ _ _, type := _, pos := _, after := _, guard := _ } :: _) _ _; go_must (refine wpList_buildOne rfl 25 58 (.tmp 24) rfl cs _ 32 32 Try.underlying25 info_key zsz_key (by omega) (by omega) hcs ?_ ?_; go_simp))
              | (at_builtin; go_must (refine wpList_addRow rfl (.tmp 22) (.tmp 25) 25 rfl w.heap.size 58 _ 32 32 Try.underlying25 info_key zsz_key (by omega) _ l.length css.flatten cs 1 hcs HC1.out rfl ?_ HOW.out ?_ (by omega) (by unfold maxLen; omega) (by omega) ?_; go_simp; go_simp; intro v4 w4 ho4 hg4; have HO4 := Lib.hid (HO.out.snoc stays_key HB3'.out hp hzs HEV.out hg4 ho4); have HR4 := Lib.hid (HR3.out.grewV hg4 HOW.out hp hB (by omega)); have HB4 := Lib.hid (But.grewV hg4 HOW.out w HB3.out (Nat.le_refl _)); clear ho4 hg4)))
            go_roundw
            case rel =>
              refine ⟨k + 1, l ++ [x], rest', _, _, _, by omega, by go_num, ?_, HO4.out, HR4.out, HB4.out⟩
              rw [pMany_snoc, HP2.out]
              simp only [HP3.out]
            case measure => simp [intOf]; omega
          · refine ⟨rfl, .inr ⟨c, ?_, rfl, HBR.out.trans hb3⟩⟩
            unfold pList
            rw [HP.out]
            refine pMany_fail (pTake 32) (k := k + 1) ?_ n (by omega)
            rw [pMany_snoc, HP2.out]
            simp only [hP3]
        · have HKK := Lib.hid (show k = n by omega)
          have HR2 := Lib.hid hr
          clear hP2 ho hr hb
          go_wp2_with fail
          go_ret
          refine .inl ⟨l, rest, _, ?_, rfl, ⟨by have := HKK.out; omega, _, _, _, HO.out⟩, HR2.out, HBR.out⟩
          unfold pList
          rw [HP.out, ← HKK.out]
          exact HP2.out
  · refine ⟨rfl, .inr ⟨c, ?_, rfl, hb⟩⟩
    unfold pList
    rw [hP]

theorem info_in : (Try.prog.info? 89).map (fun i => (i.zero, i.size, i.bytes)) = some (some (.agg (inCells 0 (.slice none 0 0) (.slice none 0 0)).toArray), 3, 56) := by kernel_rfl
theorem zsz_in : (Value.agg (inCells 0 (.slice none 0 0) (.slice none 0 0)).toArray).cells.size = 3 := by kernel_rfl

theorem inV_size {w : World} {lo hi : Nat} {cs : List Value} {x : LIn} (h : InV w lo hi cs x) : cs.length = 3 := by
  obtain ⟨_, _, _, rfl, _⟩ := h; rfl
theorem inV_one {w : World} {lo hi : Nat} {cs : List Value} {x : LIn} (h : InV w lo hi cs x) : ∀ u ∈ cs, u.oneCell' = true := by
  obtain ⟨va, vd, mid, rfl, _, _, h4, h5⟩ := h
  intro u hu
  simp only [inCells, List.mem_cons, List.not_mem_nil, or_false] at hu
  rcases hu with rfl | rfl | rfl
  · rfl
  · exact h4.own.one
  · exact h5.own.one


/-- what list leaves -/
def ListI (w : World) (p B : Nat) (zs : List Int) (e : Ending) (w' : World) : Prop :=
  Reads w p B (pList pIn zs) (fun w' v l => l.length ≤ 65535 ∧ ∃ css L R, LV InV 89 3 w' w.heap.size v l css L R) e w'

set_option maxRecDepth 100000 in
set_option maxHeartbeats 1000000 in
theorem list_in (p B : Nat) (zs : List Int) (w : World) (h : RdIn w p B zs) (hB : B ≤ p) (hz : AllBytes zs) :
    Calls Try.prog 76 #[.pointer (some ⟨p, 0, none⟩), .func (.func 77) #[.pointer (some ⟨p, 0, none⟩)] #[]] w (ListI w p B zs) := by
  have hp := h.lt
  have HS := Lib.hid (short_ p B zs w h hB hz)
  have HZ := Lib.hid hz
  have hmin := @run_least Try.prog
  obtain ⟨i0, hi, hz0, hz1, hz2⟩ := info_parts info_in
  clear h hz
  go_enter Try.func76, Try.ntmps76
  go_wp2_with fail
  refine HS.out.mono ?_
  rintro e w1 (⟨n, r, v, hP, rfl, ⟨rfl, hn⟩, hr, hb⟩ | ⟨c, hP, rfl, hb⟩)
  · have HP := Lib.hid hP
    have HR := Lib.hid hr
    have HB := Lib.hid hb
    have hz1' := hb.size
    have hrb : AllBytes r := (front_short _ _ _ hP).bytes HZ.out
    have HRB := Lib.hid hrb
    clear hP hr hb hrb HS
    by_cases h0 : n = 0
    · subst h0
      go_wp2_with fail
      go_ret
      refine .inl ⟨[], r, _, ?_, rfl, ⟨by simp, [], fun _ => 0, fun _ => 0, LV.none (World.ownsRow_nil _ _ _ _)⟩, HR.out, HB.out⟩
      unfold pList
      rw [HP.out]
      rfl
    · have h0' : ((n : Int) == 0) = false := by simp; omega
      obtain ⟨A, c, q1, q2, q3, q4⟩ := HR.out.is
      have c0 : w1.cell? ⟨p, 0, none⟩ = some (.slice A r.length c) := q1.cell 0
      have HN0 := Lib.hid h0
      clear q1 q2 h0
      unfold maxLen at q4
      go_wp2_with (first
        | (at_make; go_must (refine wpList_make_own _ rfl (.const (.int .i64 0)) (.tmp 17) 28 rfl w.heap.size 89 i0 _ 3 Try.underlying28 hi hz0 hz1 .i64 .i64 _ (min n r.length) rfl ?_ rfl (by rw [hz2]; omega) (by unfold maxLen; omega) hz1' ?_; go_simp; intro w2 hown hgrow)))
      have HO2 := Lib.hid (LV.none (EV := InV) (L := fun _ => 0) (R := fun _ => 0) hown)
      have hb2 : Below w1.heap.size w1 w2 := (Below.refl _ _).grown hgrow (Nat.le_refl _) (fun k hk => by cases hk)
      have HR2 := Lib.hid (HR.out.below hb2 hB)
      have HB2 := Lib.hid (HB.out.trans (But.of_below hb2 p))
      clear hown hgrow hb2 c0 hi hz0 hz1 hz2
      go_loopw [6, 20] (fun v i wr => ∃ (k : Nat) (l : List LIn) (rest : List Int) (css : List (List Value)) (L R : Nat → Nat), k ≤ n ∧ i = .int .i64 k ∧ pMany pIn k r = .ok (l, rest) ∧ LV InV 89 3 wr w.heap.size v l css L R ∧ RdIn wr p B rest ∧ But p w wr) (fun v i _ => n - (intOf i).toNat)
      case atStart => exact ⟨0, [], r, [], _, _, Nat.zero_le _, rfl, rfl, HO2.out, HR2.out, HB2.out⟩
      case round =>
        clear HO2 HR2 HB2
        obtain ⟨k, l, rest, css, L, R, hk, rfl, hP2, ho, hr, hb⟩ := hrel
        have HP2 := Lib.hid hP2
        have HO := Lib.hid ho
        have HBR := Lib.hid hb
        have hlk := pMany_len _ _ _ _ _ hP2
        by_cases hlt : k < n
        · have HC := Lib.hid (instr_ p B rest wr hr hB ((front_many front_in _ _ _ _ hP2).bytes HRB.out))
          have hzs := hb.size
          clear hP2 ho hr hb
          go_wp2_with fail
          refine HC.out.mono ?_
          rintro e w3 (⟨x, rest', v, hP3, rfl, ⟨cs, rfl, hev⟩, hr3, hb3⟩ | ⟨c, hP3, rfl, hb3⟩)
          · have hz3 := hb3.size
            have hcs := inV_size hev
            have hc1 := inV_one hev
            have ho3 := HO.out.but stays_in hb3 hp
            have how := ho3.own
            have HP3 := Lib.hid hP3
            have HR3 := Lib.hid hr3
            have HB3' := Lib.hid hb3
            have HB3 := Lib.hid (HBR.out.trans hb3)
            have HEV := Lib.hid hev
            have HC1 := Lib.hid hc1
            have HOW := Lib.hid how
            clear hP3 hr3 hb3 hev hc1 how ho3
            go_wp2_with (first
              | (with_reducible show wpList _ _ _ ({ dst := some 25, op := Op.buildSlice _ _ _, type := _, pos := _, after := _, guard := _ } :: _) _ _; go_must (refine wpList_buildOne rfl 28 89 (.tmp 24) rfl cs _ 3 56 Try.underlying28 info_in zsz_in (by omega) (by omega) hcs ?_ ?_; go_simp))
              | (at_builtin; go_must (refine wpList_addRow rfl (.tmp 22) (.tmp 25) 28 rfl w.heap.size 89 _ 3 56 Try.underlying28 info_in zsz_in (by omega) _ l.length css.flatten cs 1 hcs HC1.out rfl ?_ HOW.out ?_ (by omega) (by unfold maxLen; omega) (by omega) ?_; go_simp; go_simp; intro v4 w4 ho4 hg4; have HO4 := Lib.hid (HO.out.snoc stays_in HB3'.out hp hzs HEV.out hg4 ho4); have HR4 := Lib.hid (HR3.out.grewV hg4 HOW.out hp hB (by omega)); have HB4 := Lib.hid (But.grewV hg4 HOW.out w HB3.out (Nat.le_refl _)); clear ho4 hg4)))
            go_roundw
            case rel =>
              refine ⟨k + 1, l ++ [x], rest', _, _, _, by omega, by go_num, ?_, HO4.out, HR4.out, HB4.out⟩
              rw [pMany_snoc, HP2.out]
              simp only [HP3.out]
            case measure => simp [intOf]; omega
          · refine ⟨rfl, .inr ⟨c, ?_, rfl, HBR.out.trans hb3⟩⟩
            unfold pList
            rw [HP.out]
            refine pMany_fail pIn (k := k + 1) ?_ n (by omega)
            rw [pMany_snoc, HP2.out]
            simp only [hP3]
        · have HKK := Lib.hid (show k = n by omega)
          have HR2 := Lib.hid hr
          clear hP2 ho hr hb
          go_wp2_with fail
          go_ret
          refine .inl ⟨l, rest, _, ?_, rfl, ⟨by have := HKK.out; omega, _, _, _, HO.out⟩, HR2.out, HBR.out⟩
          unfold pList
          rw [HP.out, ← HKK.out]
          exact HP2.out
  · refine ⟨rfl, .inr ⟨c, ?_, rfl, hb⟩⟩
    unfold pList
    rw [hP]

theorem info_look : (Try.prog.info? 93).map (fun i => (i.zero, i.size, i.bytes)) = some (some (.agg lookZ.toArray), 34, 80) := by kernel_rfl
theorem zsz_look : (Value.agg lookZ.toArray).cells.size = 34 := by kernel_rfl

theorem lookV_size {w : World} {lo hi : Nat} {cs : List Value} {x : LLook} (h : LookV w lo hi cs x) : cs.length = 34 := by
  obtain ⟨_, _, _, rfl, h2, _⟩ := h; simp [bv_length, h2]
theorem lookV_one {w : World} {lo hi : Nat} {cs : List Value} {x : LLook} (h : LookV w lo hi cs x) : ∀ u ∈ cs, u.oneCell' = true := by
  obtain ⟨va, vd, mid, rfl, _, _, _, h4, h5⟩ := h
  intro u hu
  simp only [List.mem_append, List.mem_cons, List.not_mem_nil, or_false] at hu
  rcases hu with hu | rfl | rfl
  · exact bv_one _ _ hu
  · exact h4.own.one
  · exact h5.own.one


/-- what list leaves -/
def ListL (w : World) (p B : Nat) (zs : List Int) (e : Ending) (w' : World) : Prop :=
  Reads w p B (pList pLook zs) (fun w' v l => l.length ≤ 65535 ∧ ∃ css L R, LV LookV 93 34 w' w.heap.size v l css L R) e w'

set_option maxRecDepth 100000 in
set_option maxHeartbeats 1000000 in
theorem list_look (p B : Nat) (zs : List Int) (w : World) (h : RdIn w p B zs) (hB : B ≤ p) (hz : AllBytes zs) :
    Calls Try.prog 78 #[.pointer (some ⟨p, 0, none⟩), .func (.func 79) #[.pointer (some ⟨p, 0, none⟩)] #[]] w (ListL w p B zs) := by
  have hp := h.lt
  have HS := Lib.hid (short_ p B zs w h hB hz)
  have HZ := Lib.hid hz
  have hmin := @run_least Try.prog
  obtain ⟨i0, hi, hz0, hz1, hz2⟩ := info_parts info_look
  clear h hz
  go_enter Try.func78, Try.ntmps78
  go_wp2_with fail
  refine HS.out.mono ?_
  rintro e w1 (⟨n, r, v, hP, rfl, ⟨rfl, hn⟩, hr, hb⟩ | ⟨c, hP, rfl, hb⟩)
  · have HP := Lib.hid hP
    have HR := Lib.hid hr
    have HB := Lib.hid hb
    have hz1' := hb.size
    have hrb : AllBytes r := (front_short _ _ _ hP).bytes HZ.out
    have HRB := Lib.hid hrb
    clear hP hr hb hrb HS
    by_cases h0 : n = 0
    · subst h0
      go_wp2_with fail
      go_ret
      refine .inl ⟨[], r, _, ?_, rfl, ⟨by simp, [], fun _ => 0, fun _ => 0, LV.none (World.ownsRow_nil _ _ _ _)⟩, HR.out, HB.out⟩
      unfold pList
      rw [HP.out]
      rfl
    · have h0' : ((n : Int) == 0) = false := by simp; omega
      obtain ⟨A, c, q1, q2, q3, q4⟩ := HR.out.is
      have c0 : w1.cell? ⟨p, 0, none⟩ = some (.slice A r.length c) := q1.cell 0
      have HN0 := Lib.hid h0
      clear q1 q2 h0
      unfold maxLen at q4
      go_wp2_with (first
        | (at_make; go_must (refine wpList_make_own _ rfl (.const (.int .i64 0)) (.tmp 17) 29 rfl w.heap.size 93 i0 _ 34 Try.underlying29 hi hz0 hz1 .i64 .i64 _ (min n r.length) rfl ?_ rfl (by rw [hz2]; omega) (by unfold maxLen; omega) hz1' ?_; go_simp; intro w2 hown hgrow)))
      have HO2 := Lib.hid (LV.none (EV := LookV) (L := fun _ => 0) (R := fun _ => 0) hown)
      have hb2 : Below w1.heap.size w1 w2 := (Below.refl _ _).grown hgrow (Nat.le_refl _) (fun k hk => by cases hk)
      have HR2 := Lib.hid (HR.out.below hb2 hB)
      have HB2 := Lib.hid (HB.out.trans (But.of_below hb2 p))
      clear hown hgrow hb2 c0 hi hz0 hz1 hz2
      go_loopw [6, 20] (fun v i wr => ∃ (k : Nat) (l : List LLook) (rest : List Int) (css : List (List Value)) (L R : Nat → Nat), k ≤ n ∧ i = .int .i64 k ∧ pMany pLook k r = .ok (l, rest) ∧ LV LookV 93 34 wr w.heap.size v l css L R ∧ RdIn wr p B rest ∧ But p w wr) (fun v i _ => n - (intOf i).toNat)
      case atStart => exact ⟨0, [], r, [], _, _, Nat.zero_le _, rfl, rfl, HO2.out, HR2.out, HB2.out⟩
      case round =>
        clear HO2 HR2 HB2
        obtain ⟨k, l, rest, css, L, R, hk, rfl, hP2, ho, hr, hb⟩ := hrel
        have HP2 := Lib.hid hP2
        have HO := Lib.hid ho
        have HBR := Lib.hid hb
        have hlk := pMany_len _ _ _ _ _ hP2
        by_cases hlt : k < n
        · have HC := Lib.hid (look_ p B rest wr hr hB ((front_many front_look _ _ _ _ hP2).bytes HRB.out))
          have hzs := hb.size
          clear hP2 ho hr hb
          go_wp2_with fail
          refine HC.out.mono ?_
          rintro e w3 (⟨x, rest', v, hP3, rfl, ⟨cs, rfl, hev⟩, hr3, hb3⟩ | ⟨c, hP3, rfl, hb3⟩)
          · have hz3 := hb3.size
            have hcs := lookV_size hev
            have hc1 := lookV_one hev
            have ho3 := HO.out.but stays_look hb3 hp
            have how := ho3.own
            have HP3 := Lib.hid hP3
            have HR3 := Lib.hid hr3
            have HB3' := Lib.hid hb3
            have HB3 := Lib.hid (HBR.out.trans hb3)
            have HEV := Lib.hid hev
            have HC1 := Lib.hid hc1
            have HOW := Lib.hid how
            clear hP3 hr3 hb3 hev hc1 how ho3
            go_wp2_with (first
              | (with_reducible show wpList _ _ _ ({ dst := some 25, op := Op.buildSlice _ _ _, type := _, pos := _, after := _, guard := _ } :: _) _ _; go_must (refine wpList_buildOne rfl 29 93 (.tmp 24) rfl cs _ 34 80 Try.underlying29 info_look zsz_look (by omega) (by omega) hcs ?_ ?_; go_simp))
              | (at_builtin; go_must (refine wpList_addRow rfl (.tmp 22) (.tmp 25) 29 rfl w.heap.size 93 _ 34 80 Try.underlying29 info_look zsz_look (by omega) _ l.length css.flatten cs 1 hcs HC1.out rfl ?_ HOW.out ?_ (by omega) (by unfold maxLen; omega) (by omega) ?_; go_simp; go_simp; intro v4 w4 ho4 hg4; have HO4 := Lib.hid (HO.out.snoc stays_look HB3'.out hp hzs HEV.out hg4 ho4); have HR4 := Lib.hid (HR3.out.grewV hg4 HOW.out hp hB (by omega)); have HB4 := Lib.hid (But.grewV hg4 HOW.out w HB3.out (Nat.le_refl _)); clear ho4 hg4)))
            go_roundw
            case rel =>
              refine ⟨k + 1, l ++ [x], rest', _, _, _, by omega, by go_num, ?_, HO4.out, HR4.out, HB4.out⟩
              rw [pMany_snoc, HP2.out]
              simp only [HP3.out]
            case measure => simp [intOf]; omega
          · refine ⟨rfl, .inr ⟨c, ?_, rfl, HBR.out.trans hb3⟩⟩
            unfold pList
            rw [HP.out]
            refine pMany_fail pLook (k := k + 1) ?_ n (by omega)
            rw [pMany_snoc, HP2.out]
            simp only [hP3]
        · have HKK := Lib.hid (show k = n by omega)
          have HR2 := Lib.hid hr
          clear hP2 ho hr hb
          go_wp2_with fail
          go_ret
          refine .inl ⟨l, rest, _, ?_, rfl, ⟨by have := HKK.out; omega, _, _, _, HO.out⟩, HR2.out, HBR.out⟩
          unfold pList
          rw [HP.out, ← HKK.out]
          exact HP2.out
  · refine ⟨rfl, .inr ⟨c, ?_, rfl, hb⟩⟩
    unfold pList
    rw [hP]
end Go.Proofs.Ytolijdbdpnbchaa
