/-
  MessagesKinds: the walk.
-/
import Derived.Test.YtidggfbjmmjmfaaSizes
import Derived.Test.YtidggfbjmmjmfaaLives3
import Derived.Test.YtidggfbjmmjmfaaSameZero
namespace Go.Proofs.Ytidggfbjmmjmfaa
open Go.RowKit
set_option linter.unusedVariables false

theorem cells_m (q : Raw) (m : LMsg) : q.cells m = mcells m.v0 m.s m.r m.o (.slice q.KA q.kn q.kc) m.recent (.slice q.IA q.n q.ic) (.slice q.LA q.ln q.lc) := rfl

/-- as of another kind, with other signers -/
def LMsg.as (m : LMsg) (v0 : Bool) (s : Int) : LMsg := { m with v0 := v0, s := s }
/-- without lookups -/
def LMsg.bare (m : LMsg) (v0 : Bool) (s : Int) : LMsg := { m with v0 := v0, s := s, looks := [] }
def Raw.bare (q : Raw) : Raw := { q with LA := none, ln := 0, lc := 0 }
theorem MsgIn.as {w : World} {B : Nat} {q : Raw} {m : LMsg} (h : MsgIn w B q m) (v0 : Bool) (s : Int) : MsgIn w B q (m.as v0 s) := ⟨h.recent, h.keys, h.ins, h.looks, h.kn, h.n, h.ln⟩
theorem MsgIn.bare {w : World} {B : Nat} {q : Raw} {m : LMsg} (h : MsgIn w B q m) (v0 : Bool) (s : Int) : MsgIn w B q.bare (m.bare v0 s) := ⟨h.recent, h.keys, h.ins, ⟨rfl, fun i x hx => by simp [LMsg.bare] at hx⟩, h.kn, h.n, by simp [Raw.bare, maxLen]⟩
theorem total_bare (m : LMsg) (v0 : Bool) (s : Int) : total (m.bare v0 s) ≤ total m := by
  unfold total LMsg.bare
  simp [lookSize]
  omega
theorem enc_bare (m : LMsg) (s : Int) : enc (m.bare true s) = [128] ++ enc (m.bare false s) ++ [0] := by
  have e : short 0 = [0] := rfl
  simp only [enc, encHead, encTail, LMsg.bare, if_true, Bool.false_eq_true, if_false, List.length_nil, List.flatMap_nil, List.append_nil, List.nil_append, List.append_assoc]
  rw [show ((0 : Nat) : Int) = 0 from rfl, e]

set_option maxRecDepth 100000 in
set_option maxHeartbeats 2000000 in
theorem kinds_walk (q : Raw) (m : LMsg) (B : Nat) (w : World) (hm : MsgIn w B q m) (hB : B ≤ w.heap.size) (hs : Sized m) (h0 : IsByte m.s) :
    Calls Try.prog 7 #[.agg (q.cells m).toArray] w fun e w' => e = .returned (.bool true) ∧ Below w.heap.size w w' := by
  obtain ⟨KA, kn, kc, IA, n, ic, LA, ln, lc⟩ := q
  have hrow := Row.new w 30 (Raw.cells ⟨KA, kn, kc, IA, n, ic, LA, ln, lc⟩ m)
  have hb0 := (Below.refl w.heap.size w).alloc (Nat.le_refl _) (.cells (Raw.cells ⟨KA, kn, kc, IA, n, ic, LA, ln, lc⟩ m).toArray 30)
  have hm0 := hm.below (hb0.mono hB)
  have HG := Lib.hid (great_ _ m B _ hm0 (Nat.le_trans hB hb0.size) hs)
  have hll := hm.looks.len
  dsimp only at hll
  have hnk := hm.ln
  dsimp only at hnk
  unfold maxLen at hnk
  obtain ⟨m, rfl⟩ : ∃ m', m' = m := ⟨_, rfl⟩
  have HSM := Lib.hid (show (Try.prog.info? 30).map (·.size) = some (Raw.cells ⟨KA, kn, kc, IA, n, ic, LA, ln, lc⟩ m).length by rw [size_msg, cells_len hm.recent])
  have HROW := Lib.hid hrow
  have HM0 := Lib.hid hm0
  have HB0 := Lib.hid hb0
  have HBY := Lib.hid h0
  clear hrow hb0 hm0 hm hs h0
  go_enter Try.func7, Try.ntmps7
  go_wp2_with ((with_reducible show wpList _ _ _ ({ dst := some 11, op := Op.load _ _, type := _, pos := _, after := _, guard := _ } :: _) _ _); go_must (refine wpList_load_whole rfl 30 (.tmp 1) rfl w.heap.size 30 (Raw.cells ⟨KA, kn, kc, IA, n, ic, LA, ln, lc⟩ m) _ Try.underlying30 rfl HSM.out HROW.out ?_ ?_; go_simp))
  refine HG.out.mono ?_
  rintro e w1 ⟨⟨b, rfl, hb⟩, hb1⟩
  cases b
  rotate_left
  · have hbw := HB0.out.trans (hb1.mono HB0.out.size)
    have HBW := Lib.hid hbw
    clear hbw hb1 hb
    go_wp2_with fail
    refine (lives3 _).mono ?_
    rintro e w2 ⟨rfl, hb2⟩
    go_wp2_with fail
    go_ret
    exact ⟨rfl, HBW.out.trans (hb2.mono HBW.out.size)⟩
  have HT := Lib.hid (hb rfl)
  clear hb
  have hr1 := HROW.out.below hb1 HROW.out.lt
  have HR1 := Lib.hid hr1
  have HB1 := Lib.hid (HB0.out.trans (hb1.mono HB0.out.size))
  have HM1 := Lib.hid (HM0.out.below (hb1.mono (Nat.le_trans hB HB0.out.size)))
  have hlt1 := hr1.lt
  have hB1 := Nat.le_trans hB (HB0.out.trans (hb1.mono HB0.out.size)).size
  clear hr1 hb1 HG
  have hpf : (Fits (m.as false m.s) ∧ decide (0 < (ln : Int)) = false ∧ decide (128 ≤ m.s) = false) ∨ (¬ Fits (m.as false m.s) ∧ (decide (0 < (ln : Int)) = true ∨ (decide (0 < (ln : Int)) = false ∧ decide (128 ≤ m.s) = true))) := by
    have hfo := fits_of (m := m.as false m.s) (show total (m.as false m.s) < 3000 from HT.out)
    have hb := HBY.out
    unfold IsByte at hb
    rw [hfo]
    simp only [LMsg.as, Bool.false_eq_true, false_or]
    by_cases h1 : m.looks = []
    · have h0 : ln = 0 := by rw [← hll, h1]; rfl
      by_cases h2 : m.s < 128
      · exact .inl ⟨⟨h1, h2⟩, by simp [h0], by simp; omega⟩
      · exact .inr ⟨fun h => h2 h.2, .inr ⟨by simp [h0], by simp; omega⟩⟩
    · have h0 : 0 < ln := by
        rw [← hll]
        exact List.length_pos_iff.2 h1
      exact .inr ⟨fun h => h1 h.1, .inl (by simp; omega)⟩
  have HPF := Lib.hid hpf
  have HCO := Lib.hid (cells_one (q := ⟨KA, kn, kc, IA, n, ic, LA, ln, lc⟩) (m := m))
  have HL39 := Lib.hid (show (Raw.cells ⟨KA, kn, kc, IA, n, ic, LA, ln, lc⟩ m).length = 39 by rw [← Option.some_inj, ← HSM.out, size_msg])
  have H32 := Lib.hid HM1.out.recent
  clear hpf
  go_wp2_with (first
    | ((with_reducible show wpList _ _ _ ({ dst := some 14, op := Op.load _ _, type := _, pos := _, after := _, guard := _ } :: _) _ _); go_must (refine wpList_load_whole rfl 30 (.tmp 1) rfl w.heap.size 30 (Raw.cells ⟨KA, kn, kc, IA, n, ic, LA, ln, lc⟩ m) _ Try.underlying30 rfl HSM.out HR1.out ?_ ?_; go_simp))
    | ((with_reducible show wpList _ _ _ ({ dst := none, op := Op.store 30 (.tmp 3) _, type := _, pos := _, after := _, guard := _ } :: _) _ _); go_must (refine wpList_store_new rfl 30 (.tmp 3) (.tmp 14) rfl (Raw.cells ⟨KA, kn, kc, IA, n, ic, LA, ln, lc⟩ m) HSM.out HCO.out (by rw [HL39.out]; rfl) ?_ ?_ ?_; go_simp; go_simp; intro w2 hr2 hb2 hz2; have c0 : w2.cell? ⟨w1.heap.size, 0, none⟩ = some (.bool m.v0) := hr2.cell 0; have f0 := hr2.frozen 0; have HR2 := Lib.hid hr2; have HB2 := Lib.hid hb2; clear hr2 hb2))
    | ((with_reducible show wpList _ _ _ ({ dst := some 17, op := Op.load _ _, type := _, pos := _, after := _, guard := _ } :: _) _ _); go_must (refine wpList_load_whole rfl 30 (.tmp 3) rfl w1.heap.size 30 (Raw.cells ⟨KA, kn, kc, IA, n, ic, LA, ln, lc⟩ (m.as false m.s)) _ Try.underlying30 rfl (by rw [size_msg]; exact congrArg some HL39.out.symm) (mset0 HR2.out false) ?_ ?_; go_simp)))
  have hr3 := mset0 HR2.out false
  have ht3 := turned_setCell w2 ⟨w1.heap.size, 0, none⟩ (.bool false)
  have hr13 := ht3.row (HR1.out.below HB2.out hlt1) (show w.heap.size ≠ w1.heap.size by omega)
  have hb3 := HB1.out.trans ((HB2.out.trans (ht3.below (Nat.le_refl _))).mono HB1.out.size)
  have hm3 := (HM1.out.below ((HB2.out.trans (ht3.below (Nat.le_refl _))).mono hB1)).as false m.s
  have hz3 := ht3.size
  clear ht3 c0 f0
  generalize (w2.setCell ⟨w1.heap.size, 0, none⟩ (.bool false)) = w3 at *
  have hput : Calls Try.prog 11 #[.agg (Raw.cells ⟨KA, kn, kc, IA, n, ic, LA, ln, lc⟩ (m.as false m.s)).toArray] w3 (fun e w' => ∃ v x, e = .returned (.tuple #[v, .int .i64 x]) ∧
      ((x = 0 ∧ decide (0 < (ln : Int)) = false ∧ decide (128 ≤ m.s) = false) ∨ (x = 1 ∧ decide (0 < (ln : Int)) = false ∧ decide (128 ≤ m.s) = true) ∨ (x = 1 ∧ decide (0 < (ln : Int)) = true)) ∧ Below w3.heap.size w3 w') := by
    rcases HPF.out with ⟨h1, h2, h3⟩ | ⟨h1, h2⟩
    · refine (put_ok _ (m.as false m.s) B w3 hm3 (by omega) h1 (by have := enc_le hm3 HT.out; omega)).mono ?_
      rintro e w' ⟨g, rest, rfl, _, _, hb⟩
      exact ⟨_, _, rfl, .inl ⟨rfl, h2, h3⟩, hb⟩
    · refine (put_no _ (m.as false m.s) B w3 hm3 (by omega) h1).mono ?_
      rintro e w' ⟨rfl, hb⟩
      rcases h2 with h2 | ⟨h2, h3⟩
      · exact ⟨_, _, rfl, .inr (.inr ⟨rfl, h2⟩), hb⟩
      · exact ⟨_, _, rfl, .inr (.inl ⟨rfl, h2, h3⟩), hb⟩
  refine hput.mono ?_
  rintro e w4 ⟨v, x, rfl, hx, hb4⟩
  have hr4 := hr3.below hb4 (by omega)
  have hr14 := hr13.below hb4 (by omega)
  have hm4 := hm3.below (hb4.mono (by omega))
  have hb04 := hb3.trans (hb4.mono hb3.size)
  have e38 : w4.cell? ⟨w.heap.size, 38, none⟩ = some (.slice LA ln lc) := (hr14.cell 38).trans (cells_38 H32.out)
  have e1 : w4.cell? ⟨w.heap.size, 1, none⟩ = some (.int .u8 m.s) := (hr14.cell 1).trans rfl
  have d38 : w4.cell? ⟨w1.heap.size, 38, none⟩ = some (.slice LA ln lc) := mc38 hr4 H32.out
  have d1 : w4.cell? ⟨w1.heap.size, 1, none⟩ = some (.int .u8 m.s) := hr4.cell 1
  have f38 := hr4.frozen 38
  have f1 := hr4.frozen 1
  have hz4 := hb4.size
  obtain ⟨S, hS⟩ : ∃ S, S = m.s % 128 := ⟨_, rfl⟩
  have hs0 : 0 ≤ m.s ∧ m.s < 256 := HBY.out
  have HSB := Lib.hid (show 0 ≤ S ∧ S < 128 by omega)
  obtain ⟨qb, hqb⟩ : ∃ qb : Raw, qb = ⟨KA, kn, kc, IA, n, ic, none, 0, 0⟩ := ⟨_, rfl⟩
  have hr5 : Row ((w4.setCell ⟨w1.heap.size, 38, none⟩ (.slice none 0 0)).setCell ⟨w1.heap.size, 1, none⟩ (.int .u8 (m.s % 128))) w1.heap.size 30 (qb.cells (m.bare false S)) := by
    rw [hqb, hS]
    exact mset1 (mset38 hr4 H32.out (.slice none 0 0)) (m.s % 128)
  have ht5 := turned_setCell w4 ⟨w1.heap.size, 38, none⟩ (.slice none 0 0)
  have ht6 := turned_setCell (w4.setCell ⟨w1.heap.size, 38, none⟩ (.slice none 0 0)) ⟨w1.heap.size, 1, none⟩ (.int .u8 (m.s % 128))
  have hb45 := (ht5.below (Nat.le_refl _)).trans (ht6.below (Nat.le_refl _))
  have HB5 := Lib.hid (hb04.trans (hb45.mono (Nat.le_of_lt hlt1)))
  have hm5 : MsgIn ((w4.setCell ⟨w1.heap.size, 38, none⟩ (.slice none 0 0)).setCell ⟨w1.heap.size, 1, none⟩ (.int .u8 (m.s % 128))) B qb (m.bare false S) := by
    rw [hqb]
    exact (hm4.below (hb45.mono hB1)).bare false S
  have HM5 := Lib.hid hm5
  have HR5 := Lib.hid hr5
  have HZ5 := Lib.hid (ht6.size.trans ht5.size)
  have HQL := Lib.hid (show (qb.cells (m.bare false S)).length = 39 from mlen H32.out)
  have HT5 := Lib.hid (Nat.lt_of_le_of_lt (total_bare m false S) HT.out)
  have HT5' := Lib.hid (Nat.lt_of_le_of_lt (total_bare m true S) HT.out)
  have HL1 := Lib.hid (show w1.heap.size < w4.heap.size by omega)
  clear hput hr3 hr13 hb3 hm3 hr4 hr14 hm4 hb04 hb4 HR2 HB2 HM1 HB1 HR1 HPF HCO HL39 HM0 HB0 hr5 hm5 ht5 ht6 hb45 hqb hz2 hz3 hz4
  clear hS
  rcases hx with ⟨rfl, h1, h2⟩ | ⟨rfl, h1, h2⟩ | ⟨rfl, h1⟩
  · obtain rfl : ln = 0 := by simpa using h1
    clear h1

    go_wp2_with (first
      | ((with_reducible show wpList _ _ _ ({ dst := some 41, op := Op.load _ _, type := _, pos := _, after := _, guard := _ } :: _) _ _); go_must (refine wpList_load_whole rfl 30 (.tmp 3) rfl w1.heap.size 30 (Raw.cells qb (m.bare false S)) _ Try.underlying30 rfl (by rw [size_msg]; exact congrArg some (mlen H32.out).symm) HR5.out ?_ ?_; go_simp; generalize hW5 : ((w4.setCell ⟨w1.heap.size, 38, none⟩ (.slice none 0 0)).setCell ⟨w1.heap.size, 1, none⟩ (.int .u8 (m.s % 128))) = w5 at *; clear hW5 d38 d1 f38 f1 e38 e1))
      | ((with_reducible show wpList _ _ _ ({ dst := none, op := Op.store 30 (.tmp 6) _, type := _, pos := _, after := _, guard := _ } :: _) _ _); go_must (refine wpList_store_new rfl 30 (.tmp 6) (.tmp 41) rfl (Raw.cells qb (m.bare false S)) (by rw [size_msg]; exact congrArg some (mlen H32.out).symm) cells_one (by rw [HQL.out]; rfl) ?_ ?_ ?_; go_simp; go_simp; intro w6 hr6 hb6 hz6; have c0 : w6.cell? ⟨w5.heap.size, 0, none⟩ = some (.bool false) := hr6.cell 0; have f0 := hr6.frozen 0; have HR6 := Lib.hid hr6; have HB6 := Lib.hid hb6; clear hr6 hb6))
      | ((with_reducible show wpList _ _ _ ({ dst := some 44, op := Op.load _ _, type := _, pos := _, after := _, guard := _ } :: _) _ _); go_must (refine wpList_load_whole rfl 30 (.tmp 3) rfl w1.heap.size 30 (Raw.cells qb (m.bare false S)) _ Try.underlying30 rfl (by rw [size_msg]; exact congrArg some (mlen H32.out).symm) ((turned_setCell w6 ⟨w5.heap.size, 0, none⟩ (.bool true)).row (HR5.out.below HB6.out (by rw [HZ5.out]; exact HL1.out)) (show w1.heap.size ≠ w5.heap.size by rw [HZ5.out]; have := HL1.out; omega)) ?_ ?_; go_simp)))
    have ht7 := turned_setCell w6 ⟨w5.heap.size, 0, none⟩ (.bool true)
    have hb7 := HB6.out.trans (ht7.below (Nat.le_refl _))
    have hr7 : Row _ w5.heap.size 30 (qb.cells (m.bare true S)) := mset0 HR6.out true
    have hl1 := HL1.out
    have hz5 := HZ5.out
    have hm7 := HM5.out.below (hb7.mono (by omega))
    have hb07 := HB5.out.trans (hb7.mono (by omega))
    have hz7 := hb7.size
    clear ht7 hb7 c0 f0
    generalize (w6.setCell ⟨w5.heap.size, 0, none⟩ (.bool true)) = w7 at *
    refine (put_ok qb (m.bare false S) B w7 hm7 (by omega) ((fits_of HT5.out).2 (.inr ⟨rfl, HSB.out.2⟩)) (by have := enc_le hm7 HT5.out; omega)).mono ?_
    rintro e w8 ⟨g8, rest8, rfl, hg8, hr8, hb8⟩
    have hr78 := hr7.below hb8 hr7.lt
    have hm8 : MsgIn w8 B qb (m.bare true S) := (hm7.below (hb8.mono (by omega))).as true S
    have hb08 := hb07.trans (hb8.mono hb07.size)
    have hz8 := hb8.size
    have HR7 := Lib.hid hr78
    have HR8 := Lib.hid hr8
    have HB8 := Lib.hid hb08
    have HE := Lib.hid (enc_le hm7 HT5.out)
    clear hr78 hr8 hb08 hb8 hb07 hm7 hr7 HB6 HR6 HR5 HM5 HB5
    go_wp2_with ((with_reducible show wpList _ _ _ ({ dst := some 49, op := Op.load _ _, type := _, pos := _, after := _, guard := _ } :: _) _ _); go_must (refine wpList_load_whole rfl 30 (.tmp 6) rfl w5.heap.size 30 (Raw.cells qb (m.bare true S)) _ Try.underlying30 rfl (by rw [size_msg]; exact congrArg some (mlen H32.out).symm) HR7.out ?_ ?_; go_simp))
    refine (put_ok qb (m.bare true S) B w8 hm8 (by omega) ((fits_of HT5'.out).2 (.inl rfl)) (by have := enc_le hm8 HT5'.out; omega)).mono ?_
    rintro e w10 ⟨g10, rest10, rfl, hg10, hr10, hb10⟩
    rw [enc_bare] at hr10 ⊢
    generalize enc (m.bare false S) = E at *
    have hzz : w.heap.size ≤ w10.heap.size := (HB8.out.trans (hb10.mono HB8.out.size)).size
    have hr8 := HR8.out.below hb10 HR8.out.lt
    have hl8 := hr8.lt
    have HB10 := Lib.hid (HB8.out.trans (hb10.mono HB8.out.size))
    have HR10 := Lib.hid hr10
    have s8 : Sees w10 w10.heap.size (some ⟨g8, 0, none⟩) E.length (bv E) := hr8.sees_at (o := 0) (bv_length _) (fun j u hu => by rw [Nat.zero_add, List.getElem?_append_left (List.getElem?_eq_some_iff.1 hu).1]; exact hu)
    have hl1' := Row.new w10 5 (bv [128])
    have ho1 : OwnB (w10.alloc (.cells (bv [128]).toArray 5)) w10.heap.size (.slice (some ⟨w10.heap.size, 0, none⟩) 1 1) [128] := hl1'.own_all (Nat.le_refl _) (by simp [bv_length, maxLen])
    have HOL := Lib.hid ho1
    have hba := (Below.refl w10.heap.size w10).alloc (Nat.le_refl _) (.cells (bv [128]).toArray 5)
    have HSW := Lib.hid (s8.below hba)
    have HBA := Lib.hid hba
    have hlE := HE.out
    have hl2 : ([128] ++ E).length ≤ 1000001 := by simp; omega
    have hl3 : ([128] ++ E ++ [0]).length ≤ 1000002 := by simp; omega
    have HL2 := Lib.hid hl2
    have HL3 := Lib.hid hl3
    clear hl1' ho1 hba s8 hr8 hr10 hb10 HE hl2 hl3 HR8 HB8 hm8
    go_wp2_with (first
      | ((with_reducible show wpList _ _ _ ({ dst := some 63, op := _, type := _, pos := _, after := _, guard := _ } :: _) _ _); go_must (refine wpList_addBg (w := w10.alloc (.cells (bv [128]).toArray 5)) (by kernel_rfl) (.tmp 61) (.tmp 62) 34 rfl w10.heap.size Try.underlying34 info_u8 _ [128] ?_ HOL.out _ _ _ E.length E ?_ HSW.out HBA.out.size (by have := HL2.out; omega) ?_; go_simp; go_simp; intro v14 w14 ho14 hg14; have hb14 := HBA.out.trans (hg14.belowB HOL.out HBA.out.size); have HO14 := Lib.hid ho14; have HB14 := Lib.hid hb14; clear ho14 hg14 hb14))
      | ((with_reducible show wpList _ _ _ ({ dst := some 65, op := _, type := _, pos := _, after := _, guard := _ } :: _) _ _); go_must (refine wpList_addLitg (by kernel_rfl) (.tmp 63) (.tmp 64) 34 rfl w10.heap.size Try.underlying34 info_u8 _ ([128] ++ E) [0] 1 rfl ?_ HO14.out ?_ HB14.out.size (by have := HL3.out; omega) ?_; go_simp; go_simp; intro v15 w15 ho15 hg15; have hb15 := HB14.out.trans (hg15.belowB HO14.out HB14.out.size); obtain ⟨A15, c15, rfl⟩ := ho15.form; have HO15 := Lib.hid ho15; have HB15 := Lib.hid hb15; clear ho15 hg15 hb15)))
    have hr15 := HR10.out.below HB15.out HR10.out.lt
    have hs10 : Sees w15 w15.heap.size (some ⟨g10, 0, none⟩) ([128] ++ E ++ [0]).length (bv ([128] ++ E ++ [0])) := hr15.sees_at (o := 0) (bv_length _) (fun j u hu => by rw [Nat.zero_add, List.getElem?_append_left (List.getElem?_eq_some_iff.1 hu).1]; exact hu)
    have hL : ([128] ++ E ++ [0]).length = E.length + 1 + 1 := by simp
    rw [hL] at hs10
    have hs15 : Sees w15 w15.heap.size A15 (E.length + 1 + 1) (bv ([128] ++ E ++ [0])) := by
      have := HO15.out.sees
      first
        | exact this
        | (rw [hL] at this; exact this)
    have hl3 := HL3.out
    rw [hL] at hl3
    have HL4 := Lib.hid hl3
    clear hl3 hL HL3
    refine (same_yes3 (some ⟨g10, 0, none⟩) A15 (E.length + 1 + 1) (E.length + 1 + 1) (E.length + 1 + 1) c15 ([128] ++ E ++ [0]) w15 _ _ hs10 hs15 (by have := HL4.out; unfold maxLen; omega) (by have := HL4.out; unfold maxLen; omega)).mono ?_
    rintro e w16 ⟨rfl, k16, rfl⟩
    go_wp2_with fail
    have hb16 := below_drewN (HB10.out.trans (HB15.out.mono HB10.out.size)) k16
    refine (lives3 _).mono ?_
    rintro e w17 ⟨rfl, hb17⟩
    go_wp2_with fail
    go_ret
    exact ⟨rfl, hb16.trans (hb17.mono hb16.size)⟩
  · obtain rfl : ln = 0 := by simpa using h1
    clear h1

    go_wp2_with (first
      | ((with_reducible show wpList _ _ _ ({ dst := some 41, op := Op.load _ _, type := _, pos := _, after := _, guard := _ } :: _) _ _); go_must (refine wpList_load_whole rfl 30 (.tmp 3) rfl w1.heap.size 30 (Raw.cells qb (m.bare false S)) _ Try.underlying30 rfl (by rw [size_msg]; exact congrArg some (mlen H32.out).symm) HR5.out ?_ ?_; go_simp; generalize hW5 : ((w4.setCell ⟨w1.heap.size, 38, none⟩ (.slice none 0 0)).setCell ⟨w1.heap.size, 1, none⟩ (.int .u8 (m.s % 128))) = w5 at *; clear hW5 d38 d1 f38 f1 e38 e1))
      | ((with_reducible show wpList _ _ _ ({ dst := none, op := Op.store 30 (.tmp 6) _, type := _, pos := _, after := _, guard := _ } :: _) _ _); go_must (refine wpList_store_new rfl 30 (.tmp 6) (.tmp 41) rfl (Raw.cells qb (m.bare false S)) (by rw [size_msg]; exact congrArg some (mlen H32.out).symm) cells_one (by rw [HQL.out]; rfl) ?_ ?_ ?_; go_simp; go_simp; intro w6 hr6 hb6 hz6; have c0 : w6.cell? ⟨w5.heap.size, 0, none⟩ = some (.bool false) := hr6.cell 0; have f0 := hr6.frozen 0; have HR6 := Lib.hid hr6; have HB6 := Lib.hid hb6; clear hr6 hb6))
      | ((with_reducible show wpList _ _ _ ({ dst := some 44, op := Op.load _ _, type := _, pos := _, after := _, guard := _ } :: _) _ _); go_must (refine wpList_load_whole rfl 30 (.tmp 3) rfl w1.heap.size 30 (Raw.cells qb (m.bare false S)) _ Try.underlying30 rfl (by rw [size_msg]; exact congrArg some (mlen H32.out).symm) ((turned_setCell w6 ⟨w5.heap.size, 0, none⟩ (.bool true)).row (HR5.out.below HB6.out (by rw [HZ5.out]; exact HL1.out)) (show w1.heap.size ≠ w5.heap.size by rw [HZ5.out]; have := HL1.out; omega)) ?_ ?_; go_simp)))
    have ht7 := turned_setCell w6 ⟨w5.heap.size, 0, none⟩ (.bool true)
    have hb7 := HB6.out.trans (ht7.below (Nat.le_refl _))
    have hr7 : Row _ w5.heap.size 30 (qb.cells (m.bare true S)) := mset0 HR6.out true
    have hl1 := HL1.out
    have hz5 := HZ5.out
    have hm7 := HM5.out.below (hb7.mono (by omega))
    have hb07 := HB5.out.trans (hb7.mono (by omega))
    have hz7 := hb7.size
    clear ht7 hb7 c0 f0
    generalize (w6.setCell ⟨w5.heap.size, 0, none⟩ (.bool true)) = w7 at *
    refine (put_ok qb (m.bare false S) B w7 hm7 (by omega) ((fits_of HT5.out).2 (.inr ⟨rfl, HSB.out.2⟩)) (by have := enc_le hm7 HT5.out; omega)).mono ?_
    rintro e w8 ⟨g8, rest8, rfl, hg8, hr8, hb8⟩
    have hr78 := hr7.below hb8 hr7.lt
    have hm8 : MsgIn w8 B qb (m.bare true S) := (hm7.below (hb8.mono (by omega))).as true S
    have hb08 := hb07.trans (hb8.mono hb07.size)
    have hz8 := hb8.size
    have HR7 := Lib.hid hr78
    have HR8 := Lib.hid hr8
    have HB8 := Lib.hid hb08
    have HE := Lib.hid (enc_le hm7 HT5.out)
    clear hr78 hr8 hb08 hb8 hb07 hm7 hr7 HB6 HR6 HR5 HM5 HB5
    go_wp2_with ((with_reducible show wpList _ _ _ ({ dst := some 49, op := Op.load _ _, type := _, pos := _, after := _, guard := _ } :: _) _ _); go_must (refine wpList_load_whole rfl 30 (.tmp 6) rfl w5.heap.size 30 (Raw.cells qb (m.bare true S)) _ Try.underlying30 rfl (by rw [size_msg]; exact congrArg some (mlen H32.out).symm) HR7.out ?_ ?_; go_simp))
    refine (put_ok qb (m.bare true S) B w8 hm8 (by omega) ((fits_of HT5'.out).2 (.inl rfl)) (by have := enc_le hm8 HT5'.out; omega)).mono ?_
    rintro e w10 ⟨g10, rest10, rfl, hg10, hr10, hb10⟩
    rw [enc_bare] at hr10 ⊢
    generalize enc (m.bare false S) = E at *
    have hzz : w.heap.size ≤ w10.heap.size := (HB8.out.trans (hb10.mono HB8.out.size)).size
    have hr8 := HR8.out.below hb10 HR8.out.lt
    have hl8 := hr8.lt
    have HB10 := Lib.hid (HB8.out.trans (hb10.mono HB8.out.size))
    have HR10 := Lib.hid hr10
    have s8 : Sees w10 w10.heap.size (some ⟨g8, 0, none⟩) E.length (bv E) := hr8.sees_at (o := 0) (bv_length _) (fun j u hu => by rw [Nat.zero_add, List.getElem?_append_left (List.getElem?_eq_some_iff.1 hu).1]; exact hu)
    have hl1' := Row.new w10 5 (bv [128])
    have ho1 : OwnB (w10.alloc (.cells (bv [128]).toArray 5)) w10.heap.size (.slice (some ⟨w10.heap.size, 0, none⟩) 1 1) [128] := hl1'.own_all (Nat.le_refl _) (by simp [bv_length, maxLen])
    have HOL := Lib.hid ho1
    have hba := (Below.refl w10.heap.size w10).alloc (Nat.le_refl _) (.cells (bv [128]).toArray 5)
    have HSW := Lib.hid (s8.below hba)
    have HBA := Lib.hid hba
    have hlE := HE.out
    have hl2 : ([128] ++ E).length ≤ 1000001 := by simp; omega
    have hl3 : ([128] ++ E ++ [0]).length ≤ 1000002 := by simp; omega
    have HL2 := Lib.hid hl2
    have HL3 := Lib.hid hl3
    clear hl1' ho1 hba s8 hr8 hr10 hb10 HE hl2 hl3 HR8 HB8 hm8
    go_wp2_with (first
      | ((with_reducible show wpList _ _ _ ({ dst := some 63, op := _, type := _, pos := _, after := _, guard := _ } :: _) _ _); go_must (refine wpList_addBg (w := w10.alloc (.cells (bv [128]).toArray 5)) (by kernel_rfl) (.tmp 61) (.tmp 62) 34 rfl w10.heap.size Try.underlying34 info_u8 _ [128] ?_ HOL.out _ _ _ E.length E ?_ HSW.out HBA.out.size (by have := HL2.out; omega) ?_; go_simp; go_simp; intro v14 w14 ho14 hg14; have hb14 := HBA.out.trans (hg14.belowB HOL.out HBA.out.size); have HO14 := Lib.hid ho14; have HB14 := Lib.hid hb14; clear ho14 hg14 hb14))
      | ((with_reducible show wpList _ _ _ ({ dst := some 65, op := _, type := _, pos := _, after := _, guard := _ } :: _) _ _); go_must (refine wpList_addLitg (by kernel_rfl) (.tmp 63) (.tmp 64) 34 rfl w10.heap.size Try.underlying34 info_u8 _ ([128] ++ E) [0] 1 rfl ?_ HO14.out ?_ HB14.out.size (by have := HL3.out; omega) ?_; go_simp; go_simp; intro v15 w15 ho15 hg15; have hb15 := HB14.out.trans (hg15.belowB HO14.out HB14.out.size); obtain ⟨A15, c15, rfl⟩ := ho15.form; have HO15 := Lib.hid ho15; have HB15 := Lib.hid hb15; clear ho15 hg15 hb15)))
    have hr15 := HR10.out.below HB15.out HR10.out.lt
    have hs10 : Sees w15 w15.heap.size (some ⟨g10, 0, none⟩) ([128] ++ E ++ [0]).length (bv ([128] ++ E ++ [0])) := hr15.sees_at (o := 0) (bv_length _) (fun j u hu => by rw [Nat.zero_add, List.getElem?_append_left (List.getElem?_eq_some_iff.1 hu).1]; exact hu)
    have hL : ([128] ++ E ++ [0]).length = E.length + 1 + 1 := by simp
    rw [hL] at hs10
    have hs15 : Sees w15 w15.heap.size A15 (E.length + 1 + 1) (bv ([128] ++ E ++ [0])) := by
      have := HO15.out.sees
      first
        | exact this
        | (rw [hL] at this; exact this)
    have hl3 := HL3.out
    rw [hL] at hl3
    have HL4 := Lib.hid hl3
    clear hl3 hL HL3
    refine (same_yes3 (some ⟨g10, 0, none⟩) A15 (E.length + 1 + 1) (E.length + 1 + 1) (E.length + 1 + 1) c15 ([128] ++ E ++ [0]) w15 _ _ hs10 hs15 (by have := HL4.out; unfold maxLen; omega) (by have := HL4.out; unfold maxLen; omega)).mono ?_
    rintro e w16 ⟨rfl, k16, rfl⟩
    go_wp2_with fail
    have hb16 := below_drewN (HB10.out.trans (HB15.out.mono HB10.out.size)) k16
    refine (lives3 _).mono ?_
    rintro e w17 ⟨rfl, hb17⟩
    go_wp2_with fail
    go_ret
    exact ⟨rfl, hb16.trans (hb17.mono hb16.size)⟩
  · have h1' : decide (0 < ln) = true := by simpa using h1
    have h1'' : 0 < ln := by simpa using h1

    go_wp2_with (first
      | ((with_reducible show wpList _ _ _ ({ dst := some 41, op := Op.load _ _, type := _, pos := _, after := _, guard := _ } :: _) _ _); go_must (refine wpList_load_whole rfl 30 (.tmp 3) rfl w1.heap.size 30 (Raw.cells qb (m.bare false S)) _ Try.underlying30 rfl (by rw [size_msg]; exact congrArg some (mlen H32.out).symm) HR5.out ?_ ?_; go_simp; generalize hW5 : ((w4.setCell ⟨w1.heap.size, 38, none⟩ (.slice none 0 0)).setCell ⟨w1.heap.size, 1, none⟩ (.int .u8 (m.s % 128))) = w5 at *; clear hW5 d38 d1 f38 f1 e38 e1))
      | ((with_reducible show wpList _ _ _ ({ dst := none, op := Op.store 30 (.tmp 6) _, type := _, pos := _, after := _, guard := _ } :: _) _ _); go_must (refine wpList_store_new rfl 30 (.tmp 6) (.tmp 41) rfl (Raw.cells qb (m.bare false S)) (by rw [size_msg]; exact congrArg some (mlen H32.out).symm) cells_one (by rw [HQL.out]; rfl) ?_ ?_ ?_; go_simp; go_simp; intro w6 hr6 hb6 hz6; have c0 : w6.cell? ⟨w5.heap.size, 0, none⟩ = some (.bool false) := hr6.cell 0; have f0 := hr6.frozen 0; have HR6 := Lib.hid hr6; have HB6 := Lib.hid hb6; clear hr6 hb6))
      | ((with_reducible show wpList _ _ _ ({ dst := some 44, op := Op.load _ _, type := _, pos := _, after := _, guard := _ } :: _) _ _); go_must (refine wpList_load_whole rfl 30 (.tmp 3) rfl w1.heap.size 30 (Raw.cells qb (m.bare false S)) _ Try.underlying30 rfl (by rw [size_msg]; exact congrArg some (mlen H32.out).symm) ((turned_setCell w6 ⟨w5.heap.size, 0, none⟩ (.bool true)).row (HR5.out.below HB6.out (by rw [HZ5.out]; exact HL1.out)) (show w1.heap.size ≠ w5.heap.size by rw [HZ5.out]; have := HL1.out; omega)) ?_ ?_; go_simp)))
    have ht7 := turned_setCell w6 ⟨w5.heap.size, 0, none⟩ (.bool true)
    have hb7 := HB6.out.trans (ht7.below (Nat.le_refl _))
    have hr7 : Row _ w5.heap.size 30 (qb.cells (m.bare true S)) := mset0 HR6.out true
    have hl1 := HL1.out
    have hz5 := HZ5.out
    have hm7 := HM5.out.below (hb7.mono (by omega))
    have hb07 := HB5.out.trans (hb7.mono (by omega))
    have hz7 := hb7.size
    clear ht7 hb7 c0 f0
    generalize (w6.setCell ⟨w5.heap.size, 0, none⟩ (.bool true)) = w7 at *
    refine (put_ok qb (m.bare false S) B w7 hm7 (by omega) ((fits_of HT5.out).2 (.inr ⟨rfl, HSB.out.2⟩)) (by have := enc_le hm7 HT5.out; omega)).mono ?_
    rintro e w8 ⟨g8, rest8, rfl, hg8, hr8, hb8⟩
    have hr78 := hr7.below hb8 hr7.lt
    have hm8 : MsgIn w8 B qb (m.bare true S) := (hm7.below (hb8.mono (by omega))).as true S
    have hb08 := hb07.trans (hb8.mono hb07.size)
    have hz8 := hb8.size
    have HR7 := Lib.hid hr78
    have HR8 := Lib.hid hr8
    have HB8 := Lib.hid hb08
    have HE := Lib.hid (enc_le hm7 HT5.out)
    clear hr78 hr8 hb08 hb8 hb07 hm7 hr7 HB6 HR6 HR5 HM5 HB5
    go_wp2_with ((with_reducible show wpList _ _ _ ({ dst := some 49, op := Op.load _ _, type := _, pos := _, after := _, guard := _ } :: _) _ _); go_must (refine wpList_load_whole rfl 30 (.tmp 6) rfl w5.heap.size 30 (Raw.cells qb (m.bare true S)) _ Try.underlying30 rfl (by rw [size_msg]; exact congrArg some (mlen H32.out).symm) HR7.out ?_ ?_; go_simp))
    refine (put_ok qb (m.bare true S) B w8 hm8 (by omega) ((fits_of HT5'.out).2 (.inl rfl)) (by have := enc_le hm8 HT5'.out; omega)).mono ?_
    rintro e w10 ⟨g10, rest10, rfl, hg10, hr10, hb10⟩
    rw [enc_bare] at hr10 ⊢
    generalize enc (m.bare false S) = E at *
    have hzz : w.heap.size ≤ w10.heap.size := (HB8.out.trans (hb10.mono HB8.out.size)).size
    have hr8 := HR8.out.below hb10 HR8.out.lt
    have hl8 := hr8.lt
    have HB10 := Lib.hid (HB8.out.trans (hb10.mono HB8.out.size))
    have HR10 := Lib.hid hr10
    have s8 : Sees w10 w10.heap.size (some ⟨g8, 0, none⟩) E.length (bv E) := hr8.sees_at (o := 0) (bv_length _) (fun j u hu => by rw [Nat.zero_add, List.getElem?_append_left (List.getElem?_eq_some_iff.1 hu).1]; exact hu)
    have hl1' := Row.new w10 5 (bv [128])
    have ho1 : OwnB (w10.alloc (.cells (bv [128]).toArray 5)) w10.heap.size (.slice (some ⟨w10.heap.size, 0, none⟩) 1 1) [128] := hl1'.own_all (Nat.le_refl _) (by simp [bv_length, maxLen])
    have HOL := Lib.hid ho1
    have hba := (Below.refl w10.heap.size w10).alloc (Nat.le_refl _) (.cells (bv [128]).toArray 5)
    have HSW := Lib.hid (s8.below hba)
    have HBA := Lib.hid hba
    have hlE := HE.out
    have hl2 : ([128] ++ E).length ≤ 1000001 := by simp; omega
    have hl3 : ([128] ++ E ++ [0]).length ≤ 1000002 := by simp; omega
    have HL2 := Lib.hid hl2
    have HL3 := Lib.hid hl3
    clear hl1' ho1 hba s8 hr8 hr10 hb10 HE hl2 hl3 HR8 HB8 hm8
    go_wp2_with (first
      | ((with_reducible show wpList _ _ _ ({ dst := some 63, op := _, type := _, pos := _, after := _, guard := _ } :: _) _ _); go_must (refine wpList_addBg (w := w10.alloc (.cells (bv [128]).toArray 5)) (by kernel_rfl) (.tmp 61) (.tmp 62) 34 rfl w10.heap.size Try.underlying34 info_u8 _ [128] ?_ HOL.out _ _ _ E.length E ?_ HSW.out HBA.out.size (by have := HL2.out; omega) ?_; go_simp; go_simp; intro v14 w14 ho14 hg14; have hb14 := HBA.out.trans (hg14.belowB HOL.out HBA.out.size); have HO14 := Lib.hid ho14; have HB14 := Lib.hid hb14; clear ho14 hg14 hb14))
      | ((with_reducible show wpList _ _ _ ({ dst := some 65, op := _, type := _, pos := _, after := _, guard := _ } :: _) _ _); go_must (refine wpList_addLitg (by kernel_rfl) (.tmp 63) (.tmp 64) 34 rfl w10.heap.size Try.underlying34 info_u8 _ ([128] ++ E) [0] 1 rfl ?_ HO14.out ?_ HB14.out.size (by have := HL3.out; omega) ?_; go_simp; go_simp; intro v15 w15 ho15 hg15; have hb15 := HB14.out.trans (hg15.belowB HO14.out HB14.out.size); obtain ⟨A15, c15, rfl⟩ := ho15.form; have HO15 := Lib.hid ho15; have HB15 := Lib.hid hb15; clear ho15 hg15 hb15)))
    have hr15 := HR10.out.below HB15.out HR10.out.lt
    have hs10 : Sees w15 w15.heap.size (some ⟨g10, 0, none⟩) ([128] ++ E ++ [0]).length (bv ([128] ++ E ++ [0])) := hr15.sees_at (o := 0) (bv_length _) (fun j u hu => by rw [Nat.zero_add, List.getElem?_append_left (List.getElem?_eq_some_iff.1 hu).1]; exact hu)
    have hL : ([128] ++ E ++ [0]).length = E.length + 1 + 1 := by simp
    rw [hL] at hs10
    have hs15 : Sees w15 w15.heap.size A15 (E.length + 1 + 1) (bv ([128] ++ E ++ [0])) := by
      have := HO15.out.sees
      first
        | exact this
        | (rw [hL] at this; exact this)
    have hl3 := HL3.out
    rw [hL] at hl3
    have HL4 := Lib.hid hl3
    clear hl3 hL HL3
    refine (same_yes3 (some ⟨g10, 0, none⟩) A15 (E.length + 1 + 1) (E.length + 1 + 1) (E.length + 1 + 1) c15 ([128] ++ E ++ [0]) w15 _ _ hs10 hs15 (by have := HL4.out; unfold maxLen; omega) (by have := HL4.out; unfold maxLen; omega)).mono ?_
    rintro e w16 ⟨rfl, k16, rfl⟩
    go_wp2_with fail
    have hb16 := below_drewN (HB10.out.trans (HB15.out.mono HB10.out.size)) k16
    refine (lives3 _).mono ?_
    rintro e w17 ⟨rfl, hb17⟩
    go_wp2_with fail
    go_ret
    exact ⟨rfl, hb16.trans (hb17.mono hb16.size)⟩
end Go.Proofs.Ytidggfbjmmjmfaa
