/-
  packets.Put.
-/
import Derived.Test.YtolijdbdpnbchaaTx
import Derived.Test.YtolijdbdpnbchaaListB
namespace Go.Proofs.Ytolijdbdpnbchaa
open Go.RowKit
set_option linter.unusedVariables false

/-- what Put leaves -/
def PutTxDone (w : World) (x : LTx) (e : Ending) (w' : World) : Prop :=
  (¬ Fits x.m ∧ e = .returned (.tuple #[.slice none 0 0, .int .i64 1]) ∧ Below w.heap.size w w') ∨
  (Fits x.m ∧ 1232 < (encTx x).length ∧ e = .returned (.tuple #[.slice none 0 0, .int .i64 3]) ∧ Below w.heap.size w w') ∨
  (Fits x.m ∧ (encTx x).length ≤ 1232 ∧ (∃ v, e = .returned (.tuple #[v, .int .i64 0]) ∧ OwnB w' w.heap.size v (encTx x)) ∧ Below w.heap.size w w')

theorem flat64_take_succ {l : List (List Int)} {k : Nat} {x : List Int} (h : l[k]? = some x) : (l.take (k + 1)).flatten = (l.take k).flatten ++ x := by
  rw [List.take_add_one, List.flatten_append, h]
  simp

theorem own_base {w : World} {base base' n size : Nat} {e : TypeId} {v : Value} {xs : List Value} (h : w.ownsRow base e size v n xs) (hb : base' ≤ base) : w.ownsRow base' e size v n xs := by
  refine ⟨h.1, ?_⟩
  rcases h.2 with h2 | ⟨g, cap, cur, hv, hg, r⟩
  · exact .inl h2
  · exact .inr ⟨g, cap, cur, hv, by omega, r⟩

set_option maxRecDepth 100000 in
set_option maxHeartbeats 2000000 in
theorem putTx (s : TRaw) (x : LTx) (B : Nat) (w : World) (hm : TxIn w B s x) (hB : B ≤ w.heap.size) (hn : x.sigs.length ≤ 65535) (hl : (enc x.m).length ≤ 1000000) :
    Calls Try.prog 11 #[.agg (s.cells x).toArray] w (PutTxDone w x) := by
  obtain ⟨SA, sn, sc, q⟩ := s
  have hsl := hm.sigs.len
  dsimp only at hsl
  have hrow := Row.new w 33 (TRaw.cells ⟨SA, sn, sc, q⟩ x)
  have hb0 := (Below.refl w.heap.size w).alloc (Nat.le_refl _) (.cells (TRaw.cells ⟨SA, sn, sc, q⟩ x).toArray 33)
  have c0 : (w.alloc (.cells (TRaw.cells ⟨SA, sn, sc, q⟩ x).toArray 33)).cell? ⟨w.heap.size, 0, none⟩ = some (.slice SA sn sc) := hrow.cell 0
  have HM0 := Lib.hid (hm.below (hb0.mono hB))
  have HSM := Lib.hid (show (Try.prog.info? 31).map (·.size) = some (q.cells x.m).length by rw [size_msg, cells_len hm.m.recent])
  have HCM := Lib.hid (tcells_m (s := ⟨SA, sn, sc, q⟩) (x := x))
  have HSC := Lib.hid hm.sn
  have HRW := Lib.hid (show ∀ cs : List Value, cs = TRaw.cells ⟨SA, sn, sc, q⟩ x → cs[0]? = some (.slice SA sn sc) from fun cs h => by rw [h]; rfl)
  obtain ⟨cs, hcs⟩ : ∃ cs, cs = TRaw.cells ⟨SA, sn, sc, q⟩ x := ⟨_, rfl⟩
  rw [← hcs] at hrow hb0 c0 HM0 HCM ⊢
  have HC0 := Lib.hid (HRW.out cs hcs)
  clear HRW hcs
  have HROW := Lib.hid hrow
  have HB0 := Lib.hid hb0
  have HP := Lib.hid (putShort none 0 0 [] (w.alloc (.cells cs.toArray 33)) 0 sn (Sees.nil _ _ _) (by omega) (by omega) (by omega) (by omega))
  clear hrow hb0 hm
  go_enter Try.func11, Try.ntmps11
  go_wp2_with fail
  refine HP.out.mono ?_
  rintro e w1 ⟨g, rfl, hg, hr, hb1⟩
  have HR1 := Lib.hid hr
  have HROW1 := Lib.hid (HROW.out.below hb1 HROW.out.lt)
  have HB1 := Lib.hid (HB0.out.trans (hb1.mono HB0.out.size))
  have HM1 := Lib.hid (HM0.out.below (hb1.mono (Nat.le_trans hB HB0.out.size)))
  have HG := Lib.hid hg
  clear hr hb1 hg HP c0
  go_wp2_with ((with_reducible show wpList _ _ _ ({ dst := some 23, op := Op.load _ _, type := _, pos := _, after := _, guard := _ } :: _) _ _); go_must (refine wpList_load_at rfl 31 (.tmp 22) rfl ⟨w.heap.size, 1, none⟩ (q.cells x.m) _ Try.underlying31 rfl HSM.out (fun j v hv => by rw [addr_row, HROW1.out.cell, HCM.out]; exact hv) ?_ ?_; go_simp))
  by_cases hf : Fits x.m
  rotate_left
  · refine (put_no q x.m B w1 HM1.out.m (Nat.le_trans hB HB1.out.size) hf).mono ?_
    rintro e w2 ⟨rfl, hb2⟩
    go_wp2_with fail
    go_ret2
    exact .inl ⟨hf, rfl, HB1.out.trans (hb2.mono HB1.out.size)⟩
  refine (put_ok q x.m B w1 HM1.out.m (Nat.le_trans hB HB1.out.size) hf (by omega)).mono ?_
  rintro e w2 ⟨g2, rest, rfl, hg2, hr2, hb2⟩
  have hlen := encTx_len (x := x) HM1.out.sigs.each
  have hsl3 := short_len3 (x.sigs.length : Int)
  have hrow2 := HROW1.out.below hb2 HROW1.out.lt
  have hr12 := HR1.out.below hb2 HR1.out.lt
  have c0 : w2.cell? ⟨w.heap.size, 0, none⟩ = some (.slice SA sn sc) := (hrow2.cell 0).trans HC0.out
  have HROW2 := Lib.hid hrow2
  have HR2 := Lib.hid hr2
  have HR12 := Lib.hid hr12
  have HB2 := Lib.hid (HB1.out.trans (hb2.mono HB1.out.size))
  have HM2 := Lib.hid (HM1.out.below (hb2.mono (Nat.le_trans hB HB1.out.size)))
  have HSL := Lib.hid hsl
  have hsn : sn ≤ sc ∧ sc ≤ maxLen := HSC.out
  unfold maxLen at hsn
  rw [hsl] at hlen hsl3 hn
  have HLEN := Lib.hid hlen
  have hpar : (((short (sn : Int)).length : Nat) : Int) + 64 * (sn : Int) + ((enc x.m).length : Nat) = ((encTx x).length : Nat) := by omega
  have HPAR := Lib.hid hpar
  obtain ⟨N1, hN1⟩ : ∃ N, N = (short (sn : Int)).length := ⟨_, rfl⟩
  obtain ⟨N2, hN2⟩ : ∃ N, N = (enc x.m).length := ⟨_, rfl⟩
  have HN1 := Lib.hid hN1
  have HN2 := Lib.hid hN2
  simp only [Nat.zero_add, List.nil_append]
  rw [← hN1] at hlen hsl3 ⊢
  rw [← hN2] at hlen hl ⊢
  clear hb2 hr2 hrow2 hr12 HROW1 HM1 HR1 hN1 hN2 hg2 hpar
  by_cases hbig : 1232 < (encTx x).length
  · have hbig' : (1232 : Int) < N1 + 64 * sn + N2 := by omega
    go_wp2_with fail
    go_ret2
    exact .inr (.inl ⟨hf, hbig, rfl, HB2.out⟩)
  · have hbig' : ¬ (1232 : Int) < N1 + 64 * sn + N2 := by omega
    have HF := Lib.hid hf
    have HBIG := Lib.hid hbig
    have HS1 := Lib.hid (show Sees w2 w2.heap.size (some ⟨g, 0, none⟩) N1 (bv (short (sn : Int))) from HR12.out.sees_at (o := 0) (by rw [bv_length, ← HN1.out]) (fun j u hu => by rw [Nat.zero_add]; exact hu))
    obtain ⟨T, hT⟩ : ∃ T, T = (encTx x).length := ⟨_, rfl⟩
    have hT2 : (N1 : Int) + 64 * sn + N2 = (T : Int) := by omega
    have hT3 : T ≤ 1232 := by omega
    have HT := Lib.hid hT
    have HT2 := Lib.hid hT2
    clear hf hbig hT HPAR hlen hT2 hbig' hsl
    have hbig' : decide ((1232 : Int) < N1 + 64 * sn + N2) = false := by have := HT2.out; simp; omega
    obtain ⟨i0, hi, hz0, hz1, hz2⟩ := info_parts info_u8
    go_wp2_with (first
      | (at_make; go_must (refine wpList_make_own _ rfl (.const (.int .i64 0)) (.tmp 42) 37 rfl w2.heap.size 5 i0 _ 1 Try.underlying37 hi hz0 hz1 .i64 .i64 ((N1 : Int) + 64 * sn + N2) T rfl ?_ HT2.out (by rw [hz2]; omega) (by unfold maxLen; omega) (Nat.le_refl _) ?_; go_simp; intro w3 hown hgrow; have HO3 : Hid (OwnB w3 w2.heap.size (.slice (some ⟨w2.heap.size, 0, none⟩) 0 T) []) := Lib.hid hown; have hb3 : Below w2.heap.size w2 w3 := (Below.refl _ _).grown hgrow (Nat.le_refl _) (fun k hk => by cases hk); have HB3 := Lib.hid hb3; have HS3 := Lib.hid (HS1.out.below hb3); clear hown hgrow hb3))
      | (at_builtin; (with_reducible show wpList _ _ _ ({ dst := some 45, op := _, type := _, pos := _, after := _, guard := _ } :: _) _ _); go_loud (refine wpList_addB rfl (.tmp 43) (.tmp 44) 37 rfl w2.heap.size Try.underlying37 info_u8 (.slice (some ⟨w2.heap.size, 0, none⟩) 0 T) [] ?_ HO3.out w2.heap.size (some ⟨g, 0, none⟩) N1 N1 (short (sn : Int)) ?_ HS3.out HB3.out.size ?_ ?_; go_simp; go_simp; (have := HN1.out; simp only [List.nil_append]; omega); intro v4 w4 ho4 hg4; have hb4 := HB3.out.trans (hg4.belowB HO3.out HB3.out.size); have HO4 : Hid (OwnB w4 w2.heap.size v4 (short (sn : Int))) := Lib.hid ho4; have HB4 := Lib.hid hb4; have c0 : w4.cell? ⟨w.heap.size, 0, none⟩ = some (.slice SA sn sc) := ((HROW2.out.below hb4 HROW2.out.lt).cell 0).trans HC0.out; clear ho4 hg4 hb4)))
    clear c0 HO3 HS3 HB3 HR12 HS1 hi hz0 hz1 hz2
    go_loopw [8, 49] (fun v i wr => ∃ k : Nat, k ≤ sn ∧ i = .int .i64 k ∧ OwnB wr w2.heap.size v (short (sn : Int) ++ (x.sigs.take k).flatten) ∧ Below w2.heap.size w2 wr) (fun v i _ => sn - (intOf i).toNat)
    case atStart =>
      refine ⟨0, Nat.zero_le _, rfl, ?_, HB4.out⟩
      simpa only [List.take_zero, List.flatten_nil, List.append_nil] using HO4.out
    case round =>
    clear HO4 HB4
    obtain ⟨k, hk, rfl, ho, hb⟩ := hrel
    have HOR := Lib.hid ho
    have HBR := Lib.hid hb
    clear ho hb
    have hsz := HBR.out.size
    by_cases hlt : k < sn
    · obtain ⟨a, y, rfl, hab, hx, hat⟩ := HM2.out.sigs.get hlt
      have HAT := Lib.hid (hat.keep hab fun p hp => HBR.out.cell (Nat.lt_of_lt_of_le hp (Nat.le_trans hB HB2.out.size)))
      have HX := Lib.hid hx
      have HZ64 := Lib.hid (show (Try.prog.info? 62).map (·.size) = some (bv y).length by rw [size_sig, bv_length, hat.len])
      have hln : (short (sn : Int) ++ (x.sigs.take k).flatten).length + 64 ≤ 2000000000 := by
        have h1 := flat64_len (x.sigs.take k) (fun z hz => HM2.out.sigs.each z (List.mem_of_mem_take hz))
        have h2 : (x.sigs.take k).length = k := by rw [List.length_take]; have := HSL.out; omega
        have h3 := HN1.out
        rw [List.length_append, h1, h2]
        omega
      have HLN := Lib.hid hln
      have HYL := Lib.hid hat.len
      clear hat hx hln
      go_wp2_with (first
        | (with_reducible show wpList _ _ _ ({ dst := some 52, op := Op.load _ _, type := _, pos := _, after := _, guard := _ } :: _) _ _; go_must (refine wpList_load_at rfl 62 (.tmp 51) rfl (a.add (k * 64)) (bv y) _ Try.underlying62 rfl HZ64.out HAT.out.cells ?_ ?_; go_simp))
        | (with_reducible show wpList _ _ _ ({ dst := none, op := Op.store 62 _ _, type := _, pos := _, after := _, guard := _ } :: _) _ _; go_must (refine wpList_store_new rfl 62 (.tmp 10) (.tmp 52) rfl (bv y) HZ64.out (bv_one y) (by simp [bv_length, HYL.out]) ?_ ?_ ?_; go_simp; go_simp; intro w4 hr4 hb4 hz4; have hs4 : Sees w4 w4.heap.size (some ⟨wr.heap.size, 0, none⟩) 64 (bv y) := hr4.sees_at (o := 0) (by rw [bv_length, HYL.out]) (fun j u hu => by rw [Nat.zero_add]; exact hu); have ho4 := HOR.out.below hb4; clear hr4))
        | (at_builtin; go_must (refine wpList_addB rfl (.tmp 53) (.tmp 54) 37 rfl w2.heap.size Try.underlying37 info_u8 _ _ ?_ ho4 _ _ 64 64 y ?_ hs4 (by omega) (by have q1 := HLN.out; have q2 := HYL.out; rw [List.length_append]; omega) ?_; go_simp; go_simp; intro v5 w5 ho5 hg5; have HB5 := Lib.hid ((HBR.out.trans (hb4.mono hsz)).trans (hg5.belowB ho4 (by omega))); have HO5 := Lib.hid ho5; clear ho5 hg5)))
      go_roundw
      case rel =>
        refine ⟨k + 1, by omega, by go_num, ?_, HB5.out⟩
        rw [flat64_take_succ HX.out, ← List.append_assoc]
        exact HO5.out
      case measure => simp [intOf]; omega
    · have HOK : Hid (OwnB wr w2.heap.size u8 (short (sn : Int) ++ x.sigs.flatten)) := by
        have := HOR.out
        rw [List.take_of_length_le (by have := HSL.out; omega)] at this
        exact Lib.hid this
      have hr2 := HR2.out.below HBR.out HR2.out.lt
      have HS2 := Lib.hid (show Sees wr wr.heap.size (some ⟨g2, 0, none⟩) N2 (bv (enc x.m)) from hr2.sees_at (o := 0) (by rw [bv_length, ← HN2.out]) (fun j u hu => by rw [Nat.zero_add, List.getElem?_append_left (List.getElem?_eq_some_iff.1 hu).1]; exact hu))
      have hln : (short (sn : Int) ++ x.sigs.flatten ++ enc x.m).length ≤ 1232 := by
        have h1 := HBIG.out
        have h2 : encTx x = short (sn : Int) ++ x.sigs.flatten ++ enc x.m := by unfold encTx; rw [HSL.out]; simp only [List.append_assoc]
        rw [h2] at h1
        omega
      have HLN := Lib.hid hln
      clear HOR hr2 hln
      go_wp2_with (first
        | (at_builtin; go_must (refine wpList_addB rfl (.tmp 57) (.tmp 58) 37 rfl w2.heap.size Try.underlying37 info_u8 u8 _ ?_ HOK.out wr.heap.size (some ⟨g2, 0, none⟩) N2 N2 (enc x.m) ?_ HS2.out hsz (by have := HLN.out; omega) ?_; go_simp; go_simp; intro v5 w5 ho5 hg5; have HB5 := Lib.hid (HBR.out.trans (hg5.belowB HOK.out hsz)); have HO5 := Lib.hid ho5; clear ho5 hg5)))
      go_ret2
      refine .inr (.inr ⟨HF.out, by have := HBIG.out; omega, ⟨_, rfl, ?_⟩, HB2.out.trans (HB5.out.mono HB2.out.size)⟩)
      have h2 : encTx x = short (sn : Int) ++ x.sigs.flatten ++ enc x.m := by unfold encTx; rw [HSL.out]; simp only [List.append_assoc]
      rw [h2]
      exact own_base HO5.out HB2.out.size
end Go.Proofs.Ytolijdbdpnbchaa
