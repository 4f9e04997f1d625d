/-
  ferryhouseref03.Put.
-/
import Derived.Test.YtidggfbjmmjmfaaRefList
import Derived.Test.YtidggfbjmmjmfaaPutMsg
import Derived.Deep.RegionHeld2
namespace Go.Proofs.Ytidggfbjmmjmfaa
open Go.RowKit
set_option linter.unusedVariables false

/-- what the reference's Put leaves -/
def RefPutDone (w : World) (ys : List Int) (e : Ending) (w' : World) : Prop :=
  ∃ v, e = .returned (.tuple #[v, .int .i64 0]) ∧ OwnB w' w.heap.size v ys ∧ Below w.heap.size w w'

theorem KeyAt.sees {w : World} {a : Addr} {k B : Nat} {x : List Int} (h : KeyAt w a k x) (hb : a.block < B) : Sees w B (some (a.add (k * 32))) 32 (bv x) :=
  ⟨by rw [bv_length, h.len], fun j u hu => ⟨_, rfl, by rw [addr_block]; exact hb, h.cells j u hu⟩⟩

theorem OwnB.less {w : World} {b b' : Nat} {v : Value} {ys : List Int} (h : OwnB w b v ys) (hb : b' ≤ b) : OwnB w b' v ys := by
  refine ⟨h.1, ?_⟩
  rcases h.2 with h2 | ⟨g, cap, cur, h1, h2, h3⟩
  · exact .inl h2
  · exact .inr ⟨g, cap, cur, h1, Nat.le_trans hb h2, h3⟩
theorem LookAt.sees {w : World} {a : Addr} {k B B' : Nat} {x : LLook} {va vd : Value} (h : LookAt w B' a k x va vd) (hb : a.block < B) : Sees w B (some (a.add (k * 34))) 32 (bv x.tab) :=
  ⟨by rw [bv_length, h.len], fun j u hu => ⟨_, rfl, by rw [addr_block]; exact hb, h.cells j u (by rw [List.getElem?_append_left (by have := (List.getElem?_eq_some_iff.1 hu).1; exact this)]; exact hu)⟩⟩
theorem LookAt.keep {w w' : World} {B k : Nat} {a : Addr} {x : LLook} {va vd : Value} (h : LookAt w B a k x va vd) (ha : a.block < B) (hk : ∀ p : Addr, p.block < B → w'.cell? p = w.cell? p) : LookAt w' B a k x va vd :=
  ⟨fun j u hu => (hk _ (by rw [addr_block, addr_block]; exact ha)).trans (h.cells j u hu), h.len, h.wr.keep hk, h.rd.keep hk⟩

set_option maxRecDepth 100000 in
set_option maxHeartbeats 2000000 in
theorem refPut_ok (q : Raw) (m : LMsg) (B : Nat) (w : World) (hm : MsgIn w B q m) (hB : B ≤ w.heap.size) (hf : Fits m) (hl : (enc m).length ≤ 1000000000) :
    Calls Try.prog 12 #[.agg (q.cells m).toArray] w (RefPutDone w (enc m)) := by
  obtain ⟨KA, kn, kc, IA, n, ic, LA, ln, lc⟩ := q
  have hrow := Row.new w 30 (Raw.cells ⟨KA, kn, kc, IA, n, ic, LA, ln, lc⟩ m)
  have hb0 := (Below.refl w.heap.size w).alloc (Nat.le_refl _) (.cells (Raw.cells ⟨KA, kn, kc, IA, n, ic, LA, ln, lc⟩ m).toArray 30)
  have hlen := cells_len (q := ⟨KA, kn, kc, IA, n, ic, LA, ln, lc⟩) hm.recent
  have HF := Lib.hid (may_ ⟨KA, kn, kc, IA, n, ic, LA, ln, lc⟩ m B _ (hm.alloc hB (.cells (Raw.cells ⟨KA, kn, kc, IA, n, ic, LA, ln, lc⟩ m).toArray 30)) (Nat.le_trans hB hb0.size))
  have HREC := Lib.hid (fun j u => @cells_recent ⟨KA, kn, kc, IA, n, ic, LA, ln, lc⟩ m j u)
  have HMR := Lib.hid (MsgRow.of hrow hm.recent)
  obtain ⟨cs, hcs⟩ : ∃ cs, cs = Raw.cells ⟨KA, kn, kc, IA, n, ic, LA, ln, lc⟩ m := ⟨_, rfl⟩
  rw [← hcs] at hrow hb0 hlen HF HREC HMR ⊢
  clear hcs
  have HSZ := Lib.hid (show (Try.prog.info? 30).map (·.size) = some cs.length by rw [size_msg, hlen])
  have HROW := Lib.hid hrow
  have HM := Lib.hid hm
  have HB0 := Lib.hid hb0
  have k1 := hm.kn
  have k2 := hm.n
  have k3 := hm.ln
  dsimp only at k1 k2 k3
  unfold maxLen at k1 k2 k3
  have HL := Lib.hid hl
  have HFI := Lib.hid hf
  clear hlen hm hb0 hrow hl hf
  go_enter Try.func12, Try.ntmps12
  go_wp2_with (first
    | (with_reducible show wpList _ _ _ ({ dst := some 8, op := Op.load _ _, type := _, pos := _, after := _, guard := _ } :: _) _ _; go_must (refine wpList_load_whole rfl 30 (.tmp 1) rfl w.heap.size 30 cs _ Try.underlying30 rfl HSZ.out HROW.out ?_ ?_; go_simp)))
  refine HF.out.mono ?_
  rintro e w1 ⟨⟨b, rfl, hb⟩, hb1⟩
  obtain rfl : b = true := hb.2 HFI.out
  clear hb
  have hlt0 : w.heap.size < w1.heap.size := Nat.lt_of_lt_of_le HROW.out.lt hb1.size
  have hr1 := HROW.out.below hb1 HROW.out.lt
  have hm1 := HMR.out.keep HROW.out.lt hb1
  have hbw1 := HB0.out.trans (hb1.mono HB0.out.size)
  generalize hW : (w.alloc (Obj.cells cs.toArray 30)) = W0 at *
  clear hW HF HMR HROW HB0 hb1
  have HR1 := Lib.hid hr1
  have HMR1 := Lib.hid hm1
  have HBW1 := Lib.hid hbw1
  have HM1 := Lib.hid (HM.out.below (hbw1.mono hB))
  clear hr1 hbw1 HM
  generalize hv0 : m.v0 = v0 at *
  have HV0 := Lib.hid hv0
  clear hv0
  have hpar := enc_parts m
  have hhl : (encHead m).length = (if v0 then 1 else 0) + 3 := by unfold encHead; rw [HV0.out]; cases v0 <;> rfl
  have HPAR := Lib.hid hpar
  have HHL := Lib.hid hhl
  clear hpar hhl hm1
  have hfk := HFI.out.2.1
  have hfi := HFI.out.2.2.1
  have hfl := HFI.out.2.2.2.1
  rw [HM1.out.keys.len] at hfk
  rw [HM1.out.ins.len] at hfi
  rw [HM1.out.looks.len] at hfl
  dsimp only at hfk hfi hfl
  have HE : Hid (enc m = encHead m ++ short kn ++ m.keys.flatten ++ m.recent ++ short n ++ m.ins.flatMap encIn ++ encTail m) := by
    have e1 := HM1.out.keys.len
    have e2 := HM1.out.ins.len
    dsimp only at e1 e2
    refine Lib.hid ?_
    unfold enc
    rw [e1, e2]
    simp only [List.append_assoc]
  have HPL : Hid ((encHead m).length + 3 + m.keys.flatten.length + m.recent.length + 3 + (m.ins.flatMap encIn).length + (encTail m).length ≤ 1000000006) := by
    have h1 := HPAR.out
    have h2 := HL.out
    exact Lib.hid (by omega)
  have HO1 := Lib.hid (OwnB.nil w1 w1.heap.size)
  -- the first byte
  obtain ⟨d0, -, -, -, -, -, -⟩ := HMR1.out
  rw [HV0.out] at d0
  go_upto_if 12 with fail
  clear d0
  go_cut [4] from 8 to 126 (fun v wc => OwnB wc w1.heap.size v (if v0 then [128] else []) ∧ Below w1.heap.size w1 wc)
  case first =>
    cases v0
    · go_wp2_with fail
      go_meet
      case rel => exact ⟨HO1.out, Below.refl _ _⟩
    · go_wp2_with (first
       | (at_builtin; with_reducible show wpList _ _ _ ({ dst := some 15, op := _, type := _, pos := _, after := _, guard := _ } :: _) _ _; go_must (refine wpList_addLit rfl (.tmp 13) (.tmp 14) 34 rfl w1.heap.size Try.underlying34 info_u8 (.slice none 0 0) [] [128] 1 rfl ?_ HO1.out ?_ (Nat.le_refl _) (by simp only [List.nil_append, List.length_cons, List.length_nil]; omega) ?_; go_simp; go_simp; intro v1 w1' ho1 hg1)))
      go_meet
      case rel => exact ⟨by simpa only [List.nil_append, if_true] using ho1, hg1.belowB HO1.out (Nat.le_refl _)⟩
  case rest =>
  obtain ⟨ho, hb⟩ := hcut
  have hhead : (if v0 then [128] else []) ++ [m.s, m.r, m.o] = encHead m := by unfold encHead; rw [HV0.out]
  have hprel : ((if v0 then [128] else []) : List Int).length ≤ 1 := by cases v0 <;> simp
  generalize ((if v0 then [128] else []) : List Int) = pre at *
  obtain ⟨-, d1, d2, d3, -, -, -⟩ := HMR1.out.keep hlt0 hb
  have HO0 := Lib.hid ho
  have HB0 := Lib.hid hb
  have HH := Lib.hid hhead
  clear ho hb hhead HO1
  go_wp2_with (first
    | (at_builtin; with_reducible show wpList _ _ _ ({ dst := some 27, op := _, type := _, pos := _, after := _, guard := _ } :: _) _ _; go_must (refine wpList_addLit rfl (.tmp 16) (.tmp 26) 34 rfl w1.heap.size Try.underlying34 info_u8 _ pre [m.s, m.r, m.o] 3 rfl ?_ HO0.out ?_ HB0.out.size (by simp only [List.length_append, List.length_cons, List.length_nil]; omega) ?_; go_simp; go_simp; intro v2 w2 ho2 hg2; have hb2 := HB0.out.trans (hg2.belowB HO0.out HB0.out.size); obtain ⟨-, -, -, -, d4, -, -⟩ := HMR1.out.keep hlt0 hb2; have HO2 : Hid (OwnB w2 w1.heap.size v2 (encHead m)) := Lib.hid (by rw [← HH.out]; exact ho2); have HB2 := Lib.hid hb2; clear ho2 hg2 hb2 d1 d2 d3 HB0 HO0)))
  clear d4 HH
  have hs3 := short_len3 kn
  have HX1 := HPL.out
  refine (refShortB kn w2 hfk).mono ?_
  rintro e w3 ⟨A3, c3, rfl, hown3, hb3⟩
  have hz2 := HB2.out.size
  have HB3 := Lib.hid (HB2.out.trans (hb3.mono hz2))
  have HO3 := Lib.hid (HO2.out.below hb3)
  have HS3 := Lib.hid hown3.sees
  clear hown3 hb3 HO2 HB2 hz2
  go_wp2_with (first
    | (at_builtin; with_reducible show wpList _ _ _ ({ dst := some 33, op := _, type := _, pos := _, after := _, guard := _ } :: _) _ _; go_must (refine wpList_addB rfl (.tmp 28) (.tmp 32) 34 rfl w1.heap.size Try.underlying34 info_u8 _ (encHead m) ?_ HO3.out _ _ _ c3 (short kn) ?_ HS3.out HB3.out.size (by simp only [List.length_append]; omega) ?_; go_simp; go_simp; intro v4 w4 ho4 hg4; have HB4 := Lib.hid (HB3.out.trans (hg4.belowB HO3.out HB3.out.size)); have HO4 := Lib.hid ho4; clear ho4 hg4 HO3 HB3 HS3)))
  have HS4 := short_len3 n
  have hkl : ∀ k, (m.keys.take k).flatten.length ≤ m.keys.flatten.length := fun k => by
    have := flatMap_take_len id m.keys k
    simpa only [List.flatMap_id] using this
  have hrl := HM1.out.recent
  have HXL := Lib.hid (And.intro HX1 (And.intro hs3 (And.intro HS4 (And.intro hkl hrl))))
  clear HX1 hs3 HS4 hkl hrl
  go_loopw [4, 5] (fun v i wr => ∃ k : Nat, k ≤ kn ∧ i = .int .i64 k ∧ OwnB wr w1.heap.size v (encHead m ++ short kn ++ (m.keys.take k).flatten) ∧ Below w1.heap.size w1 wr) (fun v i _ => kn - (intOf i).toNat)
  case atStart =>
    refine ⟨0, Nat.zero_le _, rfl, ?_, HB4.out⟩
    simpa only [List.take_zero, List.flatten_nil, List.append_nil] using HO4.out
  case round =>
  clear HO4 HB4
  obtain ⟨k, hk, rfl, ho, hb⟩ := hrel
  have HOR := Lib.hid ho
  have HBR := Lib.hid hb
  have d4 := (HMR1.out.keep hlt0 hb).c4
  dsimp only at d4
  clear ho hb
  by_cases hlt : k < kn
  · obtain ⟨a, x, rfl, hab, hx, hat⟩ := HM1.out.keys.get hlt
    have HX := Lib.hid hx
    have hat := hat.keep hab fun p hp => HBR.out.cell (Nat.lt_of_lt_of_le hp (Nat.le_trans hB (Nat.le_of_lt hlt0)))
    have HLN := Lib.hid hat.len
    have HAT := Lib.hid (hat.sees (B := wr.heap.size) (by have := HBR.out.size; omega))
    have hln : (encHead m ++ short kn ++ (m.keys.take k).flatten).length + 32 ≤ 2000000000 := by
      obtain ⟨h1, h2, h3, h4, h5⟩ := HXL.out
      have := h4 k
      simp only [List.length_append]
      omega
    have HLE := Lib.hid hln
    clear hat hx hln
    go_wp2_with (first
      | (at_builtin; with_reducible show wpList _ _ _ ({ dst := some 47, op := _, type := _, pos := _, after := _, guard := _ } :: _) _ _; go_must (refine wpList_addB rfl (.tmp 41) (.tmp 46) 34 rfl w1.heap.size Try.underlying34 info_u8 _ _ ?_ HOR.out _ _ 32 32 x ?_ HAT.out HBR.out.size (by have q1 := HLE.out; have q2 := HLN.out; rw [List.length_append]; omega) ?_; go_simp; go_simp; intro v5 w5 ho5 hg5; have HB5 := Lib.hid (HBR.out.trans (hg5.belowB HOR.out HBR.out.size)); have HO5 := Lib.hid ho5; clear ho5 hg5)))
    go_roundw
    case rel =>
      refine ⟨k + 1, by omega, by go_num, ?_, HB5.out⟩
      rw [flatten_take_succ HX.out, ← List.append_assoc]
      exact HO5.out
    case measure => simp [intOf]; omega
  · have HKK := Lib.hid (show k = kn by omega)
    have hok : OwnB wr w1.heap.size u4 (encHead m ++ short kn ++ m.keys.flatten) := by
      have := HOR.out
      rwa [List.take_of_length_le (by have := HM1.out.keys.len; dsimp only at this; have := HKK.out; omega)] at this
    have hsr := (HR1.out.below HBR.out hlt0).sees_at (o := 5) (xs := bv m.recent) (n := 32) (by rw [bv_length, HXL.out.2.2.2.2]) HREC.out
    have HOK := Lib.hid hok
    have HSR := Lib.hid hsr
    clear hok HOR hsr
    go_wp2_with (first
      | (at_builtin; with_reducible show wpList _ _ _ ({ dst := some 51, op := _, type := _, pos := _, after := _, guard := _ } :: _) _ _; go_must (refine wpList_addB rfl (.tmp 48) (.tmp 50) 34 rfl w1.heap.size Try.underlying34 info_u8 _ _ ?_ HOK.out _ _ 32 32 m.recent ?_ HSR.out HBR.out.size (by obtain ⟨h1, h2, h3, h4, h5⟩ := HXL.out; simp only [List.length_append]; omega) ?_; go_simp; go_simp; intro v5 w5 ho5 hg5; have hb5 := HBR.out.trans (hg5.belowB HOK.out HBR.out.size); have d37 := (HMR1.out.keep hlt0 hb5).c37; dsimp only at d37; have HB5 := Lib.hid hb5; have HO5 := Lib.hid ho5; clear hb5 ho5 hg5)))
    clear d37 d4 HOK HSR HBR HKK
    refine (refShortB n w5 hfi).mono ?_
    rintro e w6 ⟨A6, c6, rfl, hown6, hb6⟩
    have hz5 := HB5.out.size
    have HB6 := Lib.hid (HB5.out.trans (hb6.mono hz5))
    have HO6 := Lib.hid (HO5.out.below hb6)
    have HS6 := Lib.hid hown6.sees
    clear hown6 hb6 HO5 HB5 hz5
    go_wp2_with (first
      | (at_builtin; with_reducible show wpList _ _ _ ({ dst := some 57, op := _, type := _, pos := _, after := _, guard := _ } :: _) _ _; go_must (refine wpList_addB rfl (.tmp 52) (.tmp 56) 34 rfl w1.heap.size Try.underlying34 info_u8 _ _ ?_ HO6.out _ _ _ c6 (short n) ?_ HS6.out HB6.out.size (by obtain ⟨h1, h2, h3, h4, h5⟩ := HXL.out; simp only [List.length_append]; omega) ?_; go_simp; go_simp; intro v7 w7 ho7 hg7; have HB7 := Lib.hid (HB6.out.trans (hg7.belowB HO6.out HB6.out.size)); have HO7 := Lib.hid ho7; clear ho7 hg7 HO6 HB6 HS6)))
    go_loopw [4, 6] (fun v i wr => ∃ k : Nat, k ≤ n ∧ i = .int .i64 k ∧ OwnB wr w1.heap.size v (encHead m ++ short kn ++ m.keys.flatten ++ m.recent ++ short n ++ (m.ins.take k).flatMap encIn) ∧ Below w1.heap.size w1 wr) (fun v i _ => n - (intOf i).toNat)
    case atStart =>
      refine ⟨0, Nat.zero_le _, rfl, ?_, HB7.out⟩
      simpa only [List.take_zero, List.flatMap_nil, List.append_nil] using HO7.out
    case round =>
    clear HO7 HB7
    obtain ⟨k2, hk2, rfl, ho, hb⟩ := hrel
    have HOR := Lib.hid ho
    have HBR := Lib.hid hb
    have d37 := (HMR1.out.keep hlt0 hb).c37
    dsimp only at d37
    clear ho hb
    by_cases hlt2 : k2 < n
    · obtain ⟨a, x, va, vd, rfl, hab, hx, hat⟩ := HM1.out.ins.get hlt2
      replace hat := hat.keep hab fun p hp => HBR.out.cell (Nat.lt_of_lt_of_le hp (Nat.le_trans hB (Nat.le_of_lt hlt0)))
      have e0 : wr.cell? (a.add (k2 * 3)) = some (.int .u8 x.p) := by
        have h := hat.cells 0 _ rfl
        rwa [addr_add, Nat.add_zero] at h
      have HX := Lib.hid hx
      have HAT := Lib.hid hat
      have hln : (encHead m ++ short kn ++ m.keys.flatten ++ m.recent ++ short n ++ (m.ins.take k2).flatMap encIn).length + (encIn x).length ≤ 2000000000 := by
        obtain ⟨h1, h2, h3, h4, h5⟩ := HXL.out
        have h6 := flatMap_take_len encIn m.ins (k2 + 1)
        rw [flatMap_take_succ encIn hx] at h6
        simp only [List.length_append] at h6 ⊢
        omega
      have hel : (encIn x).length = 1 + ((encL x.acc).length + (encL x.dat).length) := by simp [encIn]; omega
      have hfx := HFI.out.2.2.2.2.1 x (List.mem_of_getElem? hx)
      generalize hys : encHead m ++ short kn ++ m.keys.flatten ++ m.recent ++ short n ++ (m.ins.take k2).flatMap encIn = ys at *
      have HYS := Lib.hid hys
      have HLN := Lib.hid hln
      have HEL := Lib.hid hel
      clear hat hx hln hel hys
      have hab1 : a.block < w1.heap.size := by omega
      go_upto_region 18 with (first
        | (at_builtin; with_reducible show wpList _ _ _ ({ dst := some 73, op := _, type := _, pos := _, after := _, guard := _ } :: _) _ _; go_must (refine wpList_addLit rfl (.tmp 65) (.tmp 72) 34 rfl w1.heap.size Try.underlying34 info_u8 _ ys [x.p] 1 rfl ?_ HOR.out ?_ HBR.out.size (by have q1 := HLN.out; rw [List.length_append, List.length_singleton]; omega) ?_; go_simp; go_simp; intro v5 w5 ho5 hg5; have hb5 := hg5.belowB HOR.out HBR.out.size; have HAT5 := Lib.hid (HAT.out.keep hab fun p hp => hb5.cell (by omega)); have HB5 := Lib.hid (HBR.out.trans hb5); have HO5 := Lib.hid ho5; clear ho5 hg5 hb5 d37 e0)))
      have f37 : w5.drew.cell? ⟨w.heap.size, 37, none⟩ = some (.slice (some a) n ic) := (HMR1.out.keep hlt0 HB5.out).c37
      have f1 : w5.drew.cell? ⟨(a.add (k2 * 3)).block, (a.add (k2 * 3)).off + 1, none⟩ = some va := HAT5.out.cells 1 _ rfl
      have f2 : w5.drew.cell? ⟨(a.add (k2 * 3)).block, (a.add (k2 * 3)).off + 2, none⟩ = some vd := HAT5.out.cells 2 _ rfl
      have hki : (k2 : Int) < n := by omega
      have hk0 : (0 : Int) ≤ k2 := by omega
      have hab3 : (a.add (k2 * 3)).block < w1.heap.size := by rw [addr_block]; exact hab1
      have HD5 := Lib.hid (show OwnB w5.drew w1.heap.size v5 (ys ++ [x.p]) from HO5.out)
      have HVA := Lib.hid ((HAT5.out.keep (w' := w5.drew) hab fun p hp => rfl).acc.more (Nat.le_trans hB (Nat.le_of_lt hlt0)))
      have HVD := Lib.hid ((HAT5.out.keep (w' := w5.drew) hab fun p hp => rfl).dat.more (Nat.le_trans hB (Nat.le_of_lt hlt0)))
      have HZ5 := Lib.hid (show w1.heap.size ≤ w5.drew.heap.size from HB5.out.size)
      have HFX := Lib.hid hfx
      clear hfx
      have HC5 := Lib.hid (refList_ w1.heap.size w1.heap.size v5 va (ys ++ [x.p]) x.acc w5.drew HD5.out HZ5.out HVA.out (Nat.le_refl _) HFX.out.1 (by have h1 := HLN.out; have h2 := HEL.out; rw [List.length_append, List.length_singleton]; omega))
      go_region_held2 (fun w' => w'.cell? ⟨w.heap.size, 37, none⟩ = some (.slice (some a) n ic) ∧ w'.cell? ⟨(a.add (k2 * 3)).block, (a.add (k2 * 3)).off + 1, none⟩ = some va ∧ w'.cell? ⟨(a.add (k2 * 3)).block, (a.add (k2 * 3)).off + 2, none⟩ = some vd) ((first | (refine ⟨?_, ?_, ?_⟩ <;> assumption) | go_keep)) ((first
        | ((with_reducible refine HC5.out.mono ?_)
           rintro e w6 ⟨v6, rfl, ho6, hg6⟩
           have hb6 := hg6.belowB HD5.out HZ5.out
           have g37 : w6.cell? ⟨w.heap.size, 37, none⟩ = some (.slice (some a) n ic) := (hb6.cell (p := ⟨w.heap.size, 37, none⟩) hlt0).trans f37
           have g1 : w6.cell? ⟨(a.add (k2 * 3)).block, (a.add (k2 * 3)).off + 1, none⟩ = some va := (hb6.cell (p := ⟨(a.add (k2 * 3)).block, (a.add (k2 * 3)).off + 1, none⟩) hab3).trans f1
           have g2 : w6.cell? ⟨(a.add (k2 * 3)).block, (a.add (k2 * 3)).off + 2, none⟩ = some vd := (hb6.cell (p := ⟨(a.add (k2 * 3)).block, (a.add (k2 * 3)).off + 2, none⟩) hab3).trans f2
           have HO6 := Lib.hid ho6
           have HB6 := Lib.hid hb6
           have HC6 := Lib.hid (refList_ w1.heap.size w1.heap.size v6 vd _ x.dat w6 HO6.out (Nat.le_trans HZ5.out HB6.out.size) (HVD.out.below HB6.out) (Nat.le_refl _) HFX.out.2 (by have h1 := HLN.out; have h2 := HEL.out; simp only [List.length_append, List.length_singleton]; omega))
           clear ho6 hg6 hb6)
        | ((with_reducible refine HC6.out.mono ?_)
           rintro e w7' ⟨v7', rfl, ho7', hg7'⟩
           have hb7' := hg7'.belowB HO6.out (Nat.le_trans HZ5.out HB6.out.size)
           have i37 : w7'.cell? ⟨w.heap.size, 37, none⟩ = some (.slice (some a) n ic) := (hb7'.cell (p := ⟨w.heap.size, 37, none⟩) hlt0).trans g37
           have i1 : w7'.cell? ⟨(a.add (k2 * 3)).block, (a.add (k2 * 3)).off + 1, none⟩ = some va := (hb7'.cell (p := ⟨(a.add (k2 * 3)).block, (a.add (k2 * 3)).off + 1, none⟩) hab3).trans g1
           have i2 : w7'.cell? ⟨(a.add (k2 * 3)).block, (a.add (k2 * 3)).off + 2, none⟩ = some vd := (hb7'.cell (p := ⟨(a.add (k2 * 3)).block, (a.add (k2 * 3)).off + 2, none⟩) hab3).trans g2
           have HO7' := Lib.hid ho7'
           have HB7' := Lib.hid hb7'
           clear ho7' hg7' hb7')))
      clear HC5 HC6 HD5 HVA HVD
      go_wp2_with fail
      go_roundw
      case rel =>
        refine ⟨k2 + 1, by omega, by go_num, ?_, HB5.out.trans (((Below.refl _ _).drew.trans HB6.out).trans HB7'.out)⟩
        have := HO7'.out
        rw [flatMap_take_succ encIn HX.out, ← List.append_assoc, HYS.out]
        simpa only [encIn, List.append_assoc, List.singleton_append, List.cons_append, List.nil_append] using this
      case measure => simp [intOf]; omega
    · have hok : OwnB wr w1.heap.size u4 (encHead m ++ short kn ++ m.keys.flatten ++ m.recent ++ short n ++ m.ins.flatMap encIn) := by
        have := HOR.out
        rwa [List.take_of_length_le (by have h1 := HM1.out.ins.len; dsimp only at h1; omega)] at this
      have HOK := Lib.hid hok
      have d0 := (HMR1.out.keep hlt0 HBR.out).c0
      rw [HV0.out] at d0
      clear hok HOR
      cases v0
      · go_wp2_with fail
        go_ret2
        refine ⟨_, rfl, ?_, HBW1.out.trans (HBR.out.mono (Nat.le_of_lt hlt0))⟩
        have ht : encTail m = [] := by unfold encTail; rw [HV0.out]; rfl
        rw [HE.out, ht, List.append_nil]
        exact HOK.out.less (Nat.le_of_lt hlt0)
      · have d38 := (HMR1.out.keep hlt0 HBR.out).c38
        dsimp only at d38
        go_wp2_with fail
        clear d0 d38 d37
        have hs9 := short_len3 ln
        have ht : encTail m = short m.looks.length ++ m.looks.flatMap encLook := by unfold encTail; rw [HV0.out]; rfl
        rw [HM1.out.looks.len] at ht
        dsimp only at ht
        have htl : (encTail m).length = (short ln).length + (m.looks.flatMap encLook).length := by rw [ht, List.length_append]
        have HTL := Lib.hid (And.intro ht (And.intro htl hs9))
        clear ht htl hs9
        refine (refShortB ln wr hfl).mono ?_
        rintro e w8 ⟨A8, c8, rfl, hown8, hb8⟩
        have hz8 := HBR.out.size
        have HB8 := Lib.hid (HBR.out.trans (hb8.mono hz8))
        have HO8 := Lib.hid (HOK.out.below hb8)
        have HS8 := Lib.hid hown8.sees
        clear hown8 hb8 HOK HBR hz8
        go_wp2_with (first
          | (at_builtin; with_reducible show wpList _ _ _ ({ dst := some 96, op := _, type := _, pos := _, after := _, guard := _ } :: _) _ _; go_must (refine wpList_addB rfl (.tmp 91) (.tmp 95) 34 rfl w1.heap.size Try.underlying34 info_u8 _ _ ?_ HO8.out _ _ _ c8 (short ln) ?_ HS8.out HB8.out.size (by obtain ⟨h1, h2, h3, h4, h5⟩ := HXL.out; obtain ⟨_, h6, h7⟩ := HTL.out; simp only [List.length_append]; omega) ?_; go_simp; go_simp; intro v9 w9 ho9 hg9; have HB9 := Lib.hid (HB8.out.trans (hg9.belowB HO8.out HB8.out.size)); have HO9 := Lib.hid ho9; clear ho9 hg9 HO8 HB8 HS8)))
        generalize hall : encHead m ++ short kn ++ m.keys.flatten ++ m.recent ++ short n ++ m.ins.flatMap encIn = all at *
        have HALL := Lib.hid hall
        clear hall
        go_loopw [4, 7] (fun v i wr => ∃ k : Nat, k ≤ ln ∧ i = .int .i64 k ∧ OwnB wr w1.heap.size v (all ++ short ln ++ (m.looks.take k).flatMap encLook) ∧ Below w1.heap.size w1 wr) (fun v i _ => ln - (intOf i).toNat)
        case atStart =>
          refine ⟨0, Nat.zero_le _, rfl, ?_, HB9.out⟩
          simpa only [List.take_zero, List.flatMap_nil, List.append_nil] using HO9.out
        case round =>
        clear HO9 HB9
        obtain ⟨k3, hk3, rfl, ho, hb⟩ := hrel
        have HOR := Lib.hid ho
        have HBR := Lib.hid hb
        have d38 := (HMR1.out.keep hlt0 hb).c38
        dsimp only at d38
        clear ho hb
        by_cases hlt3 : k3 < ln
        · obtain ⟨a, x, va, vd, rfl, hab, hx, hat⟩ := HM1.out.looks.get hlt3
          replace hat := hat.keep hab fun p hp => HBR.out.cell (Nat.lt_of_lt_of_le hp (Nat.le_trans hB (Nat.le_of_lt hlt0)))
          have hab1 : a.block < w1.heap.size := by omega
          have HX := Lib.hid hx
          have HAT := Lib.hid hat
          have HTS := Lib.hid (hat.sees (B := wr.heap.size) (by have := HBR.out.size; omega))
          have hln : (all ++ short ln ++ (m.looks.take k3).flatMap encLook).length + (encLook x).length ≤ 2000000000 := by
            obtain ⟨h1, h2, h3, h4, h5⟩ := HXL.out
            obtain ⟨_, h8, h9⟩ := HTL.out
            have h6 := flatMap_take_len encLook m.looks (k3 + 1)
            rw [flatMap_take_succ encLook hx] at h6
            rw [← HALL.out]
            simp only [List.length_append] at h6 ⊢
            omega
          have hel : (encLook x).length = 32 + ((encL x.wr).length + (encL x.rd).length) := by simp [encLook, hat.len]
          have hfx := HFI.out.2.2.2.2.2 x (List.mem_of_getElem? hx)
          generalize hys : all ++ short ln ++ (m.looks.take k3).flatMap encLook = ys at *
          have HYS := Lib.hid hys
          have HLN := Lib.hid hln
          have HEL := Lib.hid hel
          have HTB := Lib.hid hat.len
          clear hat hx hln hel hys
          go_upto_region 25 with (first
            | (at_builtin; with_reducible show wpList _ _ _ ({ dst := some 111, op := _, type := _, pos := _, after := _, guard := _ } :: _) _ _; go_must (refine wpList_addB rfl (.tmp 104) (.tmp 110) 34 rfl w1.heap.size Try.underlying34 info_u8 _ ys ?_ HOR.out _ _ 32 32 x.tab ?_ HTS.out HBR.out.size (by have q1 := HLN.out; have q2 := HTB.out; rw [List.length_append]; omega) ?_; go_simp; go_simp; intro v5 w5 ho5 hg5; have hb5 := hg5.belowB HOR.out HBR.out.size; have HAT5 := Lib.hid (HAT.out.keep hab fun p hp => hb5.cell (by omega)); have HB5 := Lib.hid (HBR.out.trans hb5); have HO5 := Lib.hid ho5; clear ho5 hg5 hb5 d38)))
          have f37 : w5.drew.cell? ⟨w.heap.size, 38, none⟩ = some (.slice (some a) ln lc) := (HMR1.out.keep hlt0 HB5.out).c38
          have f1 : w5.drew.cell? ⟨(a.add (k3 * 34)).block, (a.add (k3 * 34)).off + 32, none⟩ = some va := HAT5.out.cells 32 _ (by rw [List.getElem?_append_right (by rw [bv_length, HAT5.out.len]; omega), bv_length, HAT5.out.len]; rfl)
          have f2 : w5.drew.cell? ⟨(a.add (k3 * 34)).block, (a.add (k3 * 34)).off + 33, none⟩ = some vd := HAT5.out.cells 33 _ (by rw [List.getElem?_append_right (by rw [bv_length, HAT5.out.len]; omega), bv_length, HAT5.out.len]; rfl)
          have hki : (k3 : Int) < ln := by omega
          have hk0 : (0 : Int) ≤ k3 := by omega
          have hab3 : (a.add (k3 * 34)).block < w1.heap.size := by rw [addr_block]; exact hab1
          have HD5 := Lib.hid (show OwnB w5.drew w1.heap.size v5 (ys ++ x.tab) from HO5.out)
          have HVA := Lib.hid ((HAT5.out.keep (w' := w5.drew) hab fun p hp => rfl).wr.more (Nat.le_trans hB (Nat.le_of_lt hlt0)))
          have HVD := Lib.hid ((HAT5.out.keep (w' := w5.drew) hab fun p hp => rfl).rd.more (Nat.le_trans hB (Nat.le_of_lt hlt0)))
          have HZ5 := Lib.hid (show w1.heap.size ≤ w5.drew.heap.size from HB5.out.size)
          have HFX := Lib.hid hfx
          clear hfx
          have HC5 := Lib.hid (refList_ w1.heap.size w1.heap.size v5 va (ys ++ x.tab) x.wr w5.drew HD5.out HZ5.out HVA.out (Nat.le_refl _) HFX.out.1 (by have h1 := HLN.out; have h2 := HEL.out; have h3 := HTB.out; rw [List.length_append]; omega))
          go_region_held2 (fun w' => w'.cell? ⟨w.heap.size, 38, none⟩ = some (.slice (some a) ln lc) ∧ w'.cell? ⟨(a.add (k3 * 34)).block, (a.add (k3 * 34)).off + 32, none⟩ = some va ∧ w'.cell? ⟨(a.add (k3 * 34)).block, (a.add (k3 * 34)).off + 33, none⟩ = some vd) ((first | (refine ⟨?_, ?_, ?_⟩ <;> assumption) | go_keep)) ((first
            | ((with_reducible refine HC5.out.mono ?_)
               rintro e w6 ⟨v6, rfl, ho6, hg6⟩
               have hb6 := hg6.belowB HD5.out HZ5.out
               have g37 : w6.cell? ⟨w.heap.size, 38, none⟩ = some (.slice (some a) ln lc) := (hb6.cell (p := ⟨w.heap.size, 38, none⟩) hlt0).trans f37
               have g1 : w6.cell? ⟨(a.add (k3 * 34)).block, (a.add (k3 * 34)).off + 32, none⟩ = some va := (hb6.cell (p := ⟨(a.add (k3 * 34)).block, (a.add (k3 * 34)).off + 32, none⟩) hab3).trans f1
               have g2 : w6.cell? ⟨(a.add (k3 * 34)).block, (a.add (k3 * 34)).off + 33, none⟩ = some vd := (hb6.cell (p := ⟨(a.add (k3 * 34)).block, (a.add (k3 * 34)).off + 33, none⟩) hab3).trans f2
               have HO6 := Lib.hid ho6
               have HB6 := Lib.hid hb6
               have HC6 := Lib.hid (refList_ w1.heap.size w1.heap.size v6 vd _ x.rd w6 HO6.out (Nat.le_trans HZ5.out HB6.out.size) (HVD.out.below HB6.out) (Nat.le_refl _) HFX.out.2 (by have h1 := HLN.out; have h2 := HEL.out; have h3 := HTB.out; simp only [List.length_append]; omega))
               clear ho6 hg6 hb6)
            | ((with_reducible refine HC6.out.mono ?_)
               rintro e w7' ⟨v7', rfl, ho7', hg7'⟩
               have hb7' := hg7'.belowB HO6.out (Nat.le_trans HZ5.out HB6.out.size)
               have i37 : w7'.cell? ⟨w.heap.size, 38, none⟩ = some (.slice (some a) ln lc) := (hb7'.cell (p := ⟨w.heap.size, 38, none⟩) hlt0).trans g37
               have i1 : w7'.cell? ⟨(a.add (k3 * 34)).block, (a.add (k3 * 34)).off + 32, none⟩ = some va := (hb7'.cell (p := ⟨(a.add (k3 * 34)).block, (a.add (k3 * 34)).off + 32, none⟩) hab3).trans g1
               have i2 : w7'.cell? ⟨(a.add (k3 * 34)).block, (a.add (k3 * 34)).off + 33, none⟩ = some vd := (hb7'.cell (p := ⟨(a.add (k3 * 34)).block, (a.add (k3 * 34)).off + 33, none⟩) hab3).trans g2
               have HO7' := Lib.hid ho7'
               have HB7' := Lib.hid hb7'
               clear ho7' hg7' hb7')))
          clear HC5 HC6 HD5 HVA HVD
          go_wp2_with fail
          go_roundw
          case rel =>
            refine ⟨k3 + 1, by omega, by go_num, ?_, HB5.out.trans (((Below.refl _ _).drew.trans HB6.out).trans HB7'.out)⟩
            have := HO7'.out
            rw [flatMap_take_succ encLook HX.out, ← List.append_assoc, HYS.out]
            simpa only [encLook, List.append_assoc] using this
          case measure => simp [intOf]; omega
        · have hok : OwnB wr w1.heap.size u4 (all ++ short ln ++ m.looks.flatMap encLook) := by
            have := HOR.out
            rwa [List.take_of_length_le (by have h1 := HM1.out.looks.len; dsimp only at h1; omega)] at this
          have HOK := Lib.hid hok
          clear hok HOR
          go_wp2_with fail
          go_ret2
          refine ⟨_, rfl, ?_, HBW1.out.trans (HBR.out.mono (Nat.le_of_lt hlt0))⟩
          rw [HE.out, HTL.out.1, ← List.append_assoc]
          exact HOK.out.less (Nat.le_of_lt hlt0)

/-- what may not be put -/
theorem refPut_no (q : Raw) (m : LMsg) (B : Nat) (w : World) (hm : MsgIn w B q m) (hB : B ≤ w.heap.size) (hf : ¬ Fits m) :
    Calls Try.prog 12 #[.agg (q.cells m).toArray] w fun e w' => e = .returned (.tuple #[.slice none 0 0, .int .i64 1]) ∧ Below w.heap.size w w' := by
  obtain ⟨KA, kn, kc, IA, n, ic, LA, ln, lc⟩ := q
  have hrow := Row.new w 30 (Raw.cells ⟨KA, kn, kc, IA, n, ic, LA, ln, lc⟩ m)
  have hb0 := (Below.refl w.heap.size w).alloc (Nat.le_refl _) (.cells (Raw.cells ⟨KA, kn, kc, IA, n, ic, LA, ln, lc⟩ m).toArray 30)
  have hlen := cells_len (q := ⟨KA, kn, kc, IA, n, ic, LA, ln, lc⟩) hm.recent
  have HF := Lib.hid (may_ ⟨KA, kn, kc, IA, n, ic, LA, ln, lc⟩ m B _ (hm.alloc hB (.cells (Raw.cells ⟨KA, kn, kc, IA, n, ic, LA, ln, lc⟩ m).toArray 30)) (Nat.le_trans hB hb0.size))
  obtain ⟨cs, hcs⟩ : ∃ cs, cs = Raw.cells ⟨KA, kn, kc, IA, n, ic, LA, ln, lc⟩ m := ⟨_, rfl⟩
  rw [← hcs] at hrow hb0 hlen HF ⊢
  clear hcs
  have HSZ := Lib.hid (show (Try.prog.info? 30).map (·.size) = some cs.length by rw [size_msg, hlen])
  have HROW := Lib.hid hrow
  have HB0 := Lib.hid hb0
  have HNF := Lib.hid hf
  clear hlen hm hb0 hrow hf
  go_enter Try.func12, Try.ntmps12
  go_wp2_with (first
    | (with_reducible show wpList _ _ _ ({ dst := some 8, op := Op.load _ _, type := _, pos := _, after := _, guard := _ } :: _) _ _; go_must (refine wpList_load_whole rfl 30 (.tmp 1) rfl w.heap.size 30 cs _ Try.underlying30 rfl HSZ.out HROW.out ?_ ?_; go_simp)))
  refine HF.out.mono ?_
  rintro e w1 ⟨⟨b, rfl, hb⟩, hb1⟩
  obtain rfl : b = false := by
    cases b
    · rfl
    · exact absurd (hb.1 rfl) HNF.out
  clear hb
  go_wp2_with fail
  go_ret2
  exact ⟨rfl, HB0.out.trans (hb1.mono HB0.out.size)⟩
end Go.Proofs.Ytidggfbjmmjmfaa
