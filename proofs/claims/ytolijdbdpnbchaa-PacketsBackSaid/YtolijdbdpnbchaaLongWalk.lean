/-
  PacketsLong: the walk.
-/
import Derived.Test.YtolijdbdpnbchaaLives4
import Derived.Test.YtolijdbdpnbchaaGreat4
import Derived.Test.YtolijdbdpnbchaaSame3
namespace Go.Proofs.Ytolijdbdpnbchaa
open Go.RowKit
set_option linter.unusedVariables false

theorem wpList_tailg {P : Program} {w : World} {o : Oper} {a : Act} {ops : Array Oper} {rest : List Oper} {Q : Exit → Act → World → Prop} (hw : Region.wanted o (yielded ops a.tmps) = true) (t e : TypeId) (x i : Operand) (ho : o.op = .slice t x (some i) none none) (ht : P.underlying t = some (.slice e)) (hsz : (P.info? e).map (·.size) = some 1)
    (A : Option Addr) (n c k : Nat) (hx : a.eval x = .slice A n c) (hi : a.eval i = .int .i64 k) (hk : k ≤ n) (hn : n ≤ c) (hc : c ≤ maxLen)
    (h : wpList P ops Q rest (a.put o.dst (.slice (tailAt A c k) (n - k) (c - k))) w) : wpList P ops Q (o :: rest) a w :=
  BigFrame.wpList_want hw fun K hK => by
    unfold Oper.wp
    rw [run_tail t e x i ho ht hsz A n c k hx hi hk hn hc]
    exact hK _ _ h

/-- a short number of one byte -/
theorem short_one {n : Nat} (h : n ≤ 100) : (short (n : Int)).length = 1 := by
  rw [short_len]
  rw [if_pos (by omega)]

set_option maxRecDepth 100000 in
set_option maxHeartbeats 2000000 in
theorem long_walk (s : TRaw) (x : LTx) (w : World) (hm : TxIn w w.heap.size s x) (hs : Sized x.m) :
    Calls Try.prog 7 #[.agg (s.cells x).toArray] w fun e w' => e = .returned (.bool true) ∧ Below w.heap.size w w' := by
  obtain ⟨SA, sn, sc, q⟩ := s
  obtain rfl : x.sigs.length = sn := hm.sigs.len
  have hrow := Row.new w 33 (TRaw.cells ⟨SA, x.sigs.length, sc, q⟩ x)
  have hb0 := (Below.refl w.heap.size w).alloc (Nat.le_refl _) (.cells (TRaw.cells ⟨SA, x.sigs.length, sc, q⟩ x).toArray 33)
  have hm0 := hm.below hb0
  have HG := Lib.hid (great4 _ x w.heap.size _ hm0 hb0.size hs)
  have HTS := Lib.hid (show (Try.prog.info? 33).map (·.size) = some (TRaw.cells ⟨SA, x.sigs.length, sc, q⟩ x).length by rw [size_tx, tcells_len hm.m.recent])
  have HSM := Lib.hid (show (Try.prog.info? 31).map (·.size) = some (q.cells x.m).length by rw [size_msg, cells_len hm.m.recent])
  have HTM := Lib.hid (tcells_m (s := ⟨SA, x.sigs.length, sc, q⟩) (x := x))
  have HT0 := Lib.hid (show (TRaw.cells ⟨SA, x.sigs.length, sc, q⟩ x)[0]? = some (.slice SA x.sigs.length sc) from rfl)
  have HPT := Lib.hid (fun (w' : World) (h : TxIn w' w.heap.size ⟨SA, x.sigs.length, sc, q⟩ x) (hz : w.heap.size ≤ w'.heap.size) (h1 : x.sigs.length ≤ 65535) (h2 : (enc x.m).length ≤ 1000000) => putTx _ x w.heap.size w' h hz h1 h2)
  have HSC := Lib.hid (show x.sigs.length ≤ sc ∧ sc ≤ maxLen from hm.sn)
  dsimp only at HTM
  generalize TRaw.cells ⟨SA, x.sigs.length, sc, q⟩ x = tc at *
  have HROW := Lib.hid hrow
  have HM0 := Lib.hid hm0
  have HB0 := Lib.hid hb0
  clear hrow hb0 hm0 hm hs
  go_enter Try.func7, Try.ntmps7
  go_wp2_with ((with_reducible show wpList _ _ _ ({ dst := some 8, op := Op.load _ _, type := _, pos := _, after := _, guard := _ } :: _) _ _); go_must (refine wpList_load_whole rfl 33 (.tmp 1) rfl w.heap.size 33 tc _ Try.underlying33 rfl HTS.out HROW.out ?_ ?_; go_simp))
  refine HG.out.mono ?_
  rintro e w1 ⟨⟨b, rfl, hgr⟩, hb1⟩
  have HB1 := Lib.hid (HB0.out.trans (hb1.mono HB0.out.size))
  cases b
  rotate_left
  · clear hb1 hgr
    go_wp2_with fail
    refine (lives4 _).mono ?_
    rintro e w2 ⟨rfl, hb2⟩
    go_wp2_with fail
    go_ret
    exact ⟨rfl, HB1.out.trans (hb2.mono HB1.out.size)⟩
  obtain ⟨h100, h3000⟩ := hgr rfl
  have HR1 := Lib.hid (HROW.out.below hb1 HROW.out.lt)
  have HM1 := Lib.hid (HM0.out.below (hb1.mono HB0.out.size))
  have hle := enc_le HM1.out.m h3000
  have HLE := Lib.hid hle
  have hsc : x.sigs.length ≤ 9223372036854775807 := by omega
  obtain ⟨n, hn⟩ : ∃ n, n = x.sigs.length := ⟨_, rfl⟩
  rw [← hn] at HT0 HPT HSC h100 hsc HM1
  have HN := Lib.hid hn
  clear hgr hb1 HG HROW HM0 h3000 hle hn HB0
  go_wp2_with ((with_reducible show wpList _ _ _ ({ dst := some 13, op := Op.load _ _, type := _, pos := _, after := _, guard := _ } :: _) _ _); go_must (refine wpList_load_at rfl 31 (.tmp 12) rfl ⟨w.heap.size, 1, none⟩ (q.cells x.m) _ Try.underlying31 rfl HSM.out (fun j v hv => by rw [addr_row, HR1.out.cell, HTM.out]; exact hv) ?_ ?_; go_simp))
  by_cases hf : Fits x.m
  rotate_left
  · refine (put_no q x.m w.heap.size w1 HM1.out.m HB1.out.size hf).mono ?_
    rintro e w2 ⟨rfl, hb2⟩
    have HR2 := Lib.hid (HR1.out.below hb2 HR1.out.lt)
    have HM2 := Lib.hid (HM1.out.below (hb2.mono HB1.out.size))
    have HB2 := Lib.hid (HB1.out.trans (hb2.mono HB1.out.size))
    clear hb2
    go_wp2_with ((with_reducible show wpList _ _ _ ({ dst := some 18, op := Op.load _ _, type := _, pos := _, after := _, guard := _ } :: _) _ _); go_must (refine wpList_load_whole rfl 33 (.tmp 1) rfl w.heap.size 33 tc _ Try.underlying33 rfl HTS.out HR2.out ?_ ?_; go_simp))
    refine (HPT.out w2 HM2.out HB2.out.size (by omega) HLE.out).mono ?_
    rintro e w3 (⟨_, rfl, hb3⟩ | ⟨hf', _⟩ | ⟨hf', _⟩)
    · have HB3 := Lib.hid (HB2.out.trans (hb3.mono HB2.out.size))
      clear hb3
      go_wp2_with fail
      refine (lives4 _).mono ?_
      rintro e w4 ⟨rfl, hb4⟩
      go_wp2_with fail
      go_ret
      exact ⟨rfl, HB3.out.trans (hb4.mono HB3.out.size)⟩
    · exact absurd hf' hf
    · exact absurd hf' hf
  refine (put_ok q x.m w.heap.size w1 HM1.out.m HB1.out.size hf (by have := HLE.out; omega)).mono ?_
  rintro e w2 ⟨g, rest, rfl, hg, hr2, hb2⟩
  have HR2 := Lib.hid (HR1.out.below hb2 HR1.out.lt)
  have HM2 := Lib.hid (HM1.out.below (hb2.mono HB1.out.size))
  have HB2 := Lib.hid (HB1.out.trans (hb2.mono HB1.out.size))
  have HG2 := Lib.hid hr2
  have hlen := encTx_len (x := x) HM1.out.sigs.each
  rw [← HN.out] at hlen
  rw [short_one h100] at hlen
  have HLEN := Lib.hid hlen
  obtain ⟨N, hN⟩ : ∃ N, N = (enc x.m).length := ⟨_, rfl⟩
  have HNN := Lib.hid hN
  have hN1 : N ≤ 1000000 := by have := HLE.out; omega
  rw [← hN]
  clear hb2 hr2 hlen hN hg
  go_wp2_with ((with_reducible show wpList _ _ _ ({ dst := some 18, op := Op.load _ _, type := _, pos := _, after := _, guard := _ } :: _) _ _); go_must (refine wpList_load_whole rfl 33 (.tmp 1) rfl w.heap.size 33 tc _ Try.underlying33 rfl HTS.out HR2.out ?_ ?_; go_simp))
  refine (HPT.out w2 HM2.out HB2.out.size (by omega) HLE.out).mono ?_
  rintro e w3 (⟨hf', _⟩ | ⟨_, hbig, rfl, hb3⟩ | ⟨_, hbig, ⟨v, rfl, ho⟩, hb3⟩)
  · exact absurd hf hf'
  · have HB3 := Lib.hid (HB2.out.trans (hb3.mono HB2.out.size))
    have c0 : w3.cell? ⟨w.heap.size, 0, none⟩ = some (.slice SA n sc) := ((HR2.out.below hb3 HR2.out.lt).cell 0).trans HT0.out
    have hb : (1232 : Int) < 1 + 64 * n + N := by have := HLEN.out; have := HNN.out; omega
    clear hb3 hbig
    go_wp2_with fail
    refine (lives4 _).mono ?_
    rintro e w4 ⟨rfl, hb4⟩
    go_wp2_with fail
    go_ret
    exact ⟨rfl, HB3.out.trans (hb4.mono HB3.out.size)⟩
  · have HB3 := Lib.hid (HB2.out.trans (hb3.mono HB2.out.size))
    have c0 : w3.cell? ⟨w.heap.size, 0, none⟩ = some (.slice SA n sc) := ((HR2.out.below hb3 HR2.out.lt).cell 0).trans HT0.out
    have hb : ¬ (1232 : Int) < 1 + 64 * n + N := by have := HLEN.out; have := HNN.out; omega
    obtain ⟨A, c, rfl⟩ := ho.form
    have hcap := own_caps ho
    have hL : (encTx x).length = 1 + 64 * n + N := by have := HLEN.out; have := HNN.out; omega
    have hse := ho.sees
    rw [hL] at hcap hse ⊢
    have hk1 : 1 + 64 * n ≤ 1 + 64 * n + N := by omega
    have HSE := Lib.hid hse
    have HSG := Lib.hid (show Sees w3 w3.heap.size (some ⟨g, 0, none⟩) N (bv (enc x.m)) from (HG2.out.below hb3 HG2.out.lt).sees_at (o := 0) (by rw [bv_length, ← HNN.out]) (fun j u hu => by rw [Nat.zero_add, List.getElem?_append_left (List.getElem?_eq_some_iff.1 hu).1]; exact hu))
    have HCAP := Lib.hid hcap
    have HL := Lib.hid hL
    have hT : (1 : Int) + 64 * n + N - N = ((1 + 64 * n : Nat) : Int) := by omega
    have HT := Lib.hid hT
    have HST : Hid (Sees w3 w3.heap.size (tailAt A c (1 + 64 * n)) N (bv (enc x.m))) := Lib.hid (by
      have h1 := hse.tail hk1 hcap.1
      rw [show 1 + 64 * n + N - (1 + 64 * n) = N by omega] at h1
      have h2 : (bv (encTx x)).drop (1 + 64 * n) = bv (enc x.m) := by
        have h3 : encTx x = (short (x.sigs.length : Int) ++ x.sigs.flatten) ++ enc x.m := by unfold encTx; simp only [List.append_assoc]
        have h4 : (bv (short (x.sigs.length : Int) ++ x.sigs.flatten)).length = 1 + 64 * n := by
          rw [bv_length, List.length_append, flat64_len x.sigs HM1.out.sigs.each, ← HN.out, short_one h100]
          omega
        rw [h3, bv_append, List.drop_left' h4]
      rwa [h2] at h1)
    have hNc : ((1 + 64 * n + N : Nat) : Int) = 1 + 64 * n + N := by omega
    clear hb3 hbig hse hcap hL hT ho
    go_wp2_with (((with_reducible show wpList _ _ _ ({ dst := some 64, op := Op.slice _ _ _ _ _, type := _, pos := _, after := _, guard := _ } :: _) _ _); go_must (refine wpList_tailg (by kernel_rfl) 37 5 (.tmp 59) (.tmp 63) rfl Try.underlying37 size_u8 A (1 + 64 * n + N) c (1 + 64 * n) ?_ ?_ hk1 HCAP.out.1 HCAP.out.2 ?_; go_simp; go_simp; rw [show 1 + 64 * n + N - (1 + 64 * n) = N by omega])))
    refine (same_yes3 (tailAt A c (1 + 64 * n)) (some ⟨g, 0, none⟩) N N _ _ (enc x.m) w3 w3.heap.size w3.heap.size HST.out HSG.out (by unfold maxLen; omega) (by unfold maxLen; omega)).mono ?_
    rintro e w4 ⟨rfl, k, rfl⟩
    go_wp2_with fail
    refine (lives4 _).mono ?_
    rintro e w5 ⟨rfl, hb5⟩
    go_wp2_with fail
    go_ret
    have hb4 := below_drewN HB3.out k
    exact ⟨rfl, hb4.trans (hb5.mono hb4.size)⟩
end Go.Proofs.Ytolijdbdpnbchaa
