/-
  PacketsOnly: the walk.
-/
import Derived.Test.YtolijdbdpnbchaaLongWalk
namespace Go.Proofs.Ytolijdbdpnbchaa
open Go.RowKit
set_option linter.unusedVariables false

theorem wTx_got {zs : List Int} (hz : AllBytes zs) {x : LTx} (h : wTx zs = .ok x) : zs = encTx x ∧ TFits x ∧ x.Wf ∧ zs.length ≤ 1232 := by
  unfold wTx at h
  split at h
  · cases h
  rename_i h1
  split at h
  · cases h
  rename_i y r e
  split at h
  · rename_i h2
    cases h
    obtain ⟨h3, h4, h5⟩ := pTx_got hz e
    rw [List.length_eq_zero_iff.1 h2, List.append_nil] at h3
    exact ⟨h3, h4, h5, by omega⟩
  · cases h
theorem wTx_err {zs : List Int} (hz : AllBytes zs) {c : Int} (h : wTx zs = .error c) : c = 3 ∨ c = 4 ∨ c = 5 := by
  unfold wTx at h
  split at h
  · cases h; exact .inl rfl
  split at h
  · rename_i e
    cases h
    exact .inr (pTx_err hz e)
  · split at h
    · cases h
    · cases h; exact .inr (.inl rfl)

set_option maxRecDepth 100000 in
set_option maxHeartbeats 2000000 in
theorem only4 (A : Option Addr) (n c : Nat) (zs : List Int) (w : World) (hs : Sees w w.heap.size A n (bv zs)) (hnc : n ≤ c) (hc : c ≤ maxLen) (hz : AllBytes zs) :
    Calls Try.prog 6 #[.slice A n c] w fun e w' => e = .returned (.bool true) ∧ Below w.heap.size w w' := by
  have hn : zs.length = n := by have := hs.len; rwa [bv_length] at this
  have hmx := hc
  unfold maxLen at hmx
  by_cases h5 : 5000 < (n : Int)
  · go_enter Try.func6, Try.ntmps6
    go_wp2_with fail
    refine (lives4 _).mono ?_
    rintro e w2 ⟨rfl, hb2⟩
    go_wp2_with fail
    go_ret
    exact ⟨rfl, hb2⟩
  have G := Lib.hid (whole_ A n c w.heap.size zs w hs (Nat.le_refl _) hnc hc hz)
  have HS := Lib.hid hs
  clear hs
  go_enter Try.func6, Try.ntmps6
  go_wp2_with fail
  refine G.out.mono ?_
  rintro e w1 (⟨x, s, lo, hp, rfl, hlo, hv, hb1⟩ | ⟨x, hp, rfl, hb1⟩)
  · obtain ⟨hzs, hf, hwf, h1232⟩ := wTx_got hz hp
    have hm := hv.in_
    have HTS := Lib.hid (show (Try.prog.info? 33).map (·.size) = some (TRaw.cells s x).length by rw [size_tx, tcells_len hm.m.recent])
    have HTL := Lib.hid (tcells_len (s := s) (x := x) hm.m.recent)
    have HTO := Lib.hid (tcells_one (s := s) (x := x))
    have hle : (enc x.m).length ≤ 1000000 := by
      have := congrArg List.length hzs
      rw [encTx_len hm.sigs.each] at this
      omega
    have HPT := Lib.hid (fun (w' : World) (h : TxIn w' w1.heap.size s x) (hz : w1.heap.size ≤ w'.heap.size) => putTx s x w1.heap.size w' h hz hf.1 hle)
    have HM := Lib.hid hm
    have HF := Lib.hid hf
    have HZS := Lib.hid hzs
    have HB1 := Lib.hid hb1
    have HS1 := Lib.hid (HS.out.below hb1)
    have HL := Lib.hid h1232
    have HN := Lib.hid hn
    generalize TRaw.cells s x = tc at *
    clear hm hf hwf hzs hb1 hv hp G hlo h1232 hle HS
    go_wp2_with (first
      | ((with_reducible show wpList _ _ _ ({ dst := none, op := Op.store 33 _ _, type := _, pos := _, after := _, guard := _ } :: _) _ _); go_must (refine wpList_store_new rfl 33 (.tmp 3) (.tmp 14) rfl tc HTS.out HTO.out (by rw [HTL.out]; rfl) ?_ ?_ ?_; go_simp; go_simp; intro w2 hr2 hb2 hz2; have HR2 := Lib.hid hr2; have HB2 := Lib.hid hb2; clear hr2 hb2 hz2))
      | ((with_reducible show wpList _ _ _ ({ dst := some 25, op := Op.load _ _, type := _, pos := _, after := _, guard := _ } :: _) _ _); go_must (refine wpList_load_whole rfl 33 (.tmp 3) rfl w1.heap.size 33 tc _ Try.underlying33 rfl HTS.out HR2.out ?_ ?_; go_simp)))
    refine (HPT.out w2 (HM.out.below HB2.out) HB2.out.size).mono ?_
    rintro e w3 (⟨hf', _⟩ | ⟨_, hbig, _⟩ | ⟨_, hbig, ⟨v, rfl, ho⟩, hb3⟩)
    · exact absurd HF.out.2 hf'
    · rw [← HZS.out] at hbig
      exact absurd HL.out (by omega)
    · rw [← HZS.out] at ho
      obtain ⟨A3, c3, rfl⟩ := ho.form
      have hse := ho.sees
      have h13 := HB1.out.trans ((HB2.out.trans (hb3.mono HB2.out.size)).mono HB1.out.size)
      have HS3 := Lib.hid (HS1.out.below ((HB2.out.trans (hb3.mono HB2.out.size)).mono HB1.out.size))
      have HB3 := Lib.hid h13
      have HSE := Lib.hid hse
      obtain ⟨N, hN⟩ : ∃ N, N = zs.length := ⟨_, rfl⟩
      have HNN := Lib.hid hN
      rw [← hN] at hse ⊢
      have HSE := Lib.hid hse
      clear ho hse hb3 h13 hbig hn hN
      go_wp2_with fail
      refine (same_yes3 A A3 n N c c3 zs w3 w.heap.size w3.heap.size HS3.out HSE.out (by omega) (by have := HNN.out; have := HN.out; unfold maxLen; omega)).mono ?_
      rintro e w4 ⟨rfl, k, rfl⟩
      go_wp2_with fail
      refine (lives4 _).mono ?_
      rintro e w5 ⟨rfl, hb5⟩
      go_wp2_with fail
      go_ret
      have hb4 := below_drewN HB3.out k
      exact ⟨rfl, hb4.trans (hb5.mono hb4.size)⟩
  · have hx := wTx_err hz hp
    have HB1 := Lib.hid hb1
    clear hb1 hp G
    rcases hx with rfl | rfl | rfl
    all_goals
      go_wp2_with (first
        | ((with_reducible show wpList _ _ _ ({ dst := none, op := Op.store 33 _ _, type := _, pos := _, after := _, guard := _ } :: _) _ _); go_must (refine wpList_store_new rfl 33 (.tmp 3) (.tmp 14) rfl tzero size_tz tzero_one rfl ?_ ?_ ?_; go_simp; go_simp; intro w2 hr2 hb2 hz2; have HR2 := Lib.hid hr2; have HB2 := Lib.hid hb2; clear hr2 hb2 hz2))
        | ((with_reducible show wpList _ _ _ ({ dst := some 18, op := Op.load _ _, type := _, pos := _, after := _, guard := _ } :: _) _ _); go_must (refine wpList_load_whole rfl 33 (.tmp 3) rfl w1.heap.size 33 tzero _ Try.underlying33 rfl size_tz HR2.out ?_ ?_; go_simp)))
      refine (same_tx zRaw zRaw zTx w2.heap.size w2.heap.size w2 (zTx_in _ _) (Nat.le_refl _) (zTx_in _ _) (Nat.le_refl _)).mono ?_
      rintro e w3 ⟨rfl, hb3⟩
      have HB3 := Lib.hid (HB1.out.trans ((HB2.out.trans (hb3.mono HB2.out.size)).mono HB1.out.size))
      clear hb3
      go_wp2_with fail
      refine (lives4 _).mono ?_
      rintro e w5 ⟨rfl, hb5⟩
      go_wp2_with fail
      go_ret
      exact ⟨rfl, HB3.out.trans (hb5.mono HB3.out.size)⟩
end Go.Proofs.Ytolijdbdpnbchaa
