/-
  MessagesOnly: the walk.
-/
import Derived.Test.YtidggfbjmmjmfaaSameZero
import Derived.Test.YtidggfbjmmjmfaaLives3
import Derived.Test.YtidggfbjmmjmfaaPlain
import Derived.Test.YtidggfbjmmjmfaaIsIn
import Derived.Test.YtidggfbjmmjmfaaCameIn
namespace Go.Proofs.Ytidggfbjmmjmfaa
open Go.RowKit
set_option linter.unusedVariables false

theorem isByte_wf {z : Int} (h : (Lit.int .u8 z).wf = true) : IsByte z := by
  have := bounds_u8 h
  unfold IsByte
  omega

theorem enc_pos (m : LMsg) : 0 < (enc m).length := by
  have := enc_parts m
  have : 3 ≤ (encHead m).length := by unfold encHead; simp
  omega

set_option maxRecDepth 100000 in
set_option maxHeartbeats 2000000 in
theorem only_walk3 (A : Option Addr) (n c : Nat) (zs : List Int) (w : World) (hs : Sees w w.heap.size A n (bv zs)) (hnc : n ≤ c) (hc : c ≤ maxLen) (hz : AllBytes zs) :
    Calls Try.prog 6 #[.slice A n c] w fun e w' => e = .returned (.bool true) ∧ Below w.heap.size w w' := by
  have hn : zs.length = n := by have := hs.len; rwa [bv_length] at this
  have hmx := hc
  unfold maxLen at hmx
  by_cases h5 : 5000 < (n : Int)
  · go_enter Try.func6, Try.ntmps6
    go_wp2_with fail
    refine (lives3 _).mono ?_
    rintro e w2 ⟨rfl, hb2⟩
    go_wp2_with fail
    go_ret
    exact ⟨rfl, hb2⟩
  · have G := Lib.hid (get_ A n c w.heap.size zs w hs (Nat.le_refl _) hnc hc hz)
    have HS := Lib.hid hs
    clear hs
    go_enter Try.func6, Try.ntmps6
    go_wp2_with fail
    refine G.out.mono ?_
    rintro e w1 (⟨m, r, q, lo, hp, rfl, hlo, hv, hb1⟩ | ⟨x, hp, rfl, hb1⟩)
    · obtain ⟨hzs, hf, hwf⟩ := pMsg_got hz hp
      have hm := hv.in_
      have hle : zs.length = (enc m).length + r.length := by rw [hzs]; simp
      have hpos := enc_pos m
      obtain ⟨T, hT⟩ : ∃ T : Int, (zs.length : Int) - r.length = T := ⟨_, rfl⟩
      have hT2 : T = (enc m).length := by omega
      rw [hT]
      have HSM := Lib.hid (show (Try.prog.info? 30).map (·.size) = some (q.cells m).length by rw [size_msg, cells_len hm.recent])
      have HL39 := Lib.hid (cells_len (q := q) hm.recent)
      have HM := Lib.hid hm
      have HF := Lib.hid hf
      have HZS := Lib.hid hzs
      have HB1 := Lib.hid hb1
      have hT1 : 0 < T := by omega
      have hTn : T ≤ (n : Int) := by omega
      have HTE := Lib.hid hT2
      have HEN := Lib.hid (show (enc m).length ≤ 5000 by omega)
      have e1 : decide (0 < T) = true := by simpa using hT1
      have e2 : decide (T ≤ (n : Int)) = true := by simpa using hTn
      have hT6 : 0 ≤ T := by omega
      clear hm hf hwf hzs hb1 hv hp G hlo hle hpos hT hT2
      go_wp2_with (first
        | ((with_reducible show wpList _ _ _ ({ dst := none, op := Op.store 30 _ _, type := _, pos := _, after := _, guard := _ } :: _) _ _); go_must (refine wpList_store_new rfl 30 (.tmp 3) (.tmp 15) rfl (q.cells m) HSM.out cells_one (by rw [HL39.out]; rfl) ?_ ?_ ?_; go_simp; go_simp; intro w2 hr2 hb2 hz2; have HR2 := Lib.hid hr2; have HB2 := Lib.hid hb2; clear hr2 hb2))
        | ((with_reducible show wpList _ _ _ ({ dst := some 39, op := Op.load _ _, type := _, pos := _, after := _, guard := _ } :: _) _ _); go_must (refine wpList_load_whole rfl 30 (.tmp 3) rfl w1.heap.size 30 (q.cells m) _ Try.underlying30 rfl HSM.out HR2.out ?_ ?_; go_simp)))
      refine (put_ok q m w1.heap.size w2 (HM.out.below HB2.out) HB2.out.size HF.out (by have := HEN.out; omega)).mono ?_
      rintro e w3 ⟨g, rest, rfl, hg, hr3, hb3⟩
      have HR3 := Lib.hid hr3
      have HB3 := Lib.hid (HB1.out.trans (HB2.out.mono HB1.out.size))
      have HB4 := Lib.hid (HB3.out.trans (hb3.mono HB3.out.size))
      clear hb3 hr3
      go_wp2_with fail
      have hT3 : T.toNat = (enc m).length := by have := HTE.out; omega
      have hs3 := HS.out.below HB4.out
      have h1 : Sees w3 w3.heap.size (some ⟨g, 0, none⟩) (enc m).length (bv (enc m)) := HR3.out.sees_at (o := 0) (bv_length _) (fun j u hu => by rw [Nat.zero_add, List.getElem?_append_left (List.getElem?_eq_some_iff.1 hu).1]; exact hu)
      have h2 : Sees w3 w.heap.size A T.toNat (bv (enc m)) := by
        refine ⟨by rw [bv_length, hT3], fun i u hu => ?_⟩
        refine hs3.cell i u ?_
        rw [HZS.out, bv_append, List.getElem?_append_left (List.getElem?_eq_some_iff.1 hu).1]
        exact hu
      refine (same_yes3 _ _ _ _ _ _ (enc m) w3 _ _ h1 h2 (by have := HEN.out; unfold maxLen; omega) (by have := HEN.out; unfold maxLen; omega)).mono ?_
      rintro e w4 ⟨rfl, k, rfl⟩
      go_wp2_with fail
      refine (lives3 _).mono ?_
      rintro e w5 ⟨rfl, hb5⟩
      go_wp2_with fail
      go_ret
      have hb4 := below_drewN HB4.out k
      exact ⟨rfl, hb4.trans (hb5.mono hb4.size)⟩
    · have hx := pMsg_err hz hp
      have HB1 := Lib.hid hb1
      clear hb1 hp G
      rcases hx with rfl | rfl
      all_goals
        go_wp2_with (first
          | ((with_reducible show wpList _ _ _ ({ dst := none, op := Op.store 30 _ _, type := _, pos := _, after := _, guard := _ } :: _) _ _); go_must (refine wpList_store_new rfl 30 (.tmp 3) (.tmp 15) rfl mzero size_mz mzero_one rfl ?_ ?_ ?_; go_simp; go_simp; intro w2 hr2 hb2 hz2; have HR2 := Lib.hid hr2; have HB2 := Lib.hid hb2; clear hr2 hb2))
          | ((with_reducible show wpList _ _ _ ({ dst := some 23, op := Op.load _ _, type := _, pos := _, after := _, guard := _ } :: _) _ _); go_must (refine wpList_load_atg (by kernel_rfl) 30 (.tmp 3) rfl ⟨w1.heap.size, 0, none⟩ mzero _ Try.underlying30 rfl size_mz (fun j v hv => by rw [addr_row, HR2.out.cell]; simpa using hv) ?_ ?_; go_simp)))
        refine (same_zero _).mono ?_
        rintro e w3 ⟨rfl, hb3⟩
        have HB4 := Lib.hid (HB2.out.trans (hb3.mono HB2.out.size))
        clear hb3
        go_wp2_with fail
        refine (lives3 _).mono ?_
        rintro e w5 ⟨rfl, hb5⟩
        go_wp2_with fail
        go_ret
        exact ⟨rfl, (HB1.out.trans (HB4.out.mono HB1.out.size)).trans (hb5.mono (Nat.le_trans HB1.out.size HB4.out.size))⟩
end Go.Proofs.Ytidggfbjmmjmfaa
