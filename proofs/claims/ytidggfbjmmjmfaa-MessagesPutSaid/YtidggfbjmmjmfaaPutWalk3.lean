/-
  MessagesPut: the walk.
-/
import Derived.Test.YtidggfbjmmjmfaaLeftMsg
import Derived.Test.YtidggfbjmmjmfaaBookMsg
import Derived.Test.YtidggfbjmmjmfaaLives3
import Derived.Test.YtidggfbjmmjmfaaRefPutMsg
import Derived.Test.YtidggfbjmmjmfaaGreat
namespace Go.Proofs.Ytidggfbjmmjmfaa
open Go.RowKit
set_option linter.unusedVariables false

/-- what Put answers: a list of its own -/
def PutAny (w : World) (ys : List Int) (ev : Int) (e : Ending) (w' : World) : Prop :=
  ∃ x : Sl, e = .returned (.tuple #[x.val, .int .i64 ev]) ∧ Sees w' w'.heap.size (x.A.map fun g => ⟨g, 0, none⟩) x.n (bv ys) ∧ SlFit w' (x, false) ∧ (∀ g, x.A = some g → w.heap.size ≤ g ∧ g < w'.heap.size) ∧ Below w.heap.size w w'
/-- what the reference's Put answers -/
def RefAny (w : World) (ys : List Int) (ev : Int) (e : Ending) (w' : World) : Prop :=
  ∃ A n c, e = .returned (.tuple #[.slice A n c, .int .i64 ev]) ∧ Sees w' w'.heap.size A n (bv ys) ∧ Below w.heap.size w w'

theorem both_put (m : LMsg) (hl : (enc m).length ≤ 1000000) : ∃ (ys : List Int) (ev : Int), ys.length ≤ 1000000 ∧
    (∀ q B w, MsgIn w B q m → B ≤ w.heap.size → Calls Try.prog 11 #[.agg (q.cells m).toArray] w (PutAny w ys ev)) ∧
    (∀ q B w, MsgIn w B q m → B ≤ w.heap.size → Calls Try.prog 12 #[.agg (q.cells m).toArray] w (RefAny w ys ev)) := by
  have hnil : ∀ w : World, Sees w w.heap.size none 0 (bv []) := fun w => ⟨rfl, fun i u hu => by simp [bv, cv] at hu⟩
  by_cases hf : Fits m
  · refine ⟨enc m, 0, hl, fun q B w hm hB => (put_ok q m B w hm hB hf (by omega)).mono ?_, fun q B w hm hB => (refPut_ok q m B w hm hB hf (by omega)).mono ?_⟩
    · rintro e w' ⟨g, rest, rfl, hg, hr, hb⟩
      refine ⟨⟨some g, (enc m).length, (enc m).length⟩, rfl, hr.sees_at (o := 0) (bv_length _) (fun j u hu => by rw [Nat.zero_add, List.getElem?_append_left (List.getElem?_eq_some_iff.1 hu).1]; exact hu), ⟨Nat.le_refl _, by show (enc m).length ≤ _; omega, _, hr, by rw [List.length_append, bv_length]; simp [esz], fun h => by cases h⟩, fun g' hg' => ?_, hb⟩
      cases hg'
      exact ⟨hg, hr.lt⟩
    · rintro e w' ⟨v, rfl, ho, hb⟩
      obtain ⟨A, c, rfl⟩ := ho.form
      exact ⟨A, _, c, rfl, ho.sees, hb⟩
  · refine ⟨[], 1, by simp, fun q B w hm hB => (put_no q m B w hm hB hf).mono ?_, fun q B w hm hB => (refPut_no q m B w hm hB hf).mono ?_⟩
    · rintro e w' ⟨rfl, hb⟩
      exact ⟨⟨none, 0, 0⟩, rfl, hnil _, ⟨rfl, rfl⟩, (fun g hg => by cases hg), hb⟩
    · rintro e w' ⟨rfl, hb⟩
      exact ⟨none, 0, 0, rfl, hnil _, hb⟩

set_option maxRecDepth 100000 in
set_option maxHeartbeats 4000000 in
theorem put_walk3 (q : Raw) (m : LMsg) (w : World) (hm : MsgIn w w.heap.size q m) (hs : Sized m) :
    Calls Try.prog 3 #[.agg (q.cells m).toArray] w fun e w' => e = .returned (.bool true) ∧ Below w.heap.size w w' := by
  have hrow := Row.new w 30 (q.cells m)
  have hb0 := (Below.refl w.heap.size w).alloc (Nat.le_refl _) (.cells (q.cells m).toArray 30)
  have hm0 := hm.below hb0
  have HG := Lib.hid (great_ q m w.heap.size _ hm0 hb0.size hs)
  have HSM := Lib.hid (show (Try.prog.info? 30).map (·.size) = some (q.cells m).length by rw [size_msg, cells_len hm.recent])
  have HROW := Lib.hid hrow
  have HM0 := Lib.hid hm0
  have HB0 := Lib.hid hb0
  have H32 := Lib.hid hm.recent
  clear hrow hb0 hm0 hm hs
  go_enter Try.func3, Try.ntmps3
  go_wp2_with ((with_reducible show wpList _ _ _ ({ dst := some 9, op := Op.load _ _, type := _, pos := _, after := _, guard := _ } :: _) _ _); go_must (refine wpList_load_whole rfl 30 (.tmp 1) rfl w.heap.size 30 (q.cells m) _ Try.underlying30 rfl HSM.out HROW.out ?_ ?_; go_simp))
  refine HG.out.mono ?_
  rintro e w1 ⟨⟨b, rfl, hgr⟩, hb1⟩
  cases b
  rotate_left
  · have hbw := HB0.out.trans (hb1.mono HB0.out.size)
    have HBW := Lib.hid hbw
    clear hbw hb1 hgr
    go_wp2_with fail
    refine (lives3 _).mono ?_
    rintro e w2 ⟨rfl, hb2⟩
    go_wp2_with fail
    go_ret
    exact ⟨rfl, HBW.out.trans (hb2.mono HBW.out.size)⟩
  have ht := hgr rfl
  have hsz : m.keys.length ≤ 65535 ∧ m.ins.length ≤ 65535 ∧ m.looks.length ≤ 65535 := by unfold total at ht; omega
  have hix : ∀ i ∈ m.ins, i.acc.length ≤ 65535 ∧ i.dat.length ≤ 65535 := fun i hi => by have := size_mem hi; unfold total at ht; omega
  have hlx : ∀ l ∈ m.looks, l.wr.length ≤ 65535 ∧ l.rd.length ≤ 65535 := fun l hl => by have := lsize_mem hl; unfold total at ht; omega
  have HR1 := Lib.hid (HROW.out.below hb1 HROW.out.lt)
  have HB1 := Lib.hid (HB0.out.trans (hb1.mono HB0.out.size))
  have HM1 := Lib.hid (HM0.out.below (hb1.mono HB0.out.size))
  have hle := enc_le HM1.out ht
  obtain ⟨ys, ev, hys, hput, href⟩ := both_put m hle
  have HT := Lib.hid (twinMessage q m w.heap.size w1 HM1.out HB1.out.size hsz.1 hsz.2.1 hsz.2.2 hix hlx)
  have HSZ := Lib.hid hsz
  have HXX := Lib.hid (And.intro hix hlx)
  have HPUT := Lib.hid (And.intro hput href)
  have HY := Lib.hid hys
  clear hgr ht hsz hix hlx hle hput href hys hb1 HG HM0
  go_wp2_with ((with_reducible show wpList _ _ _ ({ dst := some 12, op := Op.load _ _, type := _, pos := _, after := _, guard := _ } :: _) _ _); go_must (refine wpList_load_whole rfl 30 (.tmp 1) rfl w.heap.size 30 (q.cells m) _ Try.underlying30 rfl HSM.out HR1.out ?_ ?_; go_simp))
  refine HT.out.mono ?_
  rintro e w2 hdone
  obtain ⟨q2, gk, rfl, hgk, hv, htw, hb2⟩ := hdone.parts H32.out HSZ.out
  have HV := Lib.hid hv
  have HTW := Lib.hid htw
  have HGK := Lib.hid hgk
  have B2 := Lib.hid hb2
  have HSM2 := Lib.hid (show (Try.prog.info? 30).map (·.size) = some (q2.cells m).length by rw [size_msg, cells_len hv.recent])
  have HL39 := Lib.hid (cells_len (q := q2) hv.recent)
  clear hdone hv htw hgk hb2 HT
  go_wp2_with (first
    | ((with_reducible show wpList _ _ _ ({ dst := none, op := Op.store 30 _ _, type := _, pos := _, after := _, guard := _ } :: _) _ _); go_must (refine wpList_store_new rfl 30 (.tmp 3) (.tmp 13) rfl (q2.cells m) HSM2.out cells_one (by rw [HL39.out]; rfl) ?_ ?_ ?_; go_simp; go_simp; intro w3 hr3 hb3 hz3; have R3 := Lib.hid hr3; have B3 := Lib.hid hb3; have Z3 := Lib.hid hz3; clear hr3 hb3 hz3))
    | ((with_reducible show wpList _ _ _ ({ dst := some 15, op := Op.load _ _, type := _, pos := _, after := _, guard := _ } :: _) _ _); go_must (refine wpList_load_whole rfl 30 (.tmp 3) rfl w2.heap.size 30 (q2.cells m) _ Try.underlying30 rfl HSM2.out R3.out ?_ ?_; go_simp)))
  refine (HPUT.out.1 q2 w2.heap.size w3 (HV.out.in_.below B3.out) B3.out.size).mono ?_
  rintro e w4 ⟨⟨xa, xn, xc⟩, rfl, hse, hfit, hxg, hb4⟩
  have HSE := Lib.hid hse
  have HFIT := Lib.hid hfit
  have HXG := Lib.hid hxg
  have B4 := Lib.hid hb4
  have B02 : Hid (Below w.heap.size w w2) := Lib.hid (HB1.out.trans (B2.out.mono HB1.out.size))
  have B24 : Hid (Below w2.heap.size w2 w4) := Lib.hid (B3.out.trans (B4.out.mono B3.out.size))
  have B04 : Hid (Below w.heap.size w w4) := Lib.hid (B02.out.trans (B24.out.mono B02.out.size))
  have R14 : Hid (Row w4 w.heap.size 30 (q.cells m)) := Lib.hid ((HR1.out.below B2.out HR1.out.lt).below B24.out (HR1.out.below B2.out HR1.out.lt).lt)
  have R24 : Hid (Row w4 w2.heap.size 30 (q2.cells m)) := Lib.hid (R3.out.below B4.out R3.out.lt)
  have M4 : Hid (MsgIn w4 w.heap.size q m) := Lib.hid ((HM1.out.below (B2.out.mono HB1.out.size)).below (B24.out.mono B02.out.size))
  have T4 : Hid (TwIn w4 q2 m) := Lib.hid (HTW.out.below B24.out)
  clear hse hfit hxg hb4 HR1 R3 HM1 HTW HROW
  go_wp2_with ((with_reducible show wpList _ _ _ ({ dst := some 20, op := Op.load _ _, type := _, pos := _, after := _, guard := _ } :: _) _ _); go_must (refine wpList_load_whole rfl 30 (.tmp 1) rfl w.heap.size 30 (q.cells m) _ Try.underlying30 rfl HSM.out R14.out ?_ ?_; go_simp))
  refine (HPUT.out.2 q w.heap.size w4 M4.out B04.out.size).mono ?_
  rintro e w5 ⟨YA, yn, yc, rfl, hse, hb5⟩
  have hxn : ys.length = xn := by have := HSE.out.len; rwa [bv_length] at this
  have hyn : ys.length = yn := by have := hse.len; rwa [bv_length] at this
  have HSB := Lib.hid (same_yes3 _ YA xn yn xc yc ys w5 w4.heap.size w5.heap.size (HSE.out.below hb5) hse (by have := HY.out; unfold maxLen; omega) (by have := HY.out; unfold maxLen; omega))
  have B5 := Lib.hid hb5
  clear hse hxn hyn hb5
  go_wp2_with fail
  refine HSB.out.mono ?_
  rintro e w6 ⟨rfl, k6, rfl⟩
  have B56 : Hid (Below w4.heap.size w4 (w5.drewN k6)) := Lib.hid (below_drewN B5.out k6)
  have R16 : Hid (Row (w5.drewN k6) w.heap.size 30 (q.cells m)) := Lib.hid (R14.out.below B56.out R14.out.lt)
  have R26 : Hid (Row (w5.drewN k6) w2.heap.size 30 (q2.cells m)) := Lib.hid (R24.out.below B56.out R24.out.lt)
  have M6 : Hid (MsgIn (w5.drewN k6) w.heap.size q m) := Lib.hid (M4.out.below (B56.out.mono B04.out.size))
  have T6 : Hid (TwIn (w5.drewN k6) q2 m) := Lib.hid (T4.out.below B56.out)
  generalize w5.drewN k6 = w6 at *
  clear HSB R14 R24 M4 T4 B5
  go_wp2_with (first
    | ((with_reducible show wpList _ _ _ ({ dst := some 34, op := Op.load _ _, type := _, pos := _, after := _, guard := _ } :: _) _ _); go_must (refine wpList_load_atg (by kernel_rfl) 30 (.tmp 3) rfl ⟨w2.heap.size, 0, none⟩ (q2.cells m) _ Try.underlying30 rfl HSM2.out (fun j v hv => by rw [addr_row, R26.out.cell]; simpa using hv) ?_ ?_; go_simp))
    | ((with_reducible show wpList _ _ _ ({ dst := some 35, op := Op.load _ _, type := _, pos := _, after := _, guard := _ } :: _) _ _); go_must (refine wpList_load_atg (by kernel_rfl) 30 (.tmp 1) rfl ⟨w.heap.size, 0, none⟩ (q.cells m) _ Try.underlying30 rfl HSM.out (fun j v hv => by rw [addr_row, R16.out.cell]; simpa using hv) ?_ ?_; go_simp)))
  refine (leftMsg q q2 m w.heap.size w6 T6.out M6.out (Nat.le_trans B04.out.size B56.out.size) HSZ.out.1 HSZ.out.2.1 HSZ.out.2.2 HXX.out.1 HXX.out.2).mono ?_
  rintro e W ⟨rfl, hb7⟩
  have B4W : Hid (Below w4.heap.size w4 W) := Lib.hid (B56.out.trans (hb7.mono B56.out.size))
  have B27 : Hid (Below w2.heap.size w2 W) := Lib.hid (B24.out.trans (B4W.out.mono B24.out.size))
  have B07 : Hid (Below w.heap.size w W) := Lib.hid (B02.out.trans (B27.out.mono B02.out.size))
  have R27 : Hid (Row W w2.heap.size 30 (q2.cells m)) := Lib.hid (R26.out.below hb7 R26.out.lt)
  clear hb7 R16 R26 M6 T6
  go_upto_region 9 with fail
  obtain ⟨K, I, L, iv, lv, hpg⟩ := HV.out.pages
  have HPG := Lib.hid hpg
  have hsh := HV.out.short
  have HK0 := Lib.hid (Bk.new W)
  have BW0 : Hid (Below W.heap.size W (W.alloc (.cells #[.slice none 0 0] 42))) := Lib.hid ((Below.refl _ _).alloc (Nat.le_refl _) _)
  have R37 : Hid (Row (W.alloc (.cells #[.slice none 0 0] 42)) w2.heap.size 30 (q2.cells m)) := Lib.hid (R27.out.alloc _)
  have B20 : Hid (Below w2.heap.size w2 (W.alloc (.cells #[.slice none 0 0] 42))) := Lib.hid (B27.out.trans (BW0.out.mono B27.out.size))
  have B40 : Hid (Below w4.heap.size w4 (W.alloc (.cells #[.slice none 0 0] 42))) := Lib.hid (B4W.out.trans (BW0.out.mono B4W.out.size))
  have HNE : Hid (w2.heap.size ≤ W.heap.size ∧ w2.heap.size < W.heap.size ∧ w4.heap.size ≤ W.heap.size ∧ w.heap.size ≤ W.heap.size ∧ w2.heap.size < w3.heap.size ∧ w.heap.size ≤ w1.heap.size) := Lib.hid ⟨B27.out.size, R27.out.lt, B4W.out.size, B07.out.size, by have := Z3.out; omega, HB1.out.size⟩
  clear hpg R27
  generalize hW0 : W.alloc (.cells #[.slice none 0 0] 42) = W0 at *
  go_wp2_with (((with_reducible show wpList _ _ _ ({ dst := some _, op := Op.load 30 _, type := _, pos := _, after := _, guard := _ } :: _) _ _); go_must (refine wpList_load_whole rfl 30 (.tmp 3) rfl w2.heap.size 30 (q2.cells m) _ Try.underlying30 rfl HSM2.out R37.out ?_ ?_; go_simp)))
  refine (bookMessage W.heap.size W.heap.size w2.heap.size [] (q2.cells m) K I L iv lv W0 W0 HK0.out (by rw [cells_4, HPG.out.k]) (by rw [cells_37 HV.out.recent, HPG.out.i]) (by rw [cells_38 HV.out.recent, HPG.out.l]) (HPG.out.ti.keep B20.out) (HPG.out.tl.keep B20.out) HNE.out.1 HNE.out.1 (by have h1 := HPG.out.n; simp; omega)).mono ?_
  rintro e w8 ⟨rfl, hb8⟩
  have HK8 := Lib.hid hb8
  clear hb8 HK0 R37
  go_wp2_with fail
  refine (bkBytes W.heap.size W.heap.size _ ⟨xa, xn, xc⟩ W0 w8 HK8.out (by have h1 := HPG.out.n; unfold pagesOf; simp [flat_len]; omega)).mono ?_
  rintro e w9 ⟨rfl, hb9⟩
  have HK9 := Lib.hid hb9
  clear hb9 HK8
  go_wp2_with fail
  refine (apartBk W.heap.size W.heap.size w.heap.size _ W0 w9 HK9.out ?_ ?_ ?_ ?_).mono ?_
  · intro y hy
    rcases List.mem_append.1 hy with hy | hy
    · rw [List.nil_append] at hy
      refine (HPG.out.fits y hy).keep fun g hg => ?_
      have := HPG.out.low g (List.mem_filterMap.2 ⟨y, hy, hg⟩)
      exact B20.out.block g this.2
    · obtain rfl : y = _ := List.mem_singleton.1 hy
      exact HFIT.out.keep fun g hg => B40.out.block g (HXG.out g hg).2
  · rw [blocks_app, List.nil_append]
    refine pair_app (m := w2.heap.size) HPG.out.rise (pair_one _) (fun g hg => (HPG.out.low g hg).2) fun g hg => ?_
    have h1 := HXG.out g (blocks_one _ g hg)
    have := HNE.out
    omega
  · intro g hg
    rw [blocks_app, List.nil_append] at hg
    have h2 := HNE.out
    have h3 := HGK.out
    rcases List.mem_append.1 hg with hg | hg
    · have := HPG.out.low g hg
      omega
    · have := HXG.out g (blocks_one _ g hg)
      have := B02.out.size
      omega
  · have := HK9.out.one.size
    have := BW0.out.size
    have := HNE.out
    omega
  rintro e w10 ⟨rfl, hb10⟩
  have B010 : Hid (Below w.heap.size w w10) := Lib.hid (((B07.out.trans (BW0.out.mono HNE.out.2.2.2.1)).trans (HK9.out.one.below HNE.out.2.2.2.1 HNE.out.2.2.2.1)).trans hb10)
  clear hb10
  go_wp2_with fail
  refine (lives3 _).mono ?_
  rintro e w11 ⟨rfl, hb11⟩
  go_wp2_with fail
  go_ret
  exact ⟨rfl, B010.out.trans (hb11.mono B010.out.size)⟩
end Go.Proofs.Ytidggfbjmmjmfaa
