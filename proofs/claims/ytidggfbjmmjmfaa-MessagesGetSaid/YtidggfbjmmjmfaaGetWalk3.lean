/-
  MessagesGet: the walk.
-/
import Derived.Test.YtidggfbjmmjmfaaBookMsg
import Derived.Test.YtidggfbjmmjmfaaRefGetMsg
import Derived.Test.YtidggfbjmmjmfaaSameMsg
import Derived.Test.YtidggfbjmmjmfaaOnly3
import Derived.Test.YtidggfbjmmjmfaaTwin
namespace Go.Proofs.Ytidggfbjmmjmfaa
open Go.RowKit
set_option linter.unusedVariables false

theorem row_part {w : World} {g t : Nat} {xs ys : List Value} (h : Row w g t (xs ++ ys)) {n : Nat} (hn : xs.length = n) : Sees w w.heap.size (some ⟨g, 0, none⟩) n xs :=
  ⟨hn, fun i u hu => ⟨_, rfl, h.lt, by
    rw [addr_row, h.cell, Nat.zero_add, List.getElem?_append_left (List.getElem?_eq_some_iff.1 hu).1]
    exact hu⟩⟩

theorem TwoAt.more {w : World} {B B' size o : Nat} {x : Sl} {f : Nat → Sl × Sl} (h : TwoAt w B size o x f) (hB : B ≤ B') : TwoAt w B' size o x f := fun i hi => by
  obtain ⟨g, h1, h2, h3, h4⟩ := h i hi
  exact ⟨g, h1, by omega, h3, h4⟩

/-- a book that has just been laid -/
theorem Bk.new (w : World) : Bk (w.alloc (.cells #[.slice none 0 0] 42)) w.heap.size w.heap.size [] (w.alloc (.cells #[.slice none 0 0] 42)) := by
  refine ⟨[], none, 0, rfl, by simp, ?_⟩
  exact ⟨Row.new w 42 [.slice none 0 0], World.ownsRow_nil _ _ _ _, ButOne.refl _ _ _, by simp, fun _ _ _ _ => rfl⟩

/-- a message of the call's own, page by page -/
structure MsgPages (w : World) (lo hi : Nat) (q : Raw) (m : LMsg) (K I L : Sl) (iv lv : Nat → Sl × Sl) : Prop where
  k : Value.slice q.KA q.kn q.kc = K.val
  i : Value.slice q.IA q.n q.ic = I.val
  l : Value.slice q.LA q.ln q.lc = L.val
  ti : TwoAt w hi 3 1 I iv
  tl : TwoAt w hi 34 32 L lv
  fits : ∀ y ∈ pagesOf K iv I.n lv L.n, SlFit w y
  rise : (blocks (pagesOf K iv I.n lv L.n)).Pairwise (· < ·)
  low : ∀ g ∈ blocks (pagesOf K iv I.n lv L.n), lo ≤ g ∧ g < hi
  n : I.n = m.ins.length ∧ L.n = m.looks.length

theorem MsgV.pages {w : World} {lo hi : Nat} {q : Raw} {m : LMsg} (h : MsgV w lo hi q m) : ∃ K I L iv lv, MsgPages w lo hi q m K I L iv lv := by
  obtain ⟨a1, b1, a2, b2, a3, b3, ho, h5, h6, h7⟩ := h.is
  obtain ⟨K, hK, _, fK, gK⟩ := page_keys h5
  obtain ⟨I, iv, hI, nI, tI, pI⟩ := pages_in h6
  obtain ⟨L, lv, hL, nL, tL, pL⟩ := pages_look h7
  obtain ⟨rI, lI⟩ := pI.blocks (by omega) I.n (by omega)
  obtain ⟨rL, lL⟩ := pL.blocks (by omega) L.n (by omega)
  have lK : ∀ g ∈ blocks [(K, true)], a1 ≤ g ∧ g < b1 := fun g hg => gK g (blocks_one _ g hg)
  have hmem : ∀ g ∈ blocks (pagesOf K iv I.n lv L.n), lo ≤ g ∧ g < hi := by
    intro g hg
    unfold pagesOf at hg
    rw [blocks_app, blocks_app] at hg
    rcases List.mem_append.1 hg with hg | hg
    · rcases List.mem_append.1 hg with hg | hg
      · have := lK g hg; omega
      · have := lI g hg; omega
    · have := lL g hg; omega
  refine ⟨K, I, L, iv, lv, hK, hI, hL, tI.more (by omega), tL.more (by omega), fun y hy => ?_, ?_, hmem, nI, nL⟩
  · unfold pagesOf at hy
    rcases List.mem_append.1 hy with hy | hy
    · rcases List.mem_append.1 hy with hy | hy
      · rw [List.mem_singleton.1 hy]; exact fK
      · rw [nI] at hy; exact pI.fits y hy
    · rw [nL] at hy; exact pL.fits y hy
  · unfold pagesOf
    rw [blocks_app, blocks_app]
    refine pair_app (m := a3) (pair_app (m := a2) (pair_one _) rI (fun g hg => ?_) fun g hg => (lI g hg).1) rL (fun g hg => ?_) fun g hg => (lL g hg).1
    · have := lK g hg; omega
    · rcases List.mem_append.1 hg with hg | hg
      · have := lK g hg; omega
      · have := lI g hg; omega

set_option maxRecDepth 100000 in
set_option maxHeartbeats 4000000 in
theorem get_walk3 (A : Option Addr) (n c : Nat) (zs : List Int) (w : World) (hs : Sees w w.heap.size A n (bv zs)) (hnc : n ≤ c) (hA : A = none → c = 0) (hc : c ≤ maxLen) (hz : AllBytes zs) :
    Calls Try.prog 4 #[.slice A n c] w fun e w' => e = .returned (.bool true) ∧ Below w.heap.size w w' := by
  have hn : zs.length = n := by have := hs.len; rwa [bv_length] at this
  by_cases h5 : 5000 < (n : Int)
  · clear hA
    unfold maxLen at hc
    go_enter Try.func4, Try.ntmps4
    go_wp2_with fail
    refine (lives3 _).mono ?_
    rintro e w2 ⟨rfl, hb2⟩
    go_wp2_with fail
    go_ret
    exact ⟨rfl, hb2⟩
  · subst hn
    have HS := Lib.hid hs
    have HA := Lib.hid (And.intro (And.intro hnc hA) hc)
    have HZ := Lib.hid hz
    have h5' : zs.length ≤ 5000 := by omega
    clear hs hnc hA hc hz
    go_enter Try.func4, Try.ntmps4
    go_wp2_with fail
    refine (twinBytes A _ c zs w _ HS.out (Nat.le_refl _) (by omega)).mono ?_
    rintro e w1 ⟨g1, rfl, hg1, hr1, hb1⟩
    have s1 : Sees w1 w1.heap.size (some ⟨g1, 0, none⟩) zs.length (bv zs) := by
      rw [bv_append] at hr1
      exact row_part hr1 (bv_length _)
    have R1 := Lib.hid hr1
    have B1 := Lib.hid hb1
    have G1 := Lib.hid hg1
    have HG := Lib.hid (get_ (some ⟨g1, 0, none⟩) zs.length (zs.length + 3) w1.heap.size zs w1 s1 (Nat.le_refl _) (by omega) (by unfold maxLen; omega) HZ.out)
    clear s1 hr1 hb1 hg1
    go_wp2_with fail
    refine HG.out.mono ?_
    rintro e w2 (⟨m, r, q, lo, hp, rfl, hlo, hv, hb2⟩ | ⟨x, hp, rfl, hb2⟩)
    · have hle : r.length ≤ zs.length := (front_msg _ _ _ hp).le
      obtain ⟨T, hT⟩ : ∃ T : Int, (zs.length : Int) - r.length = T := ⟨_, rfl⟩
      have hT2 : ((zs.length - r.length : Nat) : Int) = T := by omega
      rw [hT]
      have HSM := Lib.hid (show (Try.prog.info? 30).map (·.size) = some (q.cells m).length by rw [size_msg, cells_len hv.recent])
      have HL39 := Lib.hid (cells_len (q := q) hv.recent)
      have HV := Lib.hid hv
      have HP := Lib.hid hp
      have B2 := Lib.hid hb2
      have HT2 := Lib.hid hT2
      have HLO := Lib.hid hlo
      clear hp hv hb2 hT hT2 hlo hle HG
      go_wp2_with (((with_reducible show wpList _ _ _ ({ dst := none, op := Op.store 30 _ _, type := _, pos := _, after := _, guard := _ } :: _) _ _); go_must (refine wpList_store_new rfl 30 (.tmp 4) (.tmp 20) rfl (q.cells m) HSM.out cells_one (by rw [HL39.out]; rfl) ?_ ?_ ?_; go_simp; go_simp; intro w3 hr3 hb3 hz3; have R3 := Lib.hid hr3; have B3 := Lib.hid hb3; have Z3 := Lib.hid hz3; clear hr3 hb3 hz3)))
      have B03 : Hid (Below w.heap.size w w3) := Lib.hid ((B1.out.trans (B2.out.mono B1.out.size)).trans (B3.out.mono (by have := B1.out.size; have := B2.out.size; omega)))
      refine (refGetMsg A c zs w3 w.heap.size (HS.out.below B03.out) B03.out.size HA.out.1 HA.out.2 HZ.out).mono ?_
      rintro e w4 ⟨hb4, (⟨m', r', q', hp', rfl, hv'⟩ | ⟨x, hp', rfl⟩)⟩
      rotate_left
      · rw [HP.out] at hp'; cases hp'
      rw [HP.out] at hp'
      cases hp'
      rw [HT2.out]
      have HV' := Lib.hid hv'
      have B4 := Lib.hid hb4
      have HSM' := Lib.hid (show (Try.prog.info? 30).map (·.size) = some (q'.cells m).length by rw [size_msg, cells_len hv'.recent])
      have HL39' := Lib.hid (cells_len (q := q') hv'.recent)
      clear hb4 hv'
      go_upto_region 6 with (((with_reducible show wpList _ _ _ ({ dst := none, op := Op.store 30 _ _, type := _, pos := _, after := _, guard := _ } :: _) _ _); go_must (refine wpList_store_new rfl 30 (.tmp 7) (.tmp 26) rfl (q'.cells m) HSM'.out cells_one (by rw [HL39'.out]; rfl) ?_ ?_ ?_; go_simp; go_simp; intro w5 hr5 hb5 hz5; have R5 := Lib.hid hr5; have B5 := Lib.hid hb5; have Z5 := Lib.hid hz5; clear hr5 hb5 hz5)))
      have B24 : Hid (Below w2.heap.size w2 w4) := Lib.hid (B3.out.trans (B4.out.mono (by have := B3.out.size; omega)))
      have B25 : Hid (Below w2.heap.size w2 w5) := Lib.hid (B24.out.trans (B5.out.mono (by have := B24.out.size; omega)))
      have R35 : Hid (Row w5 w2.heap.size 30 (q.cells m)) := Lib.hid ((R3.out.below B4.out (by have := Z3.out; omega)).below B5.out (by have := Z3.out; have := B4.out.size; omega))
      go_wp2_with (first
        | ((with_reducible show wpList _ _ _ ({ dst := some 29, op := Op.load _ _, type := _, pos := _, after := _, guard := _ } :: _) _ _); go_must (refine wpList_load_whole rfl 30 (.tmp 4) rfl w2.heap.size 30 (q.cells m) _ Try.underlying30 rfl HSM.out R35.out ?_ ?_; go_simp))
        | ((with_reducible show wpList _ _ _ ({ dst := some 30, op := Op.load _ _, type := _, pos := _, after := _, guard := _ } :: _) _ _); go_must (refine wpList_load_whole rfl 30 (.tmp 7) rfl w4.heap.size 30 (q'.cells m) _ Try.underlying30 rfl HSM'.out R5.out ?_ ?_; go_simp)))
      refine (same_msg q q' m w2.heap.size w4.heap.size w5 (HV.out.in_.below B25.out) B25.out.size (HV'.out.in_.below B5.out) B5.out.size).mono ?_
      rintro e w6 ⟨rfl, hb6⟩
      have B6 := Lib.hid hb6
      have B16 : Hid (Below w1.heap.size w1 w6) := Lib.hid ((B2.out.trans (B25.out.mono B2.out.size)).trans (hb6.mono (by have := B2.out.size; have := B25.out.size; omega)))
      have B06 : Hid (Below w.heap.size w w6) := Lib.hid (B1.out.trans (B16.out.mono B1.out.size))
      clear hb6
      go_wp2_with fail
      refine (leftBytes g1 A _ c zs w6 w.heap.size (R1.out.below B16.out R1.out.lt) (HS.out.below B06.out) (by omega)).mono ?_
      rintro e w7 ⟨rfl, k7, rfl⟩
      have R36 : Hid (Row (w6.drewN k7) w2.heap.size 30 (q.cells m)) := Lib.hid ((R35.out.below B6.out R35.out.lt).drewN k7)
      have R16 : Hid (Row (w6.drewN k7) g1 5 (bv (zs ++ List.replicate 3 165))) := Lib.hid ((R1.out.below B16.out R1.out.lt).drewN k7)
      have B07 : Hid (Below w.heap.size w (w6.drewN k7)) := Lib.hid (below_drewN B06.out k7)
      have B27 : Hid (Below w2.heap.size w2 (w6.drewN k7)) := Lib.hid (below_drewN (B25.out.trans (B6.out.mono (by have := B25.out.size; omega))) k7)
      generalize w6.drewN k7 = W at *
      go_upto_region 9 with fail
      obtain ⟨K, I, L, iv, lv, hpg⟩ := HV.out.pages
      have HPG := Lib.hid hpg
      have hsh := HV.out.short
      have HK0 := Lib.hid (Bk.new W)
      have BW0 : Hid (Below W.heap.size W (W.alloc (.cells #[.slice none 0 0] 42))) := Lib.hid ((Below.refl _ _).alloc (Nat.le_refl _) _)
      have R37 : Hid (Row (W.alloc (.cells #[.slice none 0 0] 42)) w2.heap.size 30 (q.cells m)) := Lib.hid (R36.out.alloc _)
      have R17 : Hid (Row (W.alloc (.cells #[.slice none 0 0] 42)) g1 5 (bv (zs ++ List.replicate 3 165))) := Lib.hid (R16.out.alloc _)
      have B20 : Hid (Below w2.heap.size w2 (W.alloc (.cells #[.slice none 0 0] 42))) := Lib.hid (B27.out.trans (BW0.out.mono B27.out.size))
      have HNE : Hid (w2.heap.size ≤ W.heap.size ∧ w2.heap.size < W.heap.size ∧ g1 < w1.heap.size ∧ w1.heap.size ≤ w2.heap.size ∧ w.heap.size ≤ W.heap.size) := Lib.hid ⟨B27.out.size, R36.out.lt, R1.out.lt, B2.out.size, B07.out.size⟩
      clear hpg R36 R16
      have hbp : (Bk (W.alloc (.cells #[.slice none 0 0] 42)) W.heap.size W.heap.size [] (W.alloc (.cells #[.slice none 0 0] 42))) := HK0.out
      clear hbp
      generalize hW0 : W.alloc (.cells #[.slice none 0 0] 42) = W0 at *
      go_wp2_with fail
      refine (bkBytes W.heap.size W.heap.size [] ⟨some g1, zs.length, zs.length + 3⟩ W0 W0 HK0.out (by simp)).mono ?_
      rintro e w8 ⟨rfl, hb8⟩
      have HK8 := Lib.hid hb8
      have R38 : Hid (Row w8 w2.heap.size 30 (q.cells m)) := Lib.hid (hb8.row R37.out (by have := HNE.out; omega) (by decide))
      have B08 : Hid (Below w2.heap.size w2 w8) := Lib.hid (B20.out.trans (hb8.one.below (by have := HNE.out; omega) (by have := HNE.out; omega)))
      clear hb8 HK0
      go_wp2_with (((with_reducible show wpList _ _ _ ({ dst := some _, op := Op.load 30 _, type := _, pos := _, after := _, guard := _ } :: _) _ _); go_must (refine wpList_load_whole rfl 30 (.tmp 4) rfl w2.heap.size 30 (q.cells m) _ Try.underlying30 rfl HSM.out R38.out ?_ ?_; go_simp)))
      refine (bookMessage W.heap.size W.heap.size w2.heap.size _ (q.cells m) K I L iv lv W0 w8 HK8.out (by rw [cells_4, HPG.out.k]) (by rw [cells_37 HV.out.recent, HPG.out.i]) (by rw [cells_38 HV.out.recent, HPG.out.l]) (HPG.out.ti.keep B08.out) (HPG.out.tl.keep B08.out) HNE.out.1 HNE.out.1 (by have h1 := HPG.out.n; simp; omega)).mono ?_
      rintro e w9 ⟨rfl, hb9⟩
      have HK9 := Lib.hid hb9
      clear hb9 HK8 R38 B08
      go_wp2_with fail
      refine (apartBk W.heap.size W.heap.size w.heap.size _ W0 w9 HK9.out ?_ ?_ ?_ ?_).mono ?_
      · intro y hy
        rcases List.mem_append.1 hy with hy | hy
        · obtain rfl : y = _ := List.mem_singleton.1 hy
          exact ⟨by show zs.length ≤ zs.length + 3; omega, by show zs.length + 3 ≤ _; omega, _, R17.out, by rw [bv_length]; simp [esz]⟩
        · refine (HPG.out.fits y hy).keep fun g hg => ?_
          have := HPG.out.low g (List.mem_filterMap.2 ⟨y, hy, hg⟩)
          exact B20.out.block g this.2
      · rw [blocks_app]
        refine pair_app (m := lo) (pair_one _) HPG.out.rise (fun g hg => ?_) fun g hg => (HPG.out.low g hg).1
        have e1 := blocks_one _ g hg
        cases e1
        have := HNE.out
        have := HLO.out
        omega
      · intro g hg
        rw [blocks_app] at hg
        rcases List.mem_append.1 hg with hg | hg
        · have e1 := blocks_one _ g hg
          cases e1
          have := HNE.out
          have := G1.out
          omega
        · have := HPG.out.low g hg
          have := HNE.out
          have := HLO.out
          have := B1.out.size
          omega
      · have := HK9.out.one.size
        have := BW0.out.size
        have := HNE.out
        omega
      rintro e w10 ⟨rfl, hb10⟩
      have B010 : Hid (Below w.heap.size w w10) := Lib.hid (((B07.out.trans (BW0.out.mono HNE.out.2.2.2.2)).trans (HK9.out.one.below HNE.out.2.2.2.2 HNE.out.2.2.2.2)).trans hb10)
      clear hb10
      go_wp2_with fail
      refine (lives3 _).mono ?_
      rintro e w11 ⟨rfl, hb11⟩
      go_wp2_with fail
      go_ret
      exact ⟨rfl, B010.out.trans (hb11.mono B010.out.size)⟩
    · have HP := Lib.hid hp
      have B2 := Lib.hid hb2
      clear hp hb2 HG
      go_wp2_with (((with_reducible show wpList _ _ _ ({ dst := none, op := Op.store 30 _ _, type := _, pos := _, after := _, guard := _ } :: _) _ _); go_must (refine wpList_store_new rfl 30 (.tmp 4) (.tmp 20) rfl mzero size_mz mzero_one rfl ?_ ?_ ?_; go_simp; go_simp; intro w3 hr3 hb3 hz3; have R3 := Lib.hid hr3; have B3 := Lib.hid hb3; have Z3 := Lib.hid hz3; clear hr3 hb3 hz3)))
      have B03 : Hid (Below w.heap.size w w3) := Lib.hid ((B1.out.trans (B2.out.mono B1.out.size)).trans (B3.out.mono (by have := B1.out.size; have := B2.out.size; omega)))
      refine (refGetMsg A c zs w3 w.heap.size (HS.out.below B03.out) B03.out.size HA.out.1 HA.out.2 HZ.out).mono ?_
      rintro e w4 ⟨hb4, (⟨m', r', q', hp', rfl, hv'⟩ | ⟨x', hp', rfl⟩)⟩
      · rw [HP.out] at hp'; cases hp'
      rw [HP.out] at hp'
      cases hp'
      have B4 := Lib.hid hb4
      clear hb4
      go_upto_region 6 with (((with_reducible show wpList _ _ _ ({ dst := none, op := Op.store 30 _ _, type := _, pos := _, after := _, guard := _ } :: _) _ _); go_must (refine wpList_store_new rfl 30 (.tmp 7) (.tmp 26) rfl mzero size_mz mzero_one rfl ?_ ?_ ?_; go_simp; go_simp; intro w5 hr5 hb5 hz5; have R5 := Lib.hid hr5; have B5 := Lib.hid hb5; have Z5 := Lib.hid hz5; clear hr5 hb5 hz5)))
      have B24 : Hid (Below w2.heap.size w2 w4) := Lib.hid (B3.out.trans (B4.out.mono (by have := B3.out.size; omega)))
      have B25 : Hid (Below w2.heap.size w2 w5) := Lib.hid (B24.out.trans (B5.out.mono (by have := B24.out.size; omega)))
      have R35 : Hid (Row w5 w2.heap.size 30 mzero) := Lib.hid ((R3.out.below B4.out (by have := Z3.out; omega)).below B5.out (by have := Z3.out; have := B4.out.size; omega))
      go_wp2_with (first
        | ((with_reducible show wpList _ _ _ ({ dst := some 29, op := Op.load _ _, type := _, pos := _, after := _, guard := _ } :: _) _ _); go_must (refine wpList_load_whole rfl 30 (.tmp 4) rfl w2.heap.size 30 mzero _ Try.underlying30 rfl size_mz R35.out ?_ ?_; go_simp))
        | ((with_reducible show wpList _ _ _ ({ dst := some 30, op := Op.load _ _, type := _, pos := _, after := _, guard := _ } :: _) _ _); go_must (refine wpList_load_whole rfl 30 (.tmp 7) rfl w4.heap.size 30 mzero _ Try.underlying30 rfl size_mz R5.out ?_ ?_; go_simp)))
      refine (same_zero w5).mono ?_
      rintro e w6 ⟨rfl, hb6⟩
      have B6 := Lib.hid hb6
      have B16 : Hid (Below w1.heap.size w1 w6) := Lib.hid ((B2.out.trans (B25.out.mono B2.out.size)).trans (hb6.mono (by have := B2.out.size; have := B25.out.size; omega)))
      have B06 : Hid (Below w.heap.size w w6) := Lib.hid (B1.out.trans (B16.out.mono B1.out.size))
      clear hb6
      go_wp2_with fail
      refine (leftBytes g1 A _ c zs w6 w.heap.size (R1.out.below B16.out R1.out.lt) (HS.out.below B06.out) (by omega)).mono ?_
      rintro e w7 ⟨rfl, k7, rfl⟩
      have R36 : Hid (Row (w6.drewN k7) w2.heap.size 30 mzero) := Lib.hid ((R35.out.below B6.out R35.out.lt).drewN k7)
      have R16 : Hid (Row (w6.drewN k7) g1 5 (bv (zs ++ List.replicate 3 165))) := Lib.hid ((R1.out.below B16.out R1.out.lt).drewN k7)
      have B07 : Hid (Below w.heap.size w (w6.drewN k7)) := Lib.hid (below_drewN B06.out k7)
      generalize w6.drewN k7 = W at *
      go_upto_region 9 with fail
      have HK0 := Lib.hid (Bk.new W)
      have BW0 : Hid (Below W.heap.size W (W.alloc (.cells #[.slice none 0 0] 42))) := Lib.hid ((Below.refl _ _).alloc (Nat.le_refl _) _)
      have R37 : Hid (Row (W.alloc (.cells #[.slice none 0 0] 42)) w2.heap.size 30 mzero) := Lib.hid (R36.out.alloc _)
      have R17 : Hid (Row (W.alloc (.cells #[.slice none 0 0] 42)) g1 5 (bv (zs ++ List.replicate 3 165))) := Lib.hid (R16.out.alloc _)
      have HNE : Hid (w2.heap.size < W.heap.size ∧ g1 < W.heap.size ∧ w.heap.size ≤ W.heap.size) := Lib.hid ⟨R36.out.lt, R16.out.lt, B07.out.size⟩
      clear R36 R16
      generalize hW0 : W.alloc (.cells #[.slice none 0 0] 42) = W0 at *
      go_wp2_with fail
      refine (bkBytes W.heap.size W.heap.size [] ⟨some g1, zs.length, zs.length + 3⟩ W0 W0 HK0.out (by simp)).mono ?_
      rintro e w8 ⟨rfl, hb8⟩
      have HK8 := Lib.hid hb8
      have R38 : Hid (Row w8 w2.heap.size 30 mzero) := Lib.hid (hb8.row R37.out (by have := HNE.out; omega) (by decide))
      clear hb8 HK0
      go_wp2_with (((with_reducible show wpList _ _ _ ({ dst := some _, op := Op.load 30 _, type := _, pos := _, after := _, guard := _ } :: _) _ _); go_must (refine wpList_load_whole rfl 30 (.tmp 4) rfl w2.heap.size 30 mzero _ Try.underlying30 rfl size_mz R38.out ?_ ?_; go_simp)))
      refine (bookMessage W.heap.size W.heap.size w.heap.size _ mzero ⟨none, 0, 0⟩ ⟨none, 0, 0⟩ ⟨none, 0, 0⟩ (fun _ => (⟨none, 0, 0⟩, ⟨none, 0, 0⟩)) (fun _ => (⟨none, 0, 0⟩, ⟨none, 0, 0⟩)) W0 w8 HK8.out (by rfl) (by rfl) (by rfl) (fun i hi => absurd hi (Nat.not_lt_zero i)) (fun i hi => absurd hi (Nat.not_lt_zero i)) HNE.out.2.2 HNE.out.2.2 (by simp)).mono ?_
      rintro e w9 ⟨rfl, hb9⟩
      have HK9 := Lib.hid hb9
      clear hb9 HK8 R38
      go_wp2_with fail
      refine (apartBk W.heap.size W.heap.size w.heap.size _ W0 w9 HK9.out ?_ ?_ ?_ ?_).mono ?_
      · intro y hy
        rcases List.mem_append.1 hy with hy | hy
        · obtain rfl : y = _ := List.mem_singleton.1 hy
          exact ⟨by show zs.length ≤ zs.length + 3; omega, by show zs.length + 3 ≤ _; omega, _, R17.out, by rw [bv_length]; simp [esz]⟩
        · obtain rfl : y = _ := List.mem_singleton.1 hy
          exact ⟨rfl, rfl⟩
      · show (blocks [(⟨some g1, zs.length, zs.length + 3⟩, false), (⟨none, 0, 0⟩, true)]).Pairwise (· < ·)
        simp [blocks]
      · intro g hg
        have hg' : g ∈ blocks [(⟨some g1, zs.length, zs.length + 3⟩, false), (⟨none, 0, 0⟩, true)] := hg
        obtain rfl : g = g1 := by simpa [blocks] using hg'
        have := HNE.out
        have := G1.out
        omega
      · have := HK9.out.one.size
        have := BW0.out.size
        have := HNE.out
        omega
      rintro e w10 ⟨rfl, hb10⟩
      have B010 : Hid (Below w.heap.size w w10) := Lib.hid (((B07.out.trans (BW0.out.mono HNE.out.2.2)).trans (HK9.out.one.below HNE.out.2.2 HNE.out.2.2)).trans hb10)
      clear hb10
      go_wp2_with fail
      refine (lives3 _).mono ?_
      rintro e w11 ⟨rfl, hb11⟩
      go_wp2_with fail
      go_ret
      exact ⟨rfl, B010.out.trans (hb11.mono B010.out.size)⟩
end Go.Proofs.Ytidggfbjmmjmfaa
