/-
  MessagesBack: the walk (begun: to Put; what is left is told in NOTES).
-/
import Derived.Test.YtidggfbjmmjmfaaSizes
import Derived.Test.YtidggfbjmmjmfaaLives3
import Derived.Test.YtidggfbjmmjmfaaSameMsg
import Derived.Test.YtidggfbjmmjmfaaParseBack
import Derived.Test.YtidggfbjmmjmfaaOnly3
import Derived.Test.YtidggfbjmmjmfaaIsIn
namespace Go.Proofs.Ytidggfbjmmjmfaa
open Go.RowKit
set_option linter.unusedVariables false

theorem short_bytes (n : Nat) (h : n ≤ 65535) : AllBytes (short n) := by
  intro z hz
  unfold short at hz
  unfold IsByte
  split at hz
  · simp at hz; omega
  · split at hz <;> simp at hz <;> omega
theorem AllBytes.app {a b : List Int} (ha : AllBytes a) (hb : AllBytes b) : AllBytes (a ++ b) := fun z hz => by
  rcases List.mem_append.1 hz with h | h
  · exact ha z h
  · exact hb z h
theorem AllBytes.map {α : Type} {f : α → List Int} {l : List α} (h : ∀ x ∈ l, AllBytes (f x)) : AllBytes (l.flatMap f) := fun z hz => by
  obtain ⟨x, hx, hz⟩ := List.mem_flatMap.1 hz
  exact h x hx z hz
theorem enc_bytes {m : LMsg} (hf : Fits m) (hw : m.Wf) : AllBytes (enc m) := by
  obtain ⟨f1, f2, f3, f4, f5, f6⟩ := hf
  have hh : AllBytes (encHead m) := by
    intro z hz
    have h1 := hw.s
    have h2 := hw.r
    have h3 := hw.o
    unfold encHead at hz
    split at hz <;> simp at hz
    · rcases hz with rfl | rfl | rfl | rfl
      · unfold IsByte; omega
      all_goals assumption
    · rcases hz with rfl | rfl | rfl <;> assumption
  have ht : AllBytes (encTail m) := by
    unfold encTail
    split
    · exact (short_bytes _ f4).app (AllBytes.map fun l hl => (hw.looks l hl).1.2.app (((short_bytes _ (f6 l hl).1).app (hw.looks l hl).2.1).app ((short_bytes _ (f6 l hl).2).app (hw.looks l hl).2.2)))
    · intro z hz; simp at hz
  have hk : AllBytes m.keys.flatten := fun z hz => by
    obtain ⟨k, hk, hz⟩ := List.mem_flatten.1 hz
    exact (hw.keys k hk).2 z hz
  have hi : AllBytes (m.ins.flatMap encIn) := AllBytes.map fun i hi z hz => by
    unfold encIn at hz
    rcases List.mem_cons.1 hz with rfl | hz
    · exact (hw.ins i hi).1
    · exact (((short_bytes _ (f5 i hi).1).app (hw.ins i hi).2.1).app ((short_bytes _ (f5 i hi).2).app (hw.ins i hi).2.2)) z hz
  exact hh.app ((short_bytes _ f2).app (hk.app (hw.recent.2.app ((short_bytes _ f3).app (hi.app ht)))))

set_option maxRecDepth 100000 in
set_option maxHeartbeats 800000 in
theorem back_walk3 (q : Raw) (m : LMsg) (A : Option Addr) (nb cb : Nat) (zs : List Int) (X : Int) (w : World) (hm : MsgIn w w.heap.size q m) (hs : Sized m) (hwf : m.Wf) (hb : Sees w w.heap.size A nb (bv zs)) (hbm : nb ≤ maxLen) (hbz : AllBytes zs) (hX : 0 ≤ X ∧ X < 65536) :
    Calls Try.prog 5 #[.agg (q.cells m).toArray, .slice A nb cb, .int .u16 X] w fun e w' => e = .returned (.bool true) ∧ Below w.heap.size w w' := by
  obtain ⟨KA, kn, kc, IA, n, ic, LA, ln, lc⟩ := q
  unfold maxLen at hbm
  have hrow := Row.new w 30 (Raw.cells ⟨KA, kn, kc, IA, n, ic, LA, ln, lc⟩ m)
  have hb0 := (Below.refl w.heap.size w).alloc (Nat.le_refl _) (.cells (Raw.cells ⟨KA, kn, kc, IA, n, ic, LA, ln, lc⟩ m).toArray 30)
  have hm0 := hm.below hb0
  have HG := Lib.hid (great_ _ m w.heap.size _ hm0 hb0.size hs)
  have HSM := Lib.hid (show (Try.prog.info? 30).map (·.size) = some (Raw.cells ⟨KA, kn, kc, IA, n, ic, LA, ln, lc⟩ m).length by rw [size_msg, cells_len hm.recent])
  have HROW := Lib.hid hrow
  have HM0 := Lib.hid hm0
  have HB0 := Lib.hid hb0
  have HBS := Lib.hid (hb.below hb0)
  clear hrow hb0 hm0 hm hs hb
  go_enter Try.func5, Try.ntmps5
  go_wp2_with ((with_reducible show wpList _ _ _ ({ dst := some 15, op := Op.load _ _, type := _, pos := _, after := _, guard := _ } :: _) _ _); go_must (refine wpList_load_whole rfl 30 (.tmp 3) rfl w.heap.size 30 (Raw.cells ⟨KA, kn, kc, IA, n, ic, LA, ln, lc⟩ m) _ Try.underlying30 rfl HSM.out HROW.out ?_ ?_; go_simp))
  refine HG.out.mono ?_
  rintro e w1 ⟨⟨b, rfl, hgr⟩, hb1⟩
  cases b
  rotate_left
  · have hbw := HB0.out.trans (hb1.mono HB0.out.size)
    have HBW := Lib.hid hbw
    clear hbw hb1 hgr
    go_wp2_with fail
    refine (lives3 _).mono ?_
    rintro e w2 ⟨rfl, hb2⟩
    go_wp2_with fail
    go_ret
    exact ⟨rfl, HBW.out.trans (hb2.mono HBW.out.size)⟩
  have HT := Lib.hid (hgr rfl)
  have HR1 := Lib.hid (HROW.out.below hb1 HROW.out.lt)
  have HB1 := Lib.hid (HB0.out.trans (hb1.mono HB0.out.size))
  have HM1 := Lib.hid (HM0.out.below (hb1.mono HB0.out.size))
  have HS1 := Lib.hid (HBS.out.below (hb1.mono HB0.out.size))
  clear hgr hb1 HG HM0 HBS HB0
  by_cases h1000 : 1000 < (nb : Int)
  · go_wp2_with fail
    refine (lives3 _).mono ?_
    rintro e w2 ⟨rfl, hb2⟩
    go_wp2_with fail
    go_ret
    exact ⟨rfl, HB1.out.trans (hb2.mono HB1.out.size)⟩
  go_wp2_with ((with_reducible show wpList _ _ _ ({ dst := some 24, op := Op.load _ _, type := _, pos := _, after := _, guard := _ } :: _) _ _); go_must (refine wpList_load_whole rfl 30 (.tmp 3) rfl w.heap.size 30 (Raw.cells ⟨KA, kn, kc, IA, n, ic, LA, ln, lc⟩ m) _ Try.underlying30 rfl HSM.out HR1.out ?_ ?_; go_simp))
  by_cases hf : Fits m
  rotate_left
  · refine (put_no _ m w.heap.size w1 HM1.out HB1.out.size hf).mono ?_
    rintro e w2 ⟨rfl, hb2⟩
    have HB2 := Lib.hid (HB1.out.trans (hb2.mono HB1.out.size))
    clear hb2
    go_wp2_with fail
    refine (lives3 _).mono ?_
    rintro e w3 ⟨rfl, hb3⟩
    go_wp2_with fail
    go_ret
    exact ⟨rfl, HB2.out.trans (hb3.mono HB2.out.size)⟩
  refine (put_ok _ m w.heap.size w1 HM1.out HB1.out.size hf (by have := enc_le HM1.out HT.out; omega)).mono ?_
  rintro e w2 ⟨g, rest, rfl, hg, hr2, hb2⟩
  have hle := enc_le HM1.out HT.out
  have hzl : zs.length = nb := by have := HS1.out.len; rwa [bv_length] at this
  have hal : (enc m ++ zs).length ≤ 1001000 := by simp; omega
  have HAL := Lib.hid hal
  have HE := Lib.hid hle
  have hr1 := HR1.out.below hb2 (Nat.lt_of_lt_of_le HROW.out.lt (by have := HB1.out.size; have := HR1.out.lt; simp; omega))
  have HR2 := Lib.hid hr1
  have HB2 := Lib.hid (HB1.out.trans (hb2.mono HB1.out.size))
  have HM2 := Lib.hid (HM1.out.below (hb2.mono HB1.out.size))
  have HS2 := Lib.hid (HS1.out.below (hb2.mono HB1.out.size))
  have HG2 := Lib.hid hr2
  have HSE := Lib.hid (show Sees w2 w2.heap.size (some ⟨g, 0, none⟩) (enc m).length (bv (enc m)) from hr2.sees_at (o := 0) (bv_length _) (fun j u hu => by rw [Nat.zero_add, List.getElem?_append_left (List.getElem?_eq_some_iff.1 hu).1]; exact hu))
  clear hal hle hr1 hb2 hr2 HR1 HM1 HS1
  have hON := OwnB.nil w2 w2.heap.size
  have HON := Lib.hid hON
  clear hON
  go_wp2_with (first
    | ((with_reducible show wpList _ _ _ ({ dst := some 42, op := _, type := _, pos := _, after := _, guard := _ } :: _) _ _); go_must (refine wpList_addB rfl (.const (.slice none 0 0)) (.tmp 41) 34 rfl w2.heap.size Try.underlying34 info_u8 _ [] ?_ HON.out _ _ _ (enc m).length (enc m) ?_ HSE.out (Nat.le_refl _) (by have := HE.out; simp; omega) ?_; go_simp; go_simp; intro v3 w3 ho3 hg3; have hb3 := hg3.belowB HON.out (Nat.le_refl _); have HO3 := Lib.hid ho3; have HB3 := Lib.hid hb3; have HS3 := Lib.hid (HS2.out.below (hb3.mono HB2.out.size)); clear ho3 hg3 hb3))
    | ((with_reducible show wpList _ _ _ ({ dst := some 44, op := _, type := _, pos := _, after := _, guard := _ } :: _) _ _); go_must (refine wpList_addB rfl (.tmp 42) (.tmp 43) 34 rfl w2.heap.size Try.underlying34 info_u8 _ ([] ++ enc m) ?_ HO3.out _ _ _ cb zs ?_ HS3.out HB3.out.size (by have := HAL.out; simp at this ⊢; omega) ?_; go_simp; go_simp; intro v4 w4 ho4 hg4; have hb4 := HB3.out.trans (hg4.belowB HO3.out HB3.out.size); have HO4 := Lib.hid (show OwnB w4 w2.heap.size v4 (enc m ++ zs) from ho4); have HB4 := Lib.hid hb4; clear ho4 hg4 hb4; obtain ⟨A4, c4, rfl⟩ := HO4.out.form)))
  have hlen4 : (enc m ++ zs).length = (enc m).length + nb := by rw [List.length_append, hzl]
  have hc4 := own_caps HO4.out
  have hs4 := HO4.out.sees
  rw [hlen4] at hs4 hc4
  have hbz4 : AllBytes (enc m ++ zs) := by
    intro z hz
    rcases List.mem_append.1 hz with hz | hz
    · exact enc_bytes hf hwf z hz
    · exact hbz z hz
  refine (get_ A4 ((enc m).length + nb) c4 w4.heap.size (enc m ++ zs) w4 hs4 (Nat.le_refl _) hc4.1 hc4.2 hbz4).mono ?_
  rintro e w5 (⟨m', r', q', lo, hp, rfl, hlo, hv, hb5⟩ | ⟨x, hp, rfl, hb5⟩)
  · rw [pMsg_put hf hwf zs] at hp
    obtain ⟨rfl, rfl⟩ : m = m' ∧ zs = r' := by injection hp with hp; exact Prod.mk.inj hp
    have hm5 := hv.in_
    have hle4 := HB4.out.size
    have HM5 := Lib.hid hm5
    have HB5 := Lib.hid (HB4.out.trans (hb5.mono hle4))
    have HB25 := Lib.hid (HB2.out.trans (HB5.out.mono HB2.out.size))
    have HL39 := Lib.hid (cells_len (q := q') hm5.recent)
    have hT : ((enc m ++ zs).length : Int) - zs.length = (enc m).length := by simp
    rw [hT]
    have HR5 := Lib.hid (HR2.out.below HB5.out HR2.out.lt)
    have HG5 := Lib.hid (HG2.out.below HB5.out HG2.out.lt)
    have HM2' := Lib.hid (HM2.out.below (HB5.out.mono HB2.out.size))
    clear hm5 hb5 hv hp hlo hs4 hc4 hT HR2 HG2 HM2 HB4
    go_wp2_with (first
      | ((with_reducible show wpList _ _ _ ({ dst := none, op := Op.store 30 _ _, type := _, pos := _, after := _, guard := _ } :: _) _ _); go_must (refine wpList_store_new rfl 30 (.tmp 9) (.tmp 46) rfl (q'.cells m) (by rw [size_msg]; exact congrArg some HL39.out.symm) cells_one (by rw [HL39.out]; rfl) ?_ ?_ ?_; go_simp; go_simp; intro w6 hr6 hb6 hz6; have HR6 := Lib.hid hr6; have HB6 := Lib.hid hb6; clear hr6 hb6))
      | ((with_reducible show wpList _ _ _ ({ dst := some 58, op := Op.load _ _, type := _, pos := _, after := _, guard := _ } :: _) _ _); go_must (refine wpList_load_atg (by kernel_rfl) 30 (.tmp 9) rfl ⟨w5.heap.size, 0, none⟩ (q'.cells m) _ Try.underlying30 rfl (by rw [size_msg]; exact congrArg some HL39.out.symm) (fun j v hv => by rw [addr_row, HR6.out.cell]; simpa using hv) ?_ ?_; go_simp))
      | ((with_reducible show wpList _ _ _ ({ dst := some 59, op := Op.load _ _, type := _, pos := _, after := _, guard := _ } :: _) _ _); go_must (refine wpList_load_atg (by kernel_rfl) 30 (.tmp 3) rfl ⟨w.heap.size, 0, none⟩ (Raw.cells ⟨KA, kn, kc, IA, n, ic, LA, ln, lc⟩ m) _ Try.underlying30 rfl HSM.out (fun j v hv => by rw [addr_row, (HR5.out.below HB6.out HR5.out.lt).cell]; simpa using hv) ?_ ?_; go_simp)))
    refine (same_msg q' ⟨KA, kn, kc, IA, n, ic, LA, ln, lc⟩ m w5.heap.size w.heap.size w6 (HM5.out.below HB6.out) HB6.out.size (HM2'.out.below (HB6.out.mono HB25.out.size)) (Nat.le_trans HB25.out.size HB6.out.size)).mono ?_
    rintro e w7 ⟨rfl, hb7⟩
    have HB7 := Lib.hid (HB25.out.trans ((HB6.out.trans (hb7.mono HB6.out.size)).mono HB25.out.size))
    have HG7 := Lib.hid ((HG5.out.below HB6.out HG5.out.lt).below hb7 (HG5.out.below HB6.out HG5.out.lt).lt)
    have hpos := enc_pos m
    have HCUT := Lib.hid (fun k => pMsg_cut (k := k) hf hwf)
    have hle := HE.out
    obtain ⟨N, hN⟩ : ∃ N, N = (enc m).length := ⟨_, rfl⟩
    have HN := Lib.hid (show ∀ y, y = enc m → N = y.length from fun y hy => by rw [hy]; exact hN)
    have hN0 : ¬ N = 0 := by omega
    have hN1 : ¬ (N : Int) = 0 := by omega
    rw [← hN] at *
    have r1 : 0 ≤ X % (N : Int) := Int.emod_nonneg _ hN1
    have r2 : X % (N : Int) < (N : Int) := Int.emod_lt_of_pos _ (by omega)
    have r3 : X % (N : Int) ≤ (N : Int) := by omega
    clear hb7 HG5
    go_wp2_with fail
    have hK : (X % (N : Int)).toNat < N := by omega
    have hcut := HCUT.out _ (by rw [← HN.out _ rfl]; exact hK)
    have hbm : AllBytes ((enc m).take (X % (N : Int)).toNat) := AllBytes.take (fun z hz => hbz4 z (by simp [hz])) _
    obtain ⟨K, hKK⟩ : ∃ K, K = (X % (N : Int)).toNat := ⟨_, rfl⟩
    rw [← hKK] at hK hcut hbm ⊢
    have hs7 : Sees w7 w7.heap.size (some ⟨g, 0, none⟩) K (bv ((enc m).take K)) := HG7.out.sees_at (o := 0) (by rw [bv_length, List.length_take, ← HN.out _ rfl]; omega) (fun j u hu => by
      rw [bv_getElem?, List.getElem?_take] at hu
      split at hu
      · rw [Nat.zero_add, List.getElem?_append_left (by rw [bv_length, ← HN.out _ rfl]; omega), bv_getElem?]
        exact hu
      · simp at hu)
    clear hKK r1 r2 r3
    refine (get_ (some ⟨g, 0, none⟩) K N w7.heap.size _ w7 hs7 (Nat.le_refl _) (Nat.le_of_lt hK) (by have := HN.out _ rfl; unfold maxLen; omega) hbm).mono ?_
    rintro e w8 (⟨m', r', q', lo, hp, _⟩ | ⟨x, hp, rfl, hb8⟩)
    · rw [hcut] at hp
      cases hp
    obtain rfl : x = 5 := by rw [hcut] at hp; cases hp; rfl
    have HB8 := Lib.hid (HB7.out.trans (hb8.mono HB7.out.size))
    clear hb8 hp hs7 hcut hbm
    go_wp2_with (first
      | ((with_reducible show wpList _ _ _ ({ dst := none, op := Op.store 30 _ _, type := _, pos := _, after := _, guard := _ } :: _) _ _); go_must (refine wpList_store_new rfl 30 (.tmp 12) (.tmp 77) rfl mzero size_mz mzero_one rfl ?_ ?_ ?_; go_simp; go_simp; intro w9 hr9 hb9 hz9; have HR9 := Lib.hid hr9; have HB9 := Lib.hid hb9; clear hr9 hb9))
      | ((with_reducible show wpList _ _ _ ({ dst := some 87, op := Op.load _ _, type := _, pos := _, after := _, guard := _ } :: _) _ _); go_must (refine wpList_load_atg (by kernel_rfl) 30 (.tmp 12) rfl ⟨w8.heap.size, 0, none⟩ mzero _ Try.underlying30 rfl size_mz (fun j v hv => by rw [addr_row, HR9.out.cell]; simpa using hv) ?_ ?_; go_simp)))
    refine (same_zero _).mono ?_
    rintro e w10 ⟨rfl, hb10⟩
    have HB10 := Lib.hid (HB8.out.trans ((HB9.out.trans (hb10.mono HB9.out.size)).mono HB8.out.size))
    clear hb10
    go_wp2_with fail
    refine (lives3 _).mono ?_
    rintro e w11 ⟨rfl, hb11⟩
    go_wp2_with fail
    go_ret
    exact ⟨rfl, HB10.out.trans (hb11.mono HB10.out.size)⟩
  · rw [pMsg_put hf hwf zs] at hp
    cases hp
end Go.Proofs.Ytidggfbjmmjmfaa
