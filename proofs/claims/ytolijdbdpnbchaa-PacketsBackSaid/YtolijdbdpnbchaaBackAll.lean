/-
  PacketsBack: for every input the call returns true, and each argument reads behind it as it read before. No condition.
  PacketsBack: the walk.
-/
import Derived.Test.YtolijdbdpnbchaaLongWalk
import Derived.Test.YtolijdbdpnbchaaOpenTx
import Derived.Test.YtolijdbdpnbchaaCameIn

namespace Go.Proofs.Ytolijdbdpnbchaa
open Go.RowKit
set_option linter.unusedVariables false

theorem encTx_bytes {x : LTx} (hf : TFits x) (hw : x.Wf) : AllBytes (encTx x) := by
  unfold encTx
  refine (short_bytes _ hf.1).app (AllBytes.app (fun z hz => ?_) (enc_bytes hf.2 hw.m))
  obtain ⟨k, hk, hz⟩ := List.mem_flatten.1 hz
  exact (hw.sigs k hk).2 z hz
theorem wTx_put {x : LTx} (hf : TFits x) (hw : x.Wf) (hl : (encTx x).length ≤ 1232) : wTx (encTx x) = .ok x := by
  have h := pTx_put hf hw []
  rw [List.append_nil] at h
  unfold wTx
  rw [if_neg (by omega), h]
  rfl
theorem wTx_more {x : LTx} (hf : TFits x) (hw : x.Wf) (hl : (encTx x).length ≤ 1232) (z : Int) : wTx (encTx x ++ [z]) = .error (if (encTx x).length = 1232 then 3 else 4) := by
  have h := pTx_put hf hw [z]
  unfold wTx
  by_cases he : (encTx x).length = 1232
  · rw [if_pos (by rw [List.length_append, he]; simp), if_pos he]
  · rw [if_neg (by rw [List.length_append]; simp; omega), h, if_neg he]
    rfl
theorem wTx_cut {x : LTx} (hf : TFits x) (hw : x.Wf) (hl : (encTx x).length ≤ 1232) {k : Nat} (hk : k < (encTx x).length) : wTx ((encTx x).take k) = .error 5 := by
  unfold wTx
  rw [if_neg (by rw [List.length_take]; omega), pTx_cut hf hw hk]

set_option maxRecDepth 100000 in
set_option maxHeartbeats 4000000 in
theorem back4 (s : TRaw) (x : LTx) (A : Option Addr) (nb cb : Nat) (zs : List Int) (X : Int) (w : World) (hm : TxIn w w.heap.size s x) (hs : Sized x.m) (hwf : x.Wf) (hb : Sees w w.heap.size A nb (bv zs)) (hbm : nb ≤ maxLen) (hbz : AllBytes zs) (hX : 0 ≤ X ∧ X < 65536) :
    Calls Try.prog 5 #[.agg (s.cells x).toArray, .slice A nb cb, .int .u16 X] w fun e w' => e = .returned (.bool true) ∧ Below w.heap.size w w' := by
  unfold maxLen at hbm
  have hrow := Row.new w 33 (TRaw.cells s x)
  have hb0 := (Below.refl w.heap.size w).alloc (Nat.le_refl _) (.cells (TRaw.cells s x).toArray 33)
  have hm0 := hm.below hb0
  have HG := Lib.hid (great4 s x w.heap.size _ hm0 hb0.size hs)
  have HTS := Lib.hid (show (Try.prog.info? 33).map (·.size) = some (TRaw.cells s x).length by rw [size_tx, tcells_len hm.m.recent])
  have HPT := Lib.hid (fun (w' : World) (h : TxIn w' w.heap.size s x) (hz : w.heap.size ≤ w'.heap.size) (h1 : x.sigs.length ≤ 65535) (h2 : (enc x.m).length ≤ 1000000) => putTx s x w.heap.size w' h hz h1 h2)
  have HSAME := Lib.hid (fun (s' : TRaw) (B' : Nat) (w' : World) (h : TxIn w' w.heap.size s x) (hz : w.heap.size ≤ w'.heap.size) (h' : TxIn w' B' s' x) (hz' : B' ≤ w'.heap.size) => same_tx s s' x w.heap.size B' w' h hz h' hz')
  generalize TRaw.cells s x = tc at *
  have HROW := Lib.hid hrow
  have HM0 := Lib.hid hm0
  have HB0 := Lib.hid hb0
  have HBS := Lib.hid (hb.below hb0)
  clear hrow hb0 hm0 hm hs hb
  go_enter Try.func5, Try.ntmps5
  go_wp2_with ((with_reducible show wpList _ _ _ ({ dst := some 19, op := Op.load _ _, type := _, pos := _, after := _, guard := _ } :: _) _ _); go_must (refine wpList_load_whole rfl 33 (.tmp 3) rfl w.heap.size 33 tc _ Try.underlying33 rfl HTS.out HROW.out ?_ ?_; go_simp))
  refine HG.out.mono ?_
  rintro e w1 ⟨⟨b, rfl, hgr⟩, hb1⟩
  have HB1 := Lib.hid (HB0.out.trans (hb1.mono HB0.out.size))
  cases b
  rotate_left
  · clear hb1 hgr
    go_wp2_with fail
    refine (lives4 _).mono ?_
    rintro e w2 ⟨rfl, hb2⟩
    go_wp2_with fail
    go_ret
    exact ⟨rfl, HB1.out.trans (hb2.mono HB1.out.size)⟩
  obtain ⟨h100, h3000⟩ := hgr rfl
  have HR1 := Lib.hid (HROW.out.below hb1 HROW.out.lt)
  have HM1 := Lib.hid (HM0.out.below (hb1.mono HB0.out.size))
  have HS1 := Lib.hid (HBS.out.below (hb1.mono HB0.out.size))
  have HLE := Lib.hid (enc_le HM1.out.m h3000)
  have H100 := Lib.hid h100
  clear hgr hb1 HG HROW HM0 h3000 h100 HB0 HBS
  by_cases h1000 : 1000 < (nb : Int)
  · go_wp2_with fail
    refine (lives4 _).mono ?_
    rintro e w2 ⟨rfl, hb2⟩
    go_wp2_with fail
    go_ret
    exact ⟨rfl, HB1.out.trans (hb2.mono HB1.out.size)⟩
  go_wp2_with ((with_reducible show wpList _ _ _ ({ dst := some 28, op := Op.load _ _, type := _, pos := _, after := _, guard := _ } :: _) _ _); go_must (refine wpList_load_whole rfl 33 (.tmp 3) rfl w.heap.size 33 tc _ Try.underlying33 rfl HTS.out HR1.out ?_ ?_; go_simp))
  refine (HPT.out w1 HM1.out HB1.out.size (by have := H100.out; omega) HLE.out).mono ?_
  rintro e w2 (⟨_, rfl, hb2⟩ | ⟨_, _, rfl, hb2⟩ | ⟨hf, hbig, ⟨v, rfl, ho⟩, hb2⟩)
  iterate 2
    · have HB2 := Lib.hid (HB1.out.trans (hb2.mono HB1.out.size))
      clear hb2
      go_wp2_with fail
      refine (lives4 _).mono ?_
      rintro e w3 ⟨rfl, hb3⟩
      go_wp2_with fail
      go_ret
      exact ⟨rfl, HB2.out.trans (hb3.mono HB2.out.size)⟩
  have htf : TFits x := ⟨by have := H100.out; omega, hf⟩
  have HF := Lib.hid htf
  obtain ⟨A2, c2, rfl⟩ := ho.form
  have HR2 := Lib.hid (HR1.out.below hb2 HR1.out.lt)
  have HB2 := Lib.hid (HB1.out.trans (hb2.mono HB1.out.size))
  have HM2 := Lib.hid (HM1.out.below (hb2.mono HB1.out.size))
  have HS2 := Lib.hid (HS1.out.below (hb2.mono HB1.out.size))
  have HCAP := Lib.hid (own_caps ho)
  have HSE := Lib.hid ho.sees
  have HBY := Lib.hid (encTx_bytes htf hwf)
  have HWF := Lib.hid hwf
  have HBIG := Lib.hid hbig
  have hpos : 0 < (encTx x).length := by
    have := enc_pos x.m
    rw [encTx_len HM1.out.sigs.each]
    omega
  have HPOS := Lib.hid hpos
  have HZL := Lib.hid (show zs.length = nb by have := HS1.out.len; rwa [bv_length] at this)
  have HWP := Lib.hid (wTx_put htf hwf hbig)
  have HWM := Lib.hid (wTx_more htf hwf hbig 0)
  have HWC := Lib.hid (fun k (hk : k < (encTx x).length) => wTx_cut htf hwf hbig (k := k) hk)
  have HGP := Lib.hid (pTx_put htf hwf zs)
  obtain ⟨E, hE⟩ : ∃ E, E = encTx x := ⟨_, rfl⟩
  rw [← hE] at HCAP HSE HBY HBIG HPOS HWP HWM HWC HGP ⊢
  clear hb2 ho hf hbig hpos htf hwf hE HR1 HM1 HS1 HPT HLE
  have HW := Lib.hid (whole_ A2 E.length c2 w2.heap.size E w2 HSE.out (Nat.le_refl _) HCAP.out.1 HCAP.out.2 HBY.out)
  obtain ⟨N, hN⟩ : ∃ N, N = E.length := ⟨_, rfl⟩
  have HN := Lib.hid hN
  rw [← hN] at HW HSE HCAP HBIG HPOS HWM HWC ⊢
  have hN1 : N ≤ 1232 := HBIG.out
  have hN0 : 0 < N := HPOS.out
  clear hN
  go_wp2_with fail
  refine HW.out.mono ?_
  rintro e w3 (⟨y, s2, lo2, hp, rfl, hlo2, hv2, hb3⟩ | ⟨y, hp, rfl, hb3⟩)
  rotate_left
  · rw [HWP.out] at hp; cases hp
  obtain rfl : x = y := by rw [HWP.out] at hp; cases hp; rfl
  have HTS2 := Lib.hid (show (Try.prog.info? 33).map (·.size) = some (TRaw.cells s2 x).length by rw [size_tx, tcells_len hv2.in_.m.recent])
  have HTL2 := Lib.hid (tcells_len (s := s2) (x := x) hv2.in_.m.recent)
  have HTO2 := Lib.hid (tcells_one (s := s2) (x := x))
  have HSM2 := Lib.hid (fun w' h hz h' hz' => HSAME.out s2 w3.heap.size w' h hz h' hz')
  have HX3 := Lib.hid hv2.in_
  have HR3 := Lib.hid (HR2.out.below hb3 HR2.out.lt)
  have HB3 := Lib.hid (HB2.out.trans (hb3.mono HB2.out.size))
  have HM3 := Lib.hid (HM2.out.below (hb3.mono HB2.out.size))
  have HS3 := Lib.hid (HS2.out.below (hb3.mono HB2.out.size))
  have HSE3 := Lib.hid (HSE.out.below hb3)
  have HZ3 := Lib.hid hb3.size
  generalize TRaw.cells s2 x = tc2 at *
  clear hp hv2 hlo2 hb3 HW HR2 HB2 HM2 HS2 HSE
  go_upto_region 7 with (((with_reducible show wpList _ _ _ ({ dst := none, op := Op.store 33 _ _, type := _, pos := _, after := _, guard := _ } :: _) _ _); go_must (refine wpList_store_new rfl 33 (.tmp 9) (.tmp 51) rfl tc2 HTS2.out HTO2.out (by rw [HTL2.out]; rfl) ?_ ?_ ?_; go_simp; go_simp; intro w4 hr4 hb4 hz4)))
  have HY4 := Lib.hid hr4
  have HR4 := Lib.hid (HR3.out.below hb4 HR3.out.lt)
  have HB4 := Lib.hid (HB3.out.trans (hb4.mono HB3.out.size))
  have HM4 := Lib.hid (HM3.out.below (hb4.mono HB3.out.size))
  have HS4 := Lib.hid (HS3.out.below (hb4.mono HB3.out.size))
  have HX4 := Lib.hid (HX3.out.below hb4)
  have HSE4 := Lib.hid (HSE3.out.below (hb4.mono HZ3.out))
  have HZ4 := Lib.hid hb4.size
  have HON := Lib.hid (OwnB.nil w4 w4.heap.size)
  clear hr4 hb4 hz4 HR3 HB3 HM3 HS3 HX3 HSE3
  go_wp2_with (first
    | ((with_reducible show wpList _ _ _ ({ dst := some 55, op := _, type := _, pos := _, after := _, guard := _ } :: _) _ _); go_must (refine wpList_addB rfl (.const (.slice none 0 0)) (.tmp 54) 37 rfl w4.heap.size Try.underlying37 info_u8 (.slice none 0 0) [] ?_ HON.out w2.heap.size A2 N c2 E ?_ HSE4.out (Nat.le_refl _) ?_ ?_; go_simp; go_simp; (have := HN.out; simp only [List.nil_append]; omega); intro v5 w5 ho5 hg5; have HO5 := Lib.hid (show OwnB w5 w4.heap.size v5 E from ho5); have HB5 := Lib.hid (hg5.belowB HON.out (Nat.le_refl _)); have HS5 := Lib.hid (HS4.out.below (HB5.out.mono HB4.out.size)); clear ho5 hg5))
    | ((with_reducible show wpList _ _ _ ({ dst := some 57, op := _, type := _, pos := _, after := _, guard := _ } :: _) _ _); go_must (refine wpList_addB rfl (.tmp 55) (.tmp 56) 37 rfl w4.heap.size Try.underlying37 info_u8 v5 E ?_ HO5.out w.heap.size A nb cb zs ?_ HS5.out HB5.out.size ?_ ?_; go_simp; go_simp; (have := HN.out; have := HZL.out; rw [List.length_append]; omega); intro v6 w6 ho6 hg6; have HO6 := Lib.hid ho6; have HB6 := Lib.hid (HB5.out.trans (hg6.belowB HO5.out HB5.out.size)); clear ho6 hg6; obtain ⟨A6, c6, rfl⟩ := HO6.out.form)))
  have HBZ := Lib.hid (HBY.out.app hbz)
  have HG6 := Lib.hid (gettx_ A6 (E ++ zs).length c6 w6.heap.size (E ++ zs) w6 HO6.out.sees (Nat.le_refl _) (own_caps HO6.out).1 (own_caps HO6.out).2 HBZ.out)
  rw [List.length_append] at HG6
  refine HG6.out.mono ?_
  rintro e w7 (⟨y, r, s3, lo3, hp, rfl, hlo3, hv3, hb7⟩ | ⟨y, hp, rfl, hb7⟩)
  rotate_left
  · rw [HGP.out] at hp; cases hp
  obtain ⟨rfl, rfl⟩ : x = y ∧ zs = r := by rw [HGP.out] at hp; cases hp; exact ⟨rfl, rfl⟩
  have hT : ((E ++ zs).length : Int) - zs.length = (N : Int) := by have := HN.out; rw [List.length_append]; omega
  rw [hT]
  have HTS3 := Lib.hid (show (Try.prog.info? 33).map (·.size) = some (TRaw.cells s3 x).length by rw [size_tx, tcells_len hv3.in_.m.recent])
  have HTL3 := Lib.hid (tcells_len (s := s3) (x := x) hv3.in_.m.recent)
  have HTO3 := Lib.hid (tcells_one (s := s3) (x := x))
  have HSM3 := Lib.hid (fun w' h hz h' hz' => HSAME.out s3 w7.heap.size w' h hz h' hz')
  have HV7 := Lib.hid hv3.in_
  have b47 := HB6.out.trans (hb7.mono HB6.out.size)
  have HY7 := Lib.hid (HY4.out.below b47 HY4.out.lt)
  have HR7 := Lib.hid (HR4.out.below b47 HR4.out.lt)
  have HB7 := Lib.hid (HB4.out.trans (b47.mono HB4.out.size))
  have HM7 := Lib.hid (HM4.out.below (b47.mono HB4.out.size))
  have HX7 := Lib.hid (HX4.out.below (b47.mono HZ4.out))
  have HSE7 := Lib.hid (HSE4.out.below (b47.mono (Nat.le_trans HZ3.out HZ4.out)))
  have HZ7 := Lib.hid b47.size
  generalize TRaw.cells s3 x = tc3 at *
  clear hp hv3 hlo3 hb7 b47 HG6 HY4 HR4 HB4 HM4 HX4 HSE4 HON HO5 HB5 HS5 HO6 HB6 hT
  have htf1 : ¬ (1232 : Int) < N := by omega
  have htf2 : ¬ N = 0 := by omega
  have htf3 : ((N : Int) == 0) = false := by simp; omega
  go_wp2_with (first
    | ((with_reducible show wpList _ _ _ ({ dst := none, op := Op.store 33 (.tmp 11) _, type := _, pos := _, after := _, guard := _ } :: _) _ _); go_must (refine wpList_store_new rfl 33 (.tmp 11) (.tmp 59) rfl tc3 HTS3.out HTO3.out (by rw [HTL3.out]; rfl) ?_ ?_ ?_; go_simp; go_simp; intro w8 hr8 hb8 hz8; have HZ8r := Lib.hid hr8; have HB78 := Lib.hid hb8; have HZ8 := Lib.hid hz8; clear hr8 hb8 hz8))
    | ((with_reducible show wpList _ _ _ ({ dst := some 75, op := Op.load _ _, type := _, pos := _, after := _, guard := _ } :: _) _ _); go_must (refine wpList_load_atg (by kernel_rfl) 33 (.tmp 3) rfl ⟨w.heap.size, 0, none⟩ tc _ Try.underlying33 rfl HTS.out (fun j v hv => by rw [addr_row, (HR7.out.below HB78.out HR7.out.lt).cell, Nat.zero_add]; exact hv) ?_ ?_; go_simp))
    | ((with_reducible show wpList _ _ _ ({ dst := some 76, op := Op.load _ _, type := _, pos := _, after := _, guard := _ } :: _) _ _); go_must (refine wpList_load_atg (by kernel_rfl) 33 (.tmp 9) rfl ⟨w3.heap.size, 0, none⟩ tc2 _ Try.underlying33 rfl HTS2.out (fun j v hv => by rw [addr_row, (HY7.out.below HB78.out HY7.out.lt).cell, Nat.zero_add]; exact hv) ?_ ?_; go_simp)))
  have b3 : w3.heap.size ≤ w7.heap.size := Nat.le_trans HZ4.out HZ7.out
  refine (HSM2.out w8 (HM7.out.below (HB78.out.mono HB7.out.size)) (Nat.le_trans HB7.out.size HB78.out.size) (HX7.out.below (HB78.out.mono b3)) (Nat.le_trans b3 HB78.out.size)).mono ?_
  rintro e w9 ⟨rfl, hb9⟩
  have b79 := HB78.out.trans (hb9.mono HB78.out.size)
  have HR9 := Lib.hid (HR7.out.below b79 HR7.out.lt)
  have HZ9 := Lib.hid (HZ8r.out.below hb9 HZ8r.out.lt)
  have HB79 := Lib.hid b79
  clear hb9 b79 HY7 HSM2
  go_wp2_with (first
    | ((with_reducible show wpList _ _ _ ({ dst := some 81, op := Op.load _ _, type := _, pos := _, after := _, guard := _ } :: _) _ _); go_must (refine wpList_load_atg (by kernel_rfl) 33 (.tmp 3) rfl ⟨w.heap.size, 0, none⟩ tc _ Try.underlying33 rfl HTS.out (fun j v hv => by rw [addr_row, HR9.out.cell, Nat.zero_add]; exact hv) ?_ ?_; go_simp))
    | ((with_reducible show wpList _ _ _ ({ dst := some 82, op := Op.load _ _, type := _, pos := _, after := _, guard := _ } :: _) _ _); go_must (refine wpList_load_atg (by kernel_rfl) 33 (.tmp 11) rfl ⟨w7.heap.size, 0, none⟩ tc3 _ Try.underlying33 rfl HTS3.out (fun j v hv => by rw [addr_row, HZ9.out.cell, Nat.zero_add]; exact hv) ?_ ?_; go_simp)))
  refine (HSM3.out w9 (HM7.out.below (HB79.out.mono HB7.out.size)) (Nat.le_trans HB7.out.size HB79.out.size) (HV7.out.below HB79.out) HB79.out.size).mono ?_
  rintro e w10 ⟨rfl, hb10⟩
  have b710 := HB79.out.trans (hb10.mono HB79.out.size)
  have HB10 := Lib.hid (HB7.out.trans (b710.mono HB7.out.size))
  have HSE10 := Lib.hid (HSE7.out.below (b710.mono (Nat.le_trans HZ3.out b3)))
  have HZ10 := Lib.hid (show w2.heap.size ≤ w10.heap.size from Nat.le_trans (Nat.le_trans HZ3.out b3) b710.size)
  have HON := Lib.hid (OwnB.nil w10 w10.heap.size)
  clear hb10 b710 HR9 HZ9 HB79 HR7 HM7 HX7 HSE7 HV7 HZ8r HB78 HSM3 HSAME HB7 HTS HTS2 HTS3 HTL2 HTL3 HTO2 HTO3
  go_wp2_with (first
    | ((with_reducible show wpList _ _ _ ({ dst := some 98, op := _, type := _, pos := _, after := _, guard := _ } :: _) _ _); at_builtin; go_must (refine wpList_addB rfl (.const (.slice none 0 0)) (.tmp 97) 37 rfl w10.heap.size Try.underlying37 info_u8 (.slice none 0 0) [] ?_ HON.out w2.heap.size A2 N c2 E ?_ HSE10.out (Nat.le_refl _) ?_ ?_; go_simp; go_simp; (have := HN.out; simp only [List.nil_append]; omega); intro v5 w5 ho5 hg5; have HO5 := Lib.hid (show OwnB w5 w10.heap.size v5 E from ho5); have HB5 := Lib.hid (hg5.belowB HON.out (Nat.le_refl _)); clear ho5 hg5))
    | ((with_reducible show wpList _ _ _ ({ dst := some 100, op := _, type := _, pos := _, after := _, guard := _ } :: _) _ _); at_builtin; go_must (refine wpList_addLit rfl (.tmp 98) (.tmp 99) 37 rfl w10.heap.size Try.underlying37 info_u8 v5 E [0] 1 rfl ?_ HO5.out ?_ HB5.out.size ?_ ?_; go_simp; go_simp; (have := HN.out; rw [List.length_append]; simp; omega); intro v6 w6 ho6 hg6; have HO6 := Lib.hid ho6; have HB6 := Lib.hid (HB5.out.trans (hg6.belowB HO5.out HB5.out.size)); clear ho6 hg6; obtain ⟨A6, c6, rfl⟩ := HO6.out.form)))
  have HW6 := Lib.hid (whole_ A6 (E ++ [0]).length c6 w6.heap.size (E ++ [0]) w6 HO6.out.sees (Nat.le_refl _) (own_caps HO6.out).1 (own_caps HO6.out).2 (HBY.out.app (by intro z hz; simp at hz; subst hz; constructor <;> decide)))
  rw [List.length_append] at HW6
  refine HW6.out.mono ?_
  rintro e w11 (⟨y, s4, lo4, hp, _⟩ | ⟨y, hp, rfl, hb11⟩)
  · rw [HWM.out] at hp; cases hp
  have hy : (y = 3 ∧ ((N : Int) == 1232) = true) ∨ (y = 4 ∧ ((N : Int) == 1232) = false) := by
    rw [HWM.out] at hp
    cases hp
    by_cases h : N = 1232
    · exact .inl ⟨if_pos h, by simp; omega⟩
    · exact .inr ⟨if_neg h, by simp; omega⟩
  have b11 := HB6.out.trans (hb11.mono HB6.out.size)
  have HB11 := Lib.hid (HB10.out.trans (b11.mono HB10.out.size))
  have HSE11 := Lib.hid (HSE10.out.below (b11.mono HZ10.out))
  have HZ11 := Lib.hid (show w2.heap.size ≤ w11.heap.size from Nat.le_trans HZ10.out b11.size)
  clear hp hb11 b11 HW6 HO5 HB5 HO6 HB6 HON HSE10 HB10 HZ10
  have hN1' : ¬ (N : Int) = 0 := by omega
  have r1 : 0 ≤ X % (N : Int) := Int.emod_nonneg _ hN1'
  have r2 : X % (N : Int) < (N : Int) := Int.emod_lt_of_pos _ (by omega)
  have r3 : X % (N : Int) ≤ (N : Int) := by omega
  have r4 : X % (N : Int) ≤ (c2 : Int) := by have := HCAP.out.1; omega
  clear htf1 htf2 htf3
  rcases hy with ⟨rfl, hq⟩ | ⟨rfl, hq⟩
  all_goals
    go_wp2_with (((with_reducible show wpList _ _ _ ({ dst := none, op := Op.store 33 (.tmp 14) _, type := _, pos := _, after := _, guard := _ } :: _) _ _); go_must (refine wpList_store_new rfl 33 (.tmp 14) (.tmp 102) rfl tzero size_tz tzero_one rfl ?_ ?_ ?_; go_simp; go_simp; intro w12 hr12 hb12 hz12; have HB12 := Lib.hid hb12; clear hr12 hb12 hz12)))
    have hK : (X % (N : Int)).toNat < N := by omega
    have hcut := HWC.out _ hK
    have HSE12 := Lib.hid (HSE11.out.below (HB12.out.mono HZ11.out))
    have HB012 := Lib.hid (HB11.out.trans (HB12.out.mono HB11.out.size))
    obtain ⟨K, hKK⟩ : ∃ K, K = (X % (N : Int)).toNat := ⟨_, rfl⟩
    rw [← hKK] at hK hcut ⊢
    have hs12 : Sees w12 w12.heap.size A2 K (bv (E.take K)) := ⟨by rw [bv_length, List.length_take, ← HN.out]; omega, fun i u hu => by
      rw [bv_getElem?, List.getElem?_take] at hu
      split at hu
      · obtain ⟨a', e1, h1, h2⟩ := HSE12.out.cell i u (by rw [bv_getElem?]; exact hu)
        exact ⟨a', e1, by have := HZ11.out; have := HB12.out.size; omega, h2⟩
      · simp at hu⟩
    have HW12 := Lib.hid (whole_ A2 K c2 w12.heap.size (E.take K) w12 hs12 (Nat.le_refl _) (by have := HCAP.out.1; omega) HCAP.out.2 (HBY.out.take K))
    clear hs12 hKK r1 r2 r3 r4
    refine HW12.out.mono ?_
    rintro e w13 (⟨y, s4, lo4, hp, _⟩ | ⟨y, hp, rfl, hb13⟩)
    · rw [hcut] at hp; cases hp
    obtain rfl : y = 5 := by rw [hcut] at hp; cases hp; rfl
    have HB13 := Lib.hid (HB012.out.trans (hb13.mono HB012.out.size))
    clear hp hb13 hcut HW12
    go_wp2_with (((with_reducible show wpList _ _ _ ({ dst := none, op := Op.store 33 (.tmp 16) _, type := _, pos := _, after := _, guard := _ } :: _) _ _); go_must (refine wpList_store_new rfl 33 (.tmp 16) (.tmp 113) rfl tzero size_tz tzero_one rfl ?_ ?_ ?_; go_simp; go_simp; intro w14 hr14 hb14 hz14; have HB14 := Lib.hid hb14; clear hr14 hb14 hz14)))
    have HB014 := Lib.hid (HB13.out.trans (HB14.out.mono HB13.out.size))
    refine (lives4 _).mono ?_
    rintro e w15 ⟨rfl, hb15⟩
    go_wp2_with fail
    go_ret
    exact ⟨rfl, HB014.out.trans (hb15.mono HB014.out.size)⟩
end Go.Proofs.Ytolijdbdpnbchaa

namespace Go.Proofs.Ytolijdbdpnbchaa.packetsBack
open Go.ChangeShapes Go.WideShapes Go.ChangeAt Go.RowKit
set_option linter.unusedVariables false

theorem own : ownKnob Try.prog.godebug = none := by kernel_rfl
theorem laidOut : laidOutB Try.prog = true := by kernel_rfl

set_option maxRecDepth 100000 in
theorem lifted (os : Os) (started : os.Started) (H : Type) (enc : TypeId × Value → H) :
    ReturnsInHanded {} Try.checked os 5 .any (Rows.packetsBackSpec.pre6 enc Try.prog Try.f5 Rows.packetsBackRow.domain false) (Rows.packetsBackSpec.post enc Try.prog Try.f5 false true false false) := by
  refine returnsInHanded_of_change_sized (C := Try.checked) own started (by kernel_rfl) Try.func5
    (ChangeSpec.witness6 (enc := enc) (C := Try.checked) false ⟨#[], #[.agg #[.slice none 0 0, .bool false, .int .u8 0, .int .u8 0, .int .u8 0, .slice none 0 0, .int .u8 0, .int .u8 0, .int .u8 0, .int .u8 0, .int .u8 0, .int .u8 0, .int .u8 0, .int .u8 0, .int .u8 0, .int .u8 0, .int .u8 0, .int .u8 0, .int .u8 0, .int .u8 0, .int .u8 0, .int .u8 0, .int .u8 0, .int .u8 0, .int .u8 0, .int .u8 0, .int .u8 0, .int .u8 0, .int .u8 0, .int .u8 0, .int .u8 0, .int .u8 0, .int .u8 0, .int .u8 0, .int .u8 0, .int .u8 0, .int .u8 0, .int .u8 0, .slice none 0 0, .slice none 0 0], .slice none 0 0, .int .u16 0], []⟩ 8 (by kernel_rfl) (by kernel_rfl) (by kernel_rfl) (by kernel_rfl)) ?_
  intro W base args ds gs before hval0 hW hcnd hsz0 _
  have hval : ∀ (j : Nat) t v, Try.f5.params[j]? = some t → args[j]? = some v → Value.okWide Try.prog W .any base t v := hval0
  have hW' := hW
  obtain ⟨p, q, hA0, hV, rfl, hfz, hnd⟩ := hW
  have hA : DataW.TrodAll enc Try.prog W 0 (fun _ => true) true Try.f5.params.toList args.toList ds p := hA0
  have hsz : (DataW.weightsEach Try.prog (Try.f5.params.toList ++ Rows.packetsBackSpec.plain.varTypes Try.prog) (ds ++ gs)).all (· ≤ reachBytes) = true := hsz0
  rw [Try.params5] at hA hval hsz
  obtain ⟨v0, vs0, d0, ds0, p0, q0, hargs, rfl, rfl, h0, r0⟩ := trodAll_cons hA
  obtain ⟨v1, vs1, d1, ds1, p1, q1, rfl, rfl, rfl, h1, r1⟩ := trodAll_cons r0
  obtain ⟨v2, vs2, d2, ds2, p2, q2, rfl, rfl, rfl, h2, r2⟩ := trodAll_cons r1
  obtain ⟨rfl, rfl, rfl⟩ := trodAll_nil r2
  obtain rfl : args = #[v0, v1, v2] := by cases args; simp_all
  obtain ⟨rfl, rfl⟩ := trodVars_none hV
  have k0 := h0
  have lt0 : ∀ x ∈ p0, x.block < W.heap.size := by obtain ⟨m, hm⟩ := k0; exact DataW.trod_lt m _ _ _ hm
  obtain ⟨s0_, x0, rfl, in0, wf0, sz0, sl0⟩ := open_tx (hval 0 33 v0 rfl rfl) h0 (fun n hn => by
    have := List.all_eq_true.1 hsz _ (DataW.weights_mem_each (j := 0) rfl rfl n hn)
    simpa using this)
  obtain ⟨A1, l1, c1, rfl⟩ := okWide_slice Try.underlying37 (hval 1 37 v1 rfl rfl)
  have k1 := h1
  have lt1 : ∀ x ∈ p1, x.block < W.heap.size := by obtain ⟨m, hm⟩ := k1; exact DataW.trod_lt m _ _ _ hm
  obtain ⟨z1, row1⟩ : ∃ zs, CameIn .u8 W A1 l1 c1 zs := by
    obtain ⟨fuel, hf⟩ := h1
    rcases open_ints Try.underlying37 Try.underlying5 (by kernel_rfl) hf with ⟨hcs, _⟩ | ⟨x, l, c, zs, hcs, _, hl, hm, hz, _, hcell, hwz⟩
    · simp [Value.cells] at hcs
      obtain ⟨rfl, rfl, rfl⟩ := hcs
      exact ⟨[], CameIn.nil _ _⟩
    · simp [Value.cells] at hcs
      obtain ⟨rfl, rfl, rfl⟩ := hcs
      exact ⟨_, CameIn.of hl hm (by simpa using hz) hcell hwz⟩
  obtain ⟨a2, rfl, rfl, rfl, w2⟩ := open_int Try.underlying54 (hval 2 54 v2 rfl rfl) h2
  clear hA0 hval0
  refine (back4 s0_ x0 A1 l1 c1 z1 a2 W in0 sz0 wf0 row1.sees (Nat.le_trans row1.cap row1.max) (fun z hz => byte_wf (row1.wf z hz)) (by have := bounds_u16 w2; omega)).mono fun e W' ⟨he, bel⟩ => ?_
  subst he
  exact ⟨_, rfl, _, _, _, [], _, [], hW', trodAll_mk1 (shut_bool Try.underlying4 _), (trodAll_cons_mk (Below.trod laidOut (by kernel_rfl) (of_decide_eq_true (by kernel_rfl)) k0 bel lt0) (trodAll_cons_mk (Below.trod laidOut (by kernel_rfl) (of_decide_eq_true (by kernel_rfl)) k1 bel lt1) (trodAll_cons_mk (shut_int Try.underlying54 w2) trodAll_mk0))), rfl, bel.frame _, fun h => by cases h⟩

theorem over : Rows.packetsBackRow.holds Try.pinned (OpenSpec.ofChange Rows.packetsBackSpec) :=
  OpenClaim.holds_of_wide 5 Try.f5 rfl rfl rfl rfl rfl rfl rfl ⟨rfl, rfl, rfl, rfl, rfl⟩ rfl rfl rfl rfl rfl (by kernel_rfl) Try.func5 (by kernel_rfl)
    (of_decide_eq_true (by kernel_rfl)) (by unfold Func.isWrapper; first | (rw [if_pos (by decide +kernel)]; kernel_rfl) | (rw [if_neg (by decide +kernel)]; exact ⟨rfl, rfl⟩))
    (fun os started H enc _ => lifted os started H enc)

theorem proved : Rows.PacketsBackSaid := over
#print axioms proved
end Go.Proofs.Ytolijdbdpnbchaa.packetsBack
