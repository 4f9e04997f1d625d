/-
  messages.reader.message: the walk.
-/
import Derived.Test.YtolijdbdpnbchaaMessage
namespace Go.Proofs.Ytolijdbdpnbchaa
open Go.RowKit
set_option linter.unusedVariables false

/-- a message in the making: its block g; what is left to be read -/
structure At (w0 w : World) (p B g : Nat) (cs : List Value) (r : List Int) : Prop where
  row : Row w g 31 cs
  rd : RdIn w p B r
  but : But p w0 w

theorem At.call {w0 w w' : World} {p B g : Nat} {cs : List Value} {r r' : List Int} (h : At w0 w p B g cs r) (hb : But p w w') (hr : RdIn w' p B r') (hg : g ≠ p) : At w0 w' p B g cs r' := ⟨hb.row h.row hg, hr, h.but.trans hb⟩
theorem At.set {w0 w : World} {p B g k : Nat} {v : Value} {cs cs' : List Value} {r : List Int} (h : At w0 w p B g cs r) (hr : Row (w.setCell ⟨g, k, none⟩ v) g 31 cs') (hg : g ≠ p) (hB : B ≤ g) (h0 : w0.heap.size ≤ g) : At w0 (w.setCell ⟨g, k, none⟩ v) p B g cs' r :=
  ⟨hr, h.rd.turned (turned_setCell w ⟨g, k, none⟩ v) hg hB, h.but.turned (turned_setCell w ⟨g, k, none⟩ v) h0⟩
theorem At.turned {w0 w w' : World} {p B g : Nat} {cs cs' : List Value} {r : List Int} (h : At w0 w p B g cs r) (hr : Row w' g 31 cs') (ht : Turned w w' g) (hg : g ≠ p) (hB : B ≤ g) (h0 : w0.heap.size ≤ g) : At w0 w' p B g cs' r :=
  ⟨hr, h.rd.turned ht hg hB, h.but.turned ht h0⟩

/-- what message leaves -/
def MsgDone (w : World) (p B : Nat) (zs : List Int) (e : Ending) (w' : World) : Prop :=
  Reads w p B (pMsg zs) (fun w' v m => ∃ q : Raw, v = .agg (q.cells m).toArray ∧ MsgV w' w.heap.size w'.heap.size q m) e w'

theorem MsgDone.no {w w' : World} {p B : Nat} {zs : List Int} {c : Int} (h : pMsg zs = .error c) (hb : But p w w') : MsgDone w p B zs (panics c) w' := .inr ⟨c, h, rfl, hb⟩

set_option maxRecDepth 100000 in
set_option maxHeartbeats 4000000 in
theorem message_ (p B : Nat) (zs : List Int) (w : World) (h : RdIn w p B zs) (hB : B ≤ p) (hz : AllBytes zs) :
    Calls Try.prog 72 #[.pointer (some ⟨p, 0, none⟩)] w (MsgDone w p B zs) := by
  have hp := h.lt
  have hgp : w.heap.size ≠ p := Nat.ne_of_gt hp
  have hBg : B ≤ w.heap.size := by omega
  have HZ := Lib.hid hz
  have ha0 : At w (w.alloc (.cells mzero.toArray 31)) p B w.heap.size mzero zs := ⟨Row.new _ _ _, h.alloc hB _, (But.refl p w).alloc _⟩
  have HA0 := Lib.hid ha0
  have hmf : ∀ (fn : Fn) (first cap : Array Value) (w : World), (Instr.makeFunc fn first cap).run Try.prog w = .ok (.func fn first cap) w := fun _ _ _ _ => rfl
  have HC := Lib.hid (octet_ p B zs _ ha0.rd hB)
  have HG := Lib.hid (And.intro hgp (And.intro hBg (Nat.le_refl w.heap.size)))
  clear h ha0 hz
  go_enter Try.func72, Try.ntmps72
  go_wp2_with fail
  refine HC.out.mono ?_
  rintro e w1 (⟨x, r1, v, hP1, rfl, rfl, hr1, hb1⟩ | ⟨c, hP1, rfl, hb1⟩)
  rotate_left
  · exact ⟨rfl, MsgDone.no (by unfold pMsg pFirst; simp only [hP1]) (HA0.out.but.trans hb1)⟩
  have HA1 := Lib.hid (HA0.out.call hb1 hr1 hgp)
  have HP1 := Lib.hid hP1
  have HZ1 := Lib.hid ((front_octet _ _ _ hP1).bytes HZ.out)
  clear hP1 hr1 hb1 HC HA0
  by_cases hx : 128 < x
  · go_wp2_with fail
    exact ⟨rfl, MsgDone.no (by unfold pMsg pFirst; simp only [HP1.out, if_pos hx]) HA1.out.but⟩
  have HNX := Lib.hid hx
  have c0 := HA1.out.row.cell 0
  have f0 := HA1.out.row.frozen 0
  have c1 := HA1.out.row.cell 1
  have f1 := HA1.out.row.frozen 1
  have c0 : w1.cell? ⟨w.heap.size, 0, none⟩ = some (.bool false) := c0
  have c1 : w1.cell? ⟨w.heap.size, 1, none⟩ = some (.int .u8 0) := c1
  by_cases hx8 : x = 128
  · have hx' : (x == 128) = true := by simp [hx8]
    have HX := Lib.hid hx8
    clear hx8
    go_wp2_with fail
    have HA := Lib.hid (((HA1.out.set (mset0 HA1.out.row true) HG.out.1 HG.out.2.1 HG.out.2.2)).set (mset1 (mset0 HA1.out.row true) x) HG.out.1 HG.out.2.1 HG.out.2.2)
    clear c0 f0 c1 f1 hx'
    generalize ((w1.setCell ⟨w.heap.size, 0, none⟩ (.bool true)).setCell ⟨w.heap.size, 1, none⟩ (.int .u8 x)) = w1' at *
    refine (octet_ p B r1 _ HA.out.rd hB).mono ?_
    rintro e wa (⟨s, r, v, hPa, rfl, rfl, hra, hba⟩ | ⟨c, hPa, rfl, hba⟩)
    rotate_left
    · exact ⟨rfl, MsgDone.no (by unfold pMsg pFirst; simp only [HP1.out, if_neg (show ¬ 128 < x by have := HNX.out; omega), if_pos HX.out, hPa]) (HA.out.but.trans hba)⟩
    have HAa := Lib.hid (HA.out.call hba hra hgp)
    have c1 : wa.cell? ⟨w.heap.size, 1, none⟩ = some (.int .u8 x) := HAa.out.row.cell 1
    have f1 := HAa.out.row.frozen 1
    have HPF : Hid (pFirst zs = .ok ((true, s), r)) := Lib.hid (by unfold pFirst; simp only [HP1.out, if_neg (show ¬ 128 < x by have := HNX.out; omega), if_pos HX.out, hPa])
    have HZR := Lib.hid ((front_octet _ _ _ hPa).bytes HZ1.out)
    clear hPa hra hba HA
    go_wp2_with fail
    have HA := Lib.hid (HAa.out.set (mset1 HAa.out.row s) HG.out.1 HG.out.2.1 HG.out.2.2)
    clear c1 f1
    generalize (wa.setCell ⟨w.heap.size, 1, none⟩ (.int .u8 s)) = wa' at *
    refine (octet_ p B r _ HA.out.rd hB).mono ?_
    rintro e w2 (⟨rs, r2, v, hP2, rfl, rfl, hr2, hb2⟩ | ⟨c, hP2, rfl, hb2⟩)
    rotate_left
    · exact ⟨rfl, MsgDone.no (by unfold pMsg; simp only [HPF.out, hP2]) (HA.out.but.trans hb2)⟩
    have HA2 := Lib.hid (HA.out.call hb2 hr2 hgp)
    have HP2 := Lib.hid hP2
    have HZ2 := Lib.hid ((front_octet _ _ _ hP2).bytes HZR.out)
    have c2 : w2.cell? ⟨w.heap.size, 2, none⟩ = some (.int .u8 0) := HA2.out.row.cell 2
    have f2 := HA2.out.row.frozen 2
    clear hP2 hr2 hb2
    go_wp2_with fail
    have HA2' := Lib.hid (HA2.out.set (mset2 HA2.out.row rs) HG.out.1 HG.out.2.1 HG.out.2.2)
    clear c2 f2
    generalize (w2.setCell ⟨w.heap.size, 2, none⟩ (.int .u8 rs)) = w2' at *
    refine (octet_ p B r2 _ HA2'.out.rd hB).mono ?_
    rintro e w3 (⟨ro, r3, v, hP3, rfl, rfl, hr3, hb3⟩ | ⟨c, hP3, rfl, hb3⟩)
    rotate_left
    · exact ⟨rfl, MsgDone.no (by unfold pMsg; simp only [HPF.out, HP2.out, hP3]) (HA2'.out.but.trans hb3)⟩
    have HA3 := Lib.hid (HA2'.out.call hb3 hr3 hgp)
    have HP3 := Lib.hid hP3
    have HZ3 := Lib.hid ((front_octet _ _ _ hP3).bytes HZ2.out)
    have c3 : w3.cell? ⟨w.heap.size, 3, none⟩ = some (.int .u8 0) := HA3.out.row.cell 3
    have f3 := HA3.out.row.frozen 3
    clear hP3 hr3 hb3
    go_wp2_with fail
    have HA3' := Lib.hid (HA3.out.set (mset3 HA3.out.row ro) HG.out.1 HG.out.2.1 HG.out.2.2)
    clear c3 f3
    generalize (w3.setCell ⟨w.heap.size, 3, none⟩ (.int .u8 ro)) = w3' at *
    have hlt3 := HA3'.out.row.lt
    refine (list_key p B r3 _ HA3'.out.rd hB HZ3.out).mono ?_
    rintro e w4 (⟨ks, r4, v, hP4, rfl, ⟨hks, css, L, R, hv⟩, hr4, hb4⟩ | ⟨c, hP4, rfl, hb4⟩)
    rotate_left
    · exact ⟨rfl, MsgDone.no (by unfold pMsg; simp only [HPF.out, HP2.out, HP3.out, hP4]) (HA3'.out.but.trans hb4)⟩
    have HV4 := Lib.hid (LVR.of hv)
    obtain ⟨KA, kc, rfl⟩ := hv.form
    have HA4 := Lib.hid (HA3'.out.call hb4 hr4 hgp)
    have HP4 := Lib.hid hP4
    have HZ4 := Lib.hid ((front_list (front_take 32) _ _ _ hP4).bytes HZ3.out)
    have HS4 := Lib.hid hb4.size
    have HKS := Lib.hid hks
    have c4 : w4.cell? ⟨w.heap.size, 4, none⟩ = some (.slice none 0 0) := HA4.out.row.cell 4
    have f4 := HA4.out.row.frozen 4
    clear hP4 hr4 hb4 hv hks
    go_wp2_with fail
    have HA4' := Lib.hid (HA4.out.set (mset4 HA4.out.row (.slice KA ks.length kc)) HG.out.1 HG.out.2.1 HG.out.2.2)
    have HT4 := Lib.hid (turned_setCell w4 ⟨w.heap.size, 4, none⟩ (.slice KA ks.length kc))
    clear c4 f4
    generalize (w4.setCell ⟨w.heap.size, 4, none⟩ (.slice KA ks.length kc)) = w4' at *
    have HV4' := Lib.hid (HV4.out.turned HT4.out hlt3)
    have HS4' := Lib.hid HT4.out.size
    refine (key_ p B r4 _ HA4'.out.rd hB).mono ?_
    rintro e w5 (⟨hh, r5, v, hP5, rfl, ⟨rfl, hh32⟩, hr5, hb5⟩ | ⟨c, hP5, rfl, hb5⟩)
    rotate_left
    · exact ⟨rfl, MsgDone.no (by unfold pMsg; simp only [HPF.out, HP2.out, HP3.out, HP4.out, hP5]) (HA4'.out.but.trans hb5)⟩
    have HA5 := Lib.hid (HA4'.out.call hb5 hr5 hgp)
    have HP5 := Lib.hid hP5
    have HZ5 := Lib.hid ((front_take 32 _ _ _ hP5).bytes HZ4.out)
    have HV5 := Lib.hid (HV4'.out.but hb5 (Nat.lt_trans hp hlt3))
    have HS5 := Lib.hid hb5.size
    have HH := Lib.hid hh32
    have hsz : (Try.prog.info? 27).map (·.size) = some (bv hh).length := by rw [size_hash, bv_length, hh32]
    have HSZ := Lib.hid hsz
    clear hP5 hr5 hb5 hh32 hsz
    go_wp2_with (with_reducible show wpList _ _ _ ({ dst := none, op := Op.store 27 _ _, type := _, pos := _, after := _, guard := _ } :: _) _ _; go_must (refine wpList_store_part rfl 27 (.tmp 36) (.tmp 35) rfl w.heap.size 31 5 _ (bv hh) HA5.out.row HSZ.out (by rw [bv_length, HH.out, mlen zero32_len]; omega) (bv_one hh) ?_ ?_ ?_; go_simp; go_simp; intro w5' hr5' ht5'; have HA5' := Lib.hid (HA5.out.turned (by rw [mpart zero32_len HH.out] at hr5'; exact hr5') ht5' HG.out.1 HG.out.2.1 HG.out.2.2); have HV5' := Lib.hid (HV5.out.turned ht5' hlt3); have HS5' := Lib.hid ht5'.size; clear hr5' ht5'))
    refine (list_in p B r5 _ HA5'.out.rd hB HZ5.out).mono ?_
    rintro e w6 (⟨is, r6, v, hP6, rfl, ⟨his, css, L, R, hv⟩, hr6, hb6⟩ | ⟨c, hP6, rfl, hb6⟩)
    rotate_left
    · exact ⟨rfl, MsgDone.no (by unfold pMsg; simp only [HPF.out, HP2.out, HP3.out, HP4.out, HP5.out, hP6]) (HA5'.out.but.trans hb6)⟩
    have HW6 := Lib.hid (LVR.of hv)
    obtain ⟨IA, ic, rfl⟩ := hv.form
    have HA6 := Lib.hid (HA5'.out.call hb6 hr6 hgp)
    have HP6 := Lib.hid hP6
    have HZ6 := Lib.hid ((front_list front_in _ _ _ hP6).bytes HZ5.out)
    have HV6 := Lib.hid (HV5'.out.but hb6 (Nat.lt_trans hp hlt3))
    have HS6 := Lib.hid hb6.size
    have HIS := Lib.hid his
    have c37 := mc37 HA6.out.row HH.out
    have f37 := HA6.out.row.frozen 37
    clear hP6 hr6 hb6 hv his
    have c0 : w6.cell? ⟨w.heap.size, 0, none⟩ = some (.bool true) := HA6.out.row.cell 0
    go_wp2_with fail
    have HA6' := Lib.hid (HA6.out.set (mset37 HA6.out.row HH.out (.slice IA is.length ic)) HG.out.1 HG.out.2.1 HG.out.2.2)
    have HT6 := Lib.hid (turned_setCell w6 ⟨w.heap.size, 37, none⟩ (.slice IA is.length ic))
    clear c37 f37 c0
    generalize (w6.setCell ⟨w.heap.size, 37, none⟩ (.slice IA is.length ic)) = w6' at *
    have HS4a := HS4.out
    have HS5a := HS5.out
    have HS4b := HS4'.out
    have HS5b := HS5'.out
    have HV6' := Lib.hid (HV6.out.turned HT6.out hlt3)
    have HW6' := Lib.hid (HW6.out.turned HT6.out (by show w.heap.size < w5'.heap.size; omega))
    have HS6' := Lib.hid HT6.out.size
    clear HS4a HS5a HS4b HS5b
    refine (list_look p B r6 _ HA6'.out.rd hB HZ6.out).mono ?_
    rintro e w7 (⟨ls, r7, v, hP7, rfl, ⟨hls, css, L, R, hv⟩, hr7, hb7⟩ | ⟨c, hP7, rfl, hb7⟩)
    rotate_left
    · exact ⟨rfl, MsgDone.no (by unfold pMsg pLooks; simp only [HPF.out, HP2.out, HP3.out, HP4.out, HP5.out, HP6.out, if_true, hP7]) (HA6'.out.but.trans hb7)⟩
    have HX7 := Lib.hid (LVR.of hv)
    obtain ⟨LA, lc, rfl⟩ := hv.form
    have HA7 := Lib.hid (HA6'.out.call hb7 hr7 hgp)
    have HP7 := Lib.hid hP7
    have HS4a := HS4.out
    have HS5a := HS5.out
    have HS6a := HS6.out
    have HS4b := HS4'.out
    have HS5b := HS5'.out
    have HS6b := HS6'.out
    have HV7 := Lib.hid (HV6'.out.but hb7 (Nat.lt_trans hp hlt3))
    have HW7 := Lib.hid (HW6'.out.but hb7 (by omega))
    have HS7 := Lib.hid hb7.size
    have HLS := Lib.hid hls
    have c38 := mc38 HA7.out.row HH.out
    have f38 := HA7.out.row.frozen 38
    have ha7 := HA7.out.set (mset38 HA7.out.row HH.out (.slice LA ls.length lc)) HG.out.1 HG.out.2.1 HG.out.2.2
    have ht7 := turned_setCell w7 ⟨w.heap.size, 38, none⟩ (.slice LA ls.length lc)
    have HA7' := Lib.hid ha7
    have HT7 := Lib.hid ht7
    clear hP7 hr7 hb7 hv hls HS4a HS5a HS6a HS4b HS5b HS6b ha7 ht7
    have hsz : (Try.prog.info? 31).map (·.size) = some (mcells true s rs ro (.slice KA ks.length kc) hh (.slice IA is.length ic) (.slice LA ls.length lc)).length := by rw [size_msg, mlen HH.out]
    have HSM := Lib.hid hsz
    clear hsz
    go_wp2_with (first
      | (with_reducible show wpList _ _ _ ({ dst := some 49, op := Op.load _ _, type := _, pos := _, after := _, guard := _ } :: _) _ _; go_must (refine wpList_load_whole rfl 31 (.tmp 2) rfl w.heap.size 31 (mcells true s rs ro (.slice KA ks.length kc) hh (.slice IA is.length ic) (.slice LA ls.length lc)) _ Try.underlying31 rfl HSM.out HA7'.out.row ?_ ?_; go_simp))
      | (with_reducible show wpList _ _ _ ({ dst := none, op := Op.store 31 _ _, type := _, pos := _, after := _, guard := _ } :: _) _ _; go_must (refine wpList_store_whole rfl 31 (.tmp 2) (.tmp 49) rfl w.heap.size (mcells true s rs ro (.slice KA ks.length kc) hh (.slice IA is.length ic) (.slice LA ls.length lc)) (mcells true s rs ro (.slice KA ks.length kc) hh (.slice IA is.length ic) (.slice LA ls.length lc)) HA7'.out.row HSM.out rfl (mone rfl rfl rfl) ?_ ?_ ?_; go_simp; go_simp; intro w8 hr8 ht8; have HA8 := Lib.hid (HA7'.out.turned hr8 ht8 HG.out.1 HG.out.2.1 HG.out.2.2); have HT8 := Lib.hid ht8; clear hr8 ht8)))
    refine bodyPost_ret (results_cell_row (h := rfl) _ w8 w.heap.size 31 _ (0, 0) _ (by rfl) HA8.out.row.is Try.underlying31 rfl (by rw [List.size_toArray]; exact HSM.out)) rfl ?_
    have e4 := HS4.out
    have e4' := HS4'.out
    have e5 := HS5.out
    have e5' := HS5'.out
    have e6 := HS6.out
    have e7 := HT7.out.size
    have e8 := HT8.out.size
    have e6' := HS6'.out
    have e7' := HS7.out
    have v7 := HX7.out.turned HT7.out (by show w.heap.size < w6'.heap.size; omega)
    have v8 := v7.turned HT8.out (by omega)
    have k7 := HV7.out.turned HT7.out hlt3
    have k8 := k7.turned HT8.out hlt3
    have i7 := HW7.out.turned HT7.out (by show w.heap.size < w5'.heap.size; omega)
    have i8 := i7.turned HT8.out (by omega)
    refine .inl ⟨⟨true, s, rs, ro, ks, hh, is, ls⟩, r7, _, ?_, rfl, ⟨⟨KA, ks.length, kc, IA, is.length, ic, LA, ls.length, lc⟩, rfl, HH.out, ⟨HKS.out, HIS.out, HLS.out⟩, _, _, _, _, _, _, ?_, k8, i8, v8⟩, HA8.out.rd, HA8.out.but⟩
    · unfold pMsg pLooks; simp only [HPF.out, HP2.out, HP3.out, HP4.out, HP5.out, HP6.out, if_true, HP7.out]
    · refine ⟨?_, ?_, ?_, ?_, ?_, ?_, ?_⟩ <;> omega
  · have hx' : (x == 128) = false := by simp [hx8]
    have HX := Lib.hid hx8
    clear hx8
    go_wp2_with fail
    have HA := Lib.hid (((HA1.out.set (mset0 HA1.out.row false) HG.out.1 HG.out.2.1 HG.out.2.2)).set (mset1 (mset0 HA1.out.row false) x) HG.out.1 HG.out.2.1 HG.out.2.2)
    clear c0 f0 c1 f1 hx'
    generalize ((w1.setCell ⟨w.heap.size, 0, none⟩ (.bool false)).setCell ⟨w.heap.size, 1, none⟩ (.int .u8 x)) = w1' at *
    have HPF : Hid (pFirst zs = .ok ((false, x), r1)) := Lib.hid (by unfold pFirst; simp only [HP1.out, if_neg (show ¬ 128 < x by have := HNX.out; omega), if_neg HX.out])
    have HZR := HZ1
    refine (octet_ p B r1 _ HA.out.rd hB).mono ?_
    rintro e w2 (⟨rs, r2, v, hP2, rfl, rfl, hr2, hb2⟩ | ⟨c, hP2, rfl, hb2⟩)
    rotate_left
    · exact ⟨rfl, MsgDone.no (by unfold pMsg; simp only [HPF.out, hP2]) (HA.out.but.trans hb2)⟩
    have HA2 := Lib.hid (HA.out.call hb2 hr2 hgp)
    have HP2 := Lib.hid hP2
    have HZ2 := Lib.hid ((front_octet _ _ _ hP2).bytes HZR.out)
    have c2 : w2.cell? ⟨w.heap.size, 2, none⟩ = some (.int .u8 0) := HA2.out.row.cell 2
    have f2 := HA2.out.row.frozen 2
    clear hP2 hr2 hb2
    go_wp2_with fail
    have HA2' := Lib.hid (HA2.out.set (mset2 HA2.out.row rs) HG.out.1 HG.out.2.1 HG.out.2.2)
    clear c2 f2
    generalize (w2.setCell ⟨w.heap.size, 2, none⟩ (.int .u8 rs)) = w2' at *
    refine (octet_ p B r2 _ HA2'.out.rd hB).mono ?_
    rintro e w3 (⟨ro, r3, v, hP3, rfl, rfl, hr3, hb3⟩ | ⟨c, hP3, rfl, hb3⟩)
    rotate_left
    · exact ⟨rfl, MsgDone.no (by unfold pMsg; simp only [HPF.out, HP2.out, hP3]) (HA2'.out.but.trans hb3)⟩
    have HA3 := Lib.hid (HA2'.out.call hb3 hr3 hgp)
    have HP3 := Lib.hid hP3
    have HZ3 := Lib.hid ((front_octet _ _ _ hP3).bytes HZ2.out)
    have c3 : w3.cell? ⟨w.heap.size, 3, none⟩ = some (.int .u8 0) := HA3.out.row.cell 3
    have f3 := HA3.out.row.frozen 3
    clear hP3 hr3 hb3
    go_wp2_with fail
    have HA3' := Lib.hid (HA3.out.set (mset3 HA3.out.row ro) HG.out.1 HG.out.2.1 HG.out.2.2)
    clear c3 f3
    generalize (w3.setCell ⟨w.heap.size, 3, none⟩ (.int .u8 ro)) = w3' at *
    have hlt3 := HA3'.out.row.lt
    refine (list_key p B r3 _ HA3'.out.rd hB HZ3.out).mono ?_
    rintro e w4 (⟨ks, r4, v, hP4, rfl, ⟨hks, css, L, R, hv⟩, hr4, hb4⟩ | ⟨c, hP4, rfl, hb4⟩)
    rotate_left
    · exact ⟨rfl, MsgDone.no (by unfold pMsg; simp only [HPF.out, HP2.out, HP3.out, hP4]) (HA3'.out.but.trans hb4)⟩
    have HV4 := Lib.hid (LVR.of hv)
    obtain ⟨KA, kc, rfl⟩ := hv.form
    have HA4 := Lib.hid (HA3'.out.call hb4 hr4 hgp)
    have HP4 := Lib.hid hP4
    have HZ4 := Lib.hid ((front_list (front_take 32) _ _ _ hP4).bytes HZ3.out)
    have HS4 := Lib.hid hb4.size
    have HKS := Lib.hid hks
    have c4 : w4.cell? ⟨w.heap.size, 4, none⟩ = some (.slice none 0 0) := HA4.out.row.cell 4
    have f4 := HA4.out.row.frozen 4
    clear hP4 hr4 hb4 hv hks
    go_wp2_with fail
    have HA4' := Lib.hid (HA4.out.set (mset4 HA4.out.row (.slice KA ks.length kc)) HG.out.1 HG.out.2.1 HG.out.2.2)
    have HT4 := Lib.hid (turned_setCell w4 ⟨w.heap.size, 4, none⟩ (.slice KA ks.length kc))
    clear c4 f4
    generalize (w4.setCell ⟨w.heap.size, 4, none⟩ (.slice KA ks.length kc)) = w4' at *
    have HV4' := Lib.hid (HV4.out.turned HT4.out hlt3)
    have HS4' := Lib.hid HT4.out.size
    refine (key_ p B r4 _ HA4'.out.rd hB).mono ?_
    rintro e w5 (⟨hh, r5, v, hP5, rfl, ⟨rfl, hh32⟩, hr5, hb5⟩ | ⟨c, hP5, rfl, hb5⟩)
    rotate_left
    · exact ⟨rfl, MsgDone.no (by unfold pMsg; simp only [HPF.out, HP2.out, HP3.out, HP4.out, hP5]) (HA4'.out.but.trans hb5)⟩
    have HA5 := Lib.hid (HA4'.out.call hb5 hr5 hgp)
    have HP5 := Lib.hid hP5
    have HZ5 := Lib.hid ((front_take 32 _ _ _ hP5).bytes HZ4.out)
    have HV5 := Lib.hid (HV4'.out.but hb5 (Nat.lt_trans hp hlt3))
    have HS5 := Lib.hid hb5.size
    have HH := Lib.hid hh32
    have hsz : (Try.prog.info? 27).map (·.size) = some (bv hh).length := by rw [size_hash, bv_length, hh32]
    have HSZ := Lib.hid hsz
    clear hP5 hr5 hb5 hh32 hsz
    go_wp2_with (with_reducible show wpList _ _ _ ({ dst := none, op := Op.store 27 _ _, type := _, pos := _, after := _, guard := _ } :: _) _ _; go_must (refine wpList_store_part rfl 27 (.tmp 36) (.tmp 35) rfl w.heap.size 31 5 _ (bv hh) HA5.out.row HSZ.out (by rw [bv_length, HH.out, mlen zero32_len]; omega) (bv_one hh) ?_ ?_ ?_; go_simp; go_simp; intro w5' hr5' ht5'; have HA5' := Lib.hid (HA5.out.turned (by rw [mpart zero32_len HH.out] at hr5'; exact hr5') ht5' HG.out.1 HG.out.2.1 HG.out.2.2); have HV5' := Lib.hid (HV5.out.turned ht5' hlt3); have HS5' := Lib.hid ht5'.size; clear hr5' ht5'))
    refine (list_in p B r5 _ HA5'.out.rd hB HZ5.out).mono ?_
    rintro e w6 (⟨is, r6, v, hP6, rfl, ⟨his, css, L, R, hv⟩, hr6, hb6⟩ | ⟨c, hP6, rfl, hb6⟩)
    rotate_left
    · exact ⟨rfl, MsgDone.no (by unfold pMsg; simp only [HPF.out, HP2.out, HP3.out, HP4.out, HP5.out, hP6]) (HA5'.out.but.trans hb6)⟩
    have HW6 := Lib.hid (LVR.of hv)
    obtain ⟨IA, ic, rfl⟩ := hv.form
    have HA6 := Lib.hid (HA5'.out.call hb6 hr6 hgp)
    have HP6 := Lib.hid hP6
    have HZ6 := Lib.hid ((front_list front_in _ _ _ hP6).bytes HZ5.out)
    have HV6 := Lib.hid (HV5'.out.but hb6 (Nat.lt_trans hp hlt3))
    have HS6 := Lib.hid hb6.size
    have HIS := Lib.hid his
    have c37 := mc37 HA6.out.row HH.out
    have f37 := HA6.out.row.frozen 37
    clear hP6 hr6 hb6 hv his
    have c0 : w6.cell? ⟨w.heap.size, 0, none⟩ = some (.bool false) := HA6.out.row.cell 0
    have ha6 := HA6.out.set (mset37 HA6.out.row HH.out (.slice IA is.length ic)) HG.out.1 HG.out.2.1 HG.out.2.2
    have ht6 := turned_setCell w6 ⟨w.heap.size, 37, none⟩ (.slice IA is.length ic)
    have HA7' := Lib.hid ha6
    have HT7 := Lib.hid ht6
    clear ha6 ht6
    have hsz : (Try.prog.info? 31).map (·.size) = some (mcells false x rs ro (.slice KA ks.length kc) hh (.slice IA is.length ic) (.slice none 0 0)).length := by rw [size_msg, mlen HH.out]
    have HSM := Lib.hid hsz
    clear hsz
    go_wp2_with (first
      | (with_reducible show wpList _ _ _ ({ dst := some 49, op := Op.load _ _, type := _, pos := _, after := _, guard := _ } :: _) _ _; go_must (refine wpList_load_whole rfl 31 (.tmp 2) rfl w.heap.size 31 (mcells false x rs ro (.slice KA ks.length kc) hh (.slice IA is.length ic) (.slice none 0 0)) _ Try.underlying31 rfl HSM.out HA7'.out.row ?_ ?_; go_simp))
      | (with_reducible show wpList _ _ _ ({ dst := none, op := Op.store 31 _ _, type := _, pos := _, after := _, guard := _ } :: _) _ _; go_must (refine wpList_store_whole rfl 31 (.tmp 2) (.tmp 49) rfl w.heap.size (mcells false x rs ro (.slice KA ks.length kc) hh (.slice IA is.length ic) (.slice none 0 0)) (mcells false x rs ro (.slice KA ks.length kc) hh (.slice IA is.length ic) (.slice none 0 0)) HA7'.out.row HSM.out rfl (mone rfl rfl rfl) ?_ ?_ ?_; go_simp; go_simp; intro w8 hr8 ht8; have HA8 := Lib.hid (HA7'.out.turned hr8 ht8 HG.out.1 HG.out.2.1 HG.out.2.2); have HT8 := Lib.hid ht8; clear hr8 ht8)))
    refine bodyPost_ret (results_cell_row (h := rfl) _ w8 w.heap.size 31 _ (0, 0) _ (by rfl) HA8.out.row.is Try.underlying31 rfl (by rw [List.size_toArray]; exact HSM.out)) rfl ?_
    have e4 := HS4.out
    have e4' := HS4'.out
    have e5 := HS5.out
    have e5' := HS5'.out
    have e6 := HS6.out
    have e7 := HT7.out.size
    have e8 := HT8.out.size
    have k7 := HV6.out.turned HT7.out hlt3
    have k8 := k7.turned HT8.out hlt3
    have i7 := HW6.out.turned HT7.out (by show w.heap.size < w5'.heap.size; omega)
    have i8 := i7.turned HT8.out (by omega)
    have v8 := LVR.nil (EV := LookV) (e := 93) (size := 34) (lo := w8.heap.size) w8 (Nat.le_refl _)
    refine .inl ⟨⟨false, x, rs, ro, ks, hh, is, []⟩, r6, _, ?_, rfl, ⟨⟨KA, ks.length, kc, IA, is.length, ic, none, 0, 0⟩, rfl, HH.out, ⟨HKS.out, HIS.out, by simp⟩, _, _, _, _, _, _, ?_, k8, i8, v8⟩, HA8.out.rd, HA8.out.but⟩
    · unfold pMsg pLooks; simp only [HPF.out, HP2.out, HP3.out, HP4.out, HP5.out, HP6.out]; rfl
    · refine ⟨?_, ?_, ?_, ?_, ?_, ?_, ?_⟩ <;> omega
end Go.Proofs.Ytolijdbdpnbchaa
