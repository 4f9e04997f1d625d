/-
  ferryhouselaw03.lives: the chapter's example.
-/
import Derived.Test.YtidggfbjmmjmfaaGetMsg
import Derived.Test.YtidggfbjmmjmfaaZeros
import Derived.Test.YtidggfbjmmjmfaaGuard
import Derived.Test.YtidggfbjmmjmfaaSame
namespace Go.Proofs.Ytidggfbjmmjmfaa
open Go.RowKit
set_option linter.unusedVariables false

def ones (i : Nat) : List Int := List.replicate i 1 ++ List.replicate (32 - i) 0
theorem ones_len {i : Nat} (h : i ≤ 32) : (ones i).length = 32 := by simp [ones]; omega
theorem ones_set {i : Nat} (h : i < 32) : (bv (ones i)).set i (.int .u8 1) = bv (ones (i + 1)) := by
  unfold ones bv cv
  rw [show 32 - i = (32 - (i + 1)) + 1 by omega, List.replicate_succ, List.map_append, List.map_cons, List.set_append_right _ _ (by simp)]
  simp [List.replicate_succ']
theorem ones_cell {i : Nat} (h : i < 32) : (bv (ones i))[i]? = some (.int .u8 0) := by
  unfold ones
  rw [bv_getElem?, List.getElem?_append_right (by simp), List.length_replicate, Nat.sub_self, List.getElem?_replicate_of_lt (by omega)]
  rfl
theorem ones_all : ones 32 = List.replicate 32 1 := rfl
def exKey : List Int := List.replicate 32 1
def exMsg (v0 : Bool) : LMsg := ⟨v0, 1, 0, 0, [exKey], zero32, [], []⟩
def exRaw (k : Nat) : Raw := ⟨some ⟨k, 0, none⟩, 1, 1, none, 0, 0, none, 0, 0⟩
def exWant : List Int := [1, 0, 0, 1] ++ exKey ++ List.replicate 32 0 ++ [0]
theorem ex_enc0 : enc (exMsg false) = exWant := by decide
theorem ex_enc1 : enc (exMsg true) = [128] ++ exWant ++ [0] := by decide
theorem ex_fits (v0 : Bool) : Fits (exMsg v0) := by
  unfold Fits exMsg
  exact ⟨.inr ⟨rfl, by show (1 : Int) < 128; omega⟩, by simp, by simp, by simp, by simp, by simp⟩
theorem ex_pmsg : pMsg [129] = .error 4 := rfl
theorem ex_in {w : World} {k t : Nat} (hr : Row w k t (bv exKey)) (v0 : Bool) : MsgIn w w.heap.size (exRaw k) (exMsg v0) :=
  ⟨rfl, ⟨rfl, by simp [exMsg, exKey], by
      have := hr.sees0
      simpa [exMsg, exRaw, bv_length, exKey] using this⟩, ⟨rfl, fun i x h => by simp [exMsg] at h⟩, ⟨rfl, fun i x h => by simp [exMsg] at h⟩, by simp [exRaw, maxLen], by simp [exRaw, maxLen], by simp [exRaw, maxLen]⟩

theorem same_yes3 (A B : Option Addr) (n m c d : Nat) (xs : List Int) (w : World) (S T : Nat)
    (hx : Sees w S A n (bv xs)) (hy : Sees w T B m (bv xs)) (hn : n ≤ maxLen) (hm : m ≤ maxLen) :
    Calls Try.prog 13 #[.slice A n c, .slice B m d] w fun e w' => e = .returned (.bool true) ∧ ∃ k, w' = w.drewN k := by
  refine (sameBytes A B n m c d xs xs w S T hx hy hn hm).mono ?_
  rintro e w' ⟨rfl, k, rfl⟩
  exact ⟨by simp, k, rfl⟩

theorem info_key3 : (Try.prog.info? 53).map (fun i => (i.zero, i.size, i.bytes)) = some (some (.agg (zeros 32).toArray), 32, 32) := by kernel_rfl

set_option maxRecDepth 100000 in
set_option maxHeartbeats 2000000 in
theorem lives3 (w : World) : Calls Try.prog 9 #[] w fun e w' => e = .returned (.bool true) ∧ Below w.heap.size w w' := by
  have hk0 := Row.new w 53 (zeros 32)
  have HK0 := Lib.hid hk0
  have hcells : ∀ u ∈ mcells false 1 0 0 (.slice (some ⟨w.heap.size, 0, none⟩) 1 1) zero32 (.slice none 0 0) (.slice none 0 0), u.oneCell' = true := mone rfl rfl rfl
  have HCE := Lib.hid hcells
  clear hk0 hcells
  go_enter Try.func9, Try.ntmps9
  go_wp2_with (first
    | ((with_reducible show wpList _ _ _ ({ dst := some 13, op := Op.buildSlice _ _ _, type := _, pos := _, after := _, guard := _ } :: _) _ _); go_must (refine wpList_buildOne rfl 24 53 (.tmp 12) rfl (zeros 32) _ 32 32 Try.underlying24 info_key3 (by kernel_rfl) (by omega) (by omega) (by rfl) ?_ ?_; (go_simp; kernel_rfl)))
    | ((with_reducible show wpList _ _ _ ({ dst := none, op := Op.store 30 _ _, type := _, pos := _, after := _, guard := _ } :: _) _ _); go_must (refine wpList_store_new rfl 30 (.tmp 1) (.tmp 14) rfl (mcells false 1 0 0 (.slice (some ⟨w.heap.size, 0, none⟩) 1 1) zero32 (.slice none 0 0) (.slice none 0 0)) (by rw [size_msg, mlen zero32_len]) HCE.out (by simp [mlen zero32_len]) ?_ ?_ ?_; go_simp; (go_simp; kernel_rfl); intro w2 hr2 hb2 hz2)))
  have ez : (w.alloc (.cells (zeros 32).toArray 53)).heap.size = w.heap.size + 1 := by simp
  rw [ez] at hr2 hb2 hz2
  have HK2 : Hid (Row w2 w.heap.size 53 (bv (ones 0))) := Lib.hid (HK0.out.below hb2 (by omega))
  have HR2 := Lib.hid hr2
  have HB2 := Lib.hid (((Below.refl w.heap.size w).alloc (Nat.le_refl _) (.cells (zeros 32).toArray 53)).trans (hb2.mono (Nat.le_succ _)))
  clear hr2 hb2 ez HCE HK0
  go_loopw [2] (fun i wr => ∃ k : Nat, k ≤ 32 ∧ i = .int .i64 k ∧ Row wr w.heap.size 53 (bv (ones k)) ∧ Row wr (w.heap.size + 1) 30 (mcells false 1 0 0 (.slice (some ⟨w.heap.size, 0, none⟩) 1 1) zero32 (.slice none 0 0) (.slice none 0 0)) ∧ Below w.heap.size w wr) (fun i _ => 32 - (intOf i).toNat)
  case atStart => exact ⟨0, Nat.zero_le _, rfl, HK2.out, HR2.out, HB2.out⟩
  case round =>
    clear HK2 HR2 HB2 hz2
    obtain ⟨k, hk, rfl, hkr, hmr, hb⟩ := hrel
    by_cases hlt : k < 32
    · have c4 : wr.cell? ⟨w.heap.size + 1, 4, none⟩ = some (.slice (some ⟨w.heap.size, 0, none⟩) 1 1) := hmr.cell 4
      have ck : wr.cell? ⟨w.heap.size, k, none⟩ = some (.int .u8 0) := (hkr.cell k).trans (ones_cell hlt)
      have fk := hkr.frozen k
      have ht := turned_setCell wr ⟨w.heap.size, k, none⟩ (.int .u8 1)
      have hkr2 := hkr.set_ k (.int .u8 1)
      rw [ones_set hlt] at hkr2
      have HKR := Lib.hid hkr2
      have HMR := Lib.hid (ht.row hmr (show w.heap.size + 1 ≠ w.heap.size by omega))
      have HB := Lib.hid (hb.trans (ht.below (Nat.le_refl _)))
      clear hkr hmr hb ht hkr2
      go_wp2_with fail
      go_roundw
      case rel => exact ⟨k + 1, by omega, by go_num, HKR.out, HMR.out, HB.out⟩
      case measure => simp [intOf]; omega
    · have hk32 : Row wr w.heap.size 53 (bv exKey) := by
        have e : k = 32 := by omega
        rw [e, ones_all] at hkr
        exact hkr
      have HK := Lib.hid hk32
      have HM := Lib.hid hmr
      have HB := Lib.hid hb
      have c4 : wr.cell? ⟨w.heap.size + 1, 4, none⟩ = some (.slice (some ⟨w.heap.size, 0, none⟩) 1 1) := hmr.cell 4
      have hsz : w.heap.size + 1 < wr.heap.size := hmr.lt
      have hl4 := Row.new wr 5 (bv [1, 0, 0, 1])
      have ho4 : OwnB (wr.alloc (.cells (bv [1, 0, 0, 1]).toArray 5)) wr.heap.size (.slice (some ⟨wr.heap.size, 0, none⟩) 4 4) [1, 0, 0, 1] := hl4.own_all (Nat.le_refl _) (by simp [bv_length, maxLen])
      have hsk : Sees (wr.alloc (.cells (bv [1, 0, 0, 1]).toArray 5)) (wr.heap.size + 1) (some ⟨w.heap.size, 0, none⟩) 32 (bv exKey) := by
        have := (hk32.alloc (.cells (bv [1, 0, 0, 1]).toArray 5)).sees_at (o := 0) (n := 32) (xs := bv exKey) rfl (fun j u hu => by rw [Nat.zero_add]; exact hu)
        exact this.more (by simp)
      have HO4 := Lib.hid ho4
      have HSK := Lib.hid hsk
      have HB4 := Lib.hid ((Below.refl wr.heap.size wr).alloc (Nat.le_refl _) (.cells (bv [1, 0, 0, 1]).toArray 5))
      clear hk32 hmr hb hkr hl4 ho4 hsk
      go_wp2_with (first
        | ((with_reducible show wpList _ _ _ ({ dst := some 29, op := _, type := _, pos := _, after := _, guard := _ } :: _) _ _); at_builtin; go_must (refine wpList_addB (w := wr.alloc (.cells (bv [1, 0, 0, 1]).toArray 5)) rfl (.tmp 24) (.tmp 28) 34 rfl wr.heap.size Try.underlying34 info_u8 _ [1, 0, 0, 1] ?_ HO4.out _ _ 32 32 exKey ?_ HSK.out HB4.out.size (by simp [exKey]) ?_; go_simp; go_simp; intro v5 w5 ho5 hg5; have hb5 := HB4.out.trans (hg5.belowB HO4.out HB4.out.size); have hm5 := HM.out.below hb5 (by omega); have hs5 : Sees w5 w5.heap.size (some ⟨w.heap.size + 1, 5, none⟩) 32 (bv (List.replicate 32 0)) := hm5.sees_at (o := 5) rfl (fun j u hu => (cells_recent (q := exRaw w.heap.size) (m := exMsg false) (j := j) (u := u) hu)); have HO5 := Lib.hid ho5; have HB5 := Lib.hid hb5; have HS5 := Lib.hid hs5; clear ho5 hg5 hb5 hm5 hs5))
        | ((with_reducible show wpList _ _ _ ({ dst := some 31, op := _, type := _, pos := _, after := _, guard := _ } :: _) _ _); go_must (refine wpList_addNoughts rfl (.tmp 30) (.const (.int .i64 32)) 34 3 rfl .i64 wr.heap.size Try.underlying34 Try.underlying3 info_u8 _ ([1, 0, 0, 1] ++ exKey) 32 _ _ ?_ HO5.out rfl HS5.out (by omega) HB5.out.size (by simp [exKey]) ?_; go_simp; intro v6 w6 ho6 hg6; have hb6 := HB5.out.trans (hg6.belowB HO5.out HB5.out.size); have HO6 := Lib.hid ho6; have HB6 := Lib.hid hb6; clear ho6 hg6 hb6))
        | ((with_reducible show wpList _ _ _ ({ dst := some 33, op := _, type := _, pos := _, after := _, guard := _ } :: _) _ _); go_must (refine wpList_addLit rfl (.tmp 31) (.tmp 32) 34 rfl wr.heap.size Try.underlying34 info_u8 _ ([1, 0, 0, 1] ++ exKey ++ List.replicate 32 0) [0] 1 rfl ?_ HO6.out ?_ HB6.out.size (by simp [exKey]) ?_; go_simp; go_simp; intro v7 w7 ho7 hg7; have hb7 := HB6.out.trans (hg7.belowB HO6.out HB6.out.size); have hm7 := HM.out.below hb7 (by omega); have hk7 := HK.out.below hb7 (by omega); have HO7 : Hid (OwnB w7 wr.heap.size v7 exWant) := Lib.hid ho7; have HB7 := Lib.hid hb7; have HM7 := Lib.hid hm7; have HK7 := Lib.hid hk7; clear ho7 hg7 hb7 hm7 hk7))
        | ((with_reducible show wpList _ _ _ ({ dst := some 35, op := Op.load _ _, type := _, pos := _, after := _, guard := _ } :: _) _ _); go_must (refine wpList_load_whole rfl 30 (.tmp 1) rfl (w.heap.size + 1) 30 (mcells false 1 0 0 (.slice (some ⟨w.heap.size, 0, none⟩) 1 1) zero32 (.slice none 0 0) (.slice none 0 0)) _ Try.underlying30 rfl (by rw [size_msg, mlen zero32_len]) HM7.out ?_ ?_; go_simp)))
      obtain ⟨A7, c7, rfl⟩ := HO7.out.form
      have hP1 := put_ok (exRaw w.heap.size) (exMsg false) w7.heap.size w7 (ex_in HK7.out false) (Nat.le_refl _) (ex_fits _) (by rw [ex_enc0]; decide)
      rw [ex_enc0] at hP1
      have hz7 := HB7.out.size
      refine hP1.mono ?_
      rintro e w8 ⟨g8, rest8, rfl, hg8, hr8, hb8⟩
      have hm8 := HM7.out.below hb8 (by omega)
      have c0 : w8.cell? ⟨w.heap.size + 1, 0, none⟩ = some (.bool false) := hm8.cell 0
      have f0 := hm8.frozen 0
      have ht9 := turned_setCell w8 ⟨w.heap.size + 1, 0, none⟩ (.bool true)
      have hm9 := mset0 hm8 true
      have ho9 := (HO7.out.below hb8).turned ht9 hsz
      have hk9 := ht9.row (HK7.out.below hb8 (by omega)) (show w.heap.size ≠ w.heap.size + 1 by omega)
      have hr9 := ht9.row hr8 (show g8 ≠ w.heap.size + 1 by omega)
      have hb9 := (HB7.out.trans (hb8.mono hz7))
      have hB9 := (HB.out.trans (hb9.mono (by omega))).trans (ht9.below (show w.heap.size ≤ w.heap.size + 1 by omega))
      have hs9 : (w8.setCell ⟨w.heap.size + 1, 0, none⟩ (.bool true)).heap.size = w8.heap.size := ht9.size
      have hz8 := hb8.size
      have HM9 := Lib.hid hm9
      have HO9 := Lib.hid ho9
      have HK9 := Lib.hid hk9
      have HR9 := Lib.hid hr9
      have HB9 := Lib.hid hB9
      have HS9 := Lib.hid hs9
      clear hm8 ht9 hm9 ho9 hk9 hr9 hb9 hB9 hs9 hr8 hb8 hP1 HO4 HSK HB4 HO5 HB5 HS5 HO6 HB6 HO7 HB7 HM7 HK7 c4 HK HM HB
      go_wp2_with ((with_reducible show wpList _ _ _ ({ dst := some 41, op := Op.load _ _, type := _, pos := _, after := _, guard := _ } :: _) _ _); go_must (refine wpList_load_whole rfl 30 (.tmp 1) rfl (w.heap.size + 1) 30 (mcells true 1 0 0 (.slice (some ⟨w.heap.size, 0, none⟩) 1 1) zero32 (.slice none 0 0) (.slice none 0 0)) _ Try.underlying30 rfl (by rw [size_msg, mlen zero32_len]) HM9.out ?_ ?_; go_simp))
      generalize (w8.setCell ⟨w.heap.size + 1, 0, none⟩ (.bool true)) = w9 at *
      have hP2 := put_ok (exRaw w.heap.size) (exMsg true) w9.heap.size w9 (ex_in HK9.out true) (Nat.le_refl _) (ex_fits _) (by rw [ex_enc1]; decide)
      rw [ex_enc1] at hP2
      refine hP2.mono ?_
      rintro e w10 ⟨g10, rest10, rfl, hg10, hr10, hb10⟩
      have hz9 := HS9.out
      have hz10 := hb10.size
      have hG := get_ (some ⟨w10.heap.size, 0, none⟩) 1 1 (w10.heap.size + 1) [129] (w10.alloc (.cells (bv [129]).toArray 5)) (by
        have := (Row.new w10 5 (bv [129])).sees0
        exact this.more (by simp)) (by simp) (Nat.le_refl _) (by simp [maxLen]) (by intro z hz; simp at hz; subst hz; unfold IsByte; omega)
      have hba := (Below.refl w10.heap.size w10).alloc (Nat.le_refl _) (.cells (bv [129]).toArray 5)
      have HG := Lib.hid hG
      have HBA := Lib.hid hba
      have HR10 := Lib.hid hr10
      have HO10 := Lib.hid (HO9.out.below hb10)
      have HR10' := Lib.hid (HR9.out.below hb10 HR9.out.lt)
      have HB10 := Lib.hid (HB9.out.trans (hb10.mono (by omega)))
      have HZ10 := Lib.hid (And.intro hz9 hz10)
      clear hG hba hr10 hb10 hP2 HM9 HO9 HK9 HR9 HB9 HS9
      go_wp2_with fail
      refine HG.out.mono ?_
      rintro e w11 (⟨m, r, q, lo, hp, _⟩ | ⟨x, hp, rfl, hb11⟩)
      · rw [ex_pmsg] at hp
        cases hp
      obtain rfl : x = 4 := by
        rw [ex_pmsg] at hp
        cases hp
        rfl
      have hb11' := HBA.out.trans (hb11.mono (by simp))
      have HR11 := Lib.hid (HR10.out.below hb11' HR10.out.lt)
      have HO11 := Lib.hid (HO10.out.below hb11')
      have HR11' := Lib.hid (HR10'.out.below hb11' HR10'.out.lt)
      have HB11 := Lib.hid (HB10.out.trans (hb11'.mono HB10.out.size))
      clear hp hb11 hb11' HG HBA HR10 HO10 HR10' HB10
      go_wp2_with ((with_reducible show wpList _ _ _ ({ dst := none, op := Op.store 30 _ _, type := _, pos := _, after := _, guard := _ } :: _) _ _); go_must (refine wpList_store_new rfl 30 (.tmp 8) (.tmp 48) rfl mzero size_mz mzero_one rfl ?_ ?_ ?_; go_simp; go_simp; intro w12 hr12 hb12 hz12; have HR12 := Lib.hid (HR11.out.below hb12 HR11.out.lt); have HO12 := Lib.hid (HO11.out.below hb12); have HR12' := Lib.hid (HR11'.out.below hb12 HR11'.out.lt); have HB12 := Lib.hid (HB11.out.trans (hb12.mono HB11.out.size)); clear hr12 hb12))
      have hlw : exWant.length = 69 := by decide
      have hs8 : Sees w12 w12.heap.size (some ⟨g8, 0, none⟩) exWant.length (bv exWant) := HR12'.out.sees_at (o := 0) (bv_length _) (fun j u hu => by rw [Nat.zero_add, List.getElem?_append_left (List.getElem?_eq_some_iff.1 hu).1]; exact hu)
      refine (same_yes3 _ _ _ _ _ _ exWant w12 _ _ hs8 HO12.out.sees (by rw [hlw]; unfold maxLen; omega) (by rw [hlw]; unfold maxLen; omega)).mono ?_
      rintro e w13 ⟨rfl, k13, rfl⟩
      obtain ⟨w13, hw13⟩ : ∃ w13, w13 = w12.drewN k13 := ⟨_, rfl⟩
      have HR13 : Hid (Row w13 g10 5 (bv ([128] ++ exWant ++ [0]) ++ rest10)) := by rw [hw13]; exact Lib.hid (HR12.out.drewN k13)
      have HO13 : Hid (OwnB w13 wr.heap.size (.slice A7 exWant.length c7) exWant) := by rw [hw13]; exact Lib.hid (HO12.out.drewN k13)
      have HB13 : Hid (Below w.heap.size w w13) := by rw [hw13]; exact Lib.hid (below_drewN HB12.out k13)
      rw [← hw13]
      clear hw13 HR12 HR12' HO12 HB12 hs8
      have hl1 := Row.new w13 5 (bv [128])
      have ho1 : OwnB (w13.alloc (.cells (bv [128]).toArray 5)) w13.heap.size (.slice (some ⟨w13.heap.size, 0, none⟩) 1 1) [128] := hl1.own_all (Nat.le_refl _) (by simp [bv_length, maxLen])
      have HOL := Lib.hid ho1
      have hba := (Below.refl w13.heap.size w13).alloc (Nat.le_refl _) (.cells (bv [128]).toArray 5)
      have HSW := Lib.hid ((HO13.out.sees.below hba))
      have HBA := Lib.hid hba
      clear hl1 ho1 hba
      go_wp2_with (first
        | ((with_reducible show wpList _ _ _ ({ dst := some 66, op := _, type := _, pos := _, after := _, guard := _ } :: _) _ _); go_must (refine wpList_addBg (w := w13.alloc (.cells (bv [128]).toArray 5)) (by kernel_rfl) (.tmp 64) (.tmp 65) 34 rfl w13.heap.size Try.underlying34 info_u8 _ [128] ?_ HOL.out _ _ _ c7 exWant ?_ HSW.out HBA.out.size (by rw [List.length_append, hlw]; simp) ?_; go_simp; go_simp; intro v14 w14 ho14 hg14; have hb14 := HBA.out.trans (hg14.belowB HOL.out HBA.out.size); have HO14 := Lib.hid ho14; have HB14 := Lib.hid hb14; clear ho14 hg14 hb14))
        | ((with_reducible show wpList _ _ _ ({ dst := some 68, op := _, type := _, pos := _, after := _, guard := _ } :: _) _ _); go_must (refine wpList_addLitg (by kernel_rfl) (.tmp 66) (.tmp 67) 34 rfl w13.heap.size Try.underlying34 info_u8 _ ([128] ++ exWant) [0] 1 rfl ?_ HO14.out ?_ HB14.out.size (by rw [List.length_append, List.length_append, hlw]; simp) ?_; go_simp; go_simp; intro v15 w15 ho15 hg15; have hb15 := HB14.out.trans (hg15.belowB HO14.out HB14.out.size); obtain ⟨A15, c15, rfl⟩ := ho15.form; have HO15 := Lib.hid ho15; have HB15 := Lib.hid hb15; clear ho15 hg15 hb15)))
      have hl71 : ([128] ++ exWant ++ [0]).length = 71 := by decide
      have hr15 := HR13.out.below HB15.out HR13.out.lt
      have hs10 : Sees w15 w15.heap.size (some ⟨g10, 0, none⟩) 71 (bv ([128] ++ exWant ++ [0])) := hr15.sees_at (o := 0) (by rw [bv_length, hl71]) (fun j u hu => by rw [Nat.zero_add, List.getElem?_append_left (List.getElem?_eq_some_iff.1 hu).1]; exact hu)
      refine (same_yes3 _ A15 71 71 71 c15 ([128] ++ exWant ++ [0]) w15 _ _ hs10 (by have := HO15.out.sees; first | exact this | (rw [hl71] at this; exact this)) (by unfold maxLen; omega) (by unfold maxLen; omega)).mono ?_
      rintro e w16 ⟨rfl, k16, rfl⟩
      go_wp2_with fail
      go_ret
      exact ⟨rfl, below_drewN (HB13.out.trans (HB15.out.mono HB13.out.size)) k16⟩
end Go.Proofs.Ytidggfbjmmjmfaa
