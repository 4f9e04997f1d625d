/-
  ferryhouselaw04.lives: the chapter's example.
-/
import Derived.Test.YtolijdbdpnbchaaWholeTx
import Derived.Test.YtolijdbdpnbchaaPutTx
import Derived.Test.YtolijdbdpnbchaaSameTx
import Derived.Test.YtolijdbdpnbchaaKeep
import Derived.Test.YtolijdbdpnbchaaBookK
namespace Go.Proofs.Ytolijdbdpnbchaa
open Go.RowKit
set_option linter.unusedVariables false

def lKey : List Int := 1 :: List.replicate 31 0
def lMsg : LMsg := ⟨false, 1, 0, 0, [lKey], zero32, [], []⟩
def lRaw (k : Nat) : Raw := ⟨some ⟨k, 0, none⟩, 1, 1, none, 0, 0, none, 0, 0⟩
def lTx : LTx := ⟨[], lMsg⟩
def lWant : List Int := [0, 1, 0, 0, 1] ++ lKey ++ List.replicate 32 0 ++ [0]
theorem l_enc : encTx lTx = lWant := by decide
theorem l_len : lWant.length = 70 := by decide
theorem l_fits : Fits lMsg := by
  unfold Fits lMsg
  exact ⟨.inr ⟨rfl, by show (1 : Int) < 128; omega⟩, by simp, by simp, by simp, by simp, by simp⟩
theorem l_bytes : AllBytes lWant := by unfold AllBytes IsByte; decide
theorem l_wf : lTx.Wf := by
  refine ⟨by simp [lTx], ⟨(by constructor <;> decide), (by constructor <;> decide), (by constructor <;> decide), fun k hk => ?_, ⟨rfl, ?_⟩, by simp [lTx, lMsg], by simp [lTx, lMsg]⟩⟩
  · obtain rfl : k = lKey := by simpa [lTx, lMsg] using hk
    exact ⟨rfl, by unfold AllBytes IsByte; decide⟩
  · unfold AllBytes IsByte; decide
theorem l_tfits : TFits lTx := ⟨by simp [lTx], l_fits⟩
theorem l_whole : wTx lWant = .ok lTx := by
  have h := pTx_put l_tfits l_wf []
  rw [List.append_nil, l_enc] at h
  unfold wTx
  rw [if_neg (by rw [l_len]; omega), h]
  rfl
theorem l_more : wTx (lWant ++ [0]) = .error 4 := by
  have h := pTx_put l_tfits l_wf [0]
  rw [l_enc] at h
  unfold wTx
  rw [if_neg (by rw [List.length_append, l_len]; simp), h]
  rfl
theorem l_big (n : Nat) (h : 1232 < n) : wTx (List.replicate n 0) = .error 3 := by
  unfold wTx
  rw [if_pos (by rw [List.length_replicate]; exact h)]
theorem l_in {w : World} {k t : Nat} (hr : Row w k t (bv lKey)) : MsgIn w w.heap.size (lRaw k) lMsg :=
  ⟨rfl, ⟨rfl, by simp [lMsg, lKey], by
      have := hr.sees0
      simpa [lMsg, lRaw, bv_length, lKey] using this⟩, ⟨rfl, fun i x h => by simp [lMsg] at h⟩, ⟨rfl, fun i x h => by simp [lMsg] at h⟩, by simp [lRaw, maxLen], by simp [lRaw, maxLen], by simp [lRaw, maxLen]⟩
theorem l_tin {w : World} {k t : Nat} (hr : Row w k t (bv lKey)) : TxIn w w.heap.size ⟨none, 0, 0, lRaw k⟩ lTx :=
  ⟨⟨rfl, by simp [lTx], Sees.nil _ _ _⟩, by simp [maxLen], l_in hr⟩

/-- as many signatures as make it too long -/
def lTx19 : LTx := ⟨List.replicate 19 (List.replicate 64 0), lMsg⟩
theorem l_enc19 : (encTx lTx19).length = 1286 := by decide +kernel
theorem l_flat19 : bv lTx19.sigs.flatten = bv (List.replicate 1216 0) := by
  have : lTx19.sigs.flatten = List.replicate 1216 0 := by decide +kernel
  rw [this]
theorem made64 (n : Nat) : (madeCells (Value.agg (zeros 64).toArray).cells (n * 64)).toList = bv (List.replicate (n * 64) 0) := by
  apply List.ext_getElem?
  intro i
  have hz : (Value.agg (zeros 64).toArray).cells.size = 64 := by kernel_rfl
  have hv : ∀ j, j < 64 → (Value.agg (zeros 64).toArray).cells[j]! = .int .u8 0 := fun j hj => by
    rw [show (Value.agg (zeros 64).toArray).cells = (zeros 64).toArray from rfl]
    have hs : j < (zeros 64).toArray.size := by simp only [List.size_toArray, zeros, List.length_replicate]; exact hj
    rw [getElem!_pos (zeros 64).toArray j hs, List.getElem_toArray]
    exact List.eq_of_mem_replicate (List.getElem_mem _)
  simp only [madeCells, hz, bv, cv, List.map_replicate, Array.toList_map, Array.toList_range]
  by_cases h : i < n * 64
  · rw [List.getElem?_map, List.getElem?_range h, List.getElem?_replicate_of_lt h]
    simp [hv (i % 64) (by omega)]
  · rw [List.getElem?_eq_none (by simp; omega), List.getElem?_eq_none (by simp; omega)]
theorem made19 : (madeCells (Value.agg (zeros 64).toArray).cells (19 * 64)).toList = bv (List.replicate 1216 0) := made64 19
theorem l_in19 {w : World} {k t g : Nat} (hr : Row w k t (bv lKey)) (hg : Row w g 62 (bv (List.replicate 1216 0))) : TxIn w w.heap.size ⟨some ⟨g, 0, none⟩, 19, 19, lRaw k⟩ lTx19 := by
  refine ⟨⟨rfl, fun y hy => ?_, ?_⟩, by simp [maxLen], l_in hr⟩
  · obtain rfl : y = List.replicate 64 0 := List.eq_of_mem_replicate hy
    rfl
  · rw [l_flat19]
    have := hg.sees0
    rw [bv_length, List.length_replicate] at this
    exact this

theorem split39 (m : List Value) (h : m.length = 39) : ∃ f : Fin 39 → Value, m = List.ofFn f := ⟨fun i => m.getD i undef, by
    refine List.ext_getElem (by simpa using h) fun i h1 h2 => ?_
    rw [List.getElem_ofFn, List.getD_eq_getElem?_getD, List.getElem?_eq_getElem h1]
    rfl⟩
theorem built_tx1 (m : List Value) (h : m.length = 39) : Try.prog.built 33 [(1, .agg m.toArray)] = some (.slice none 0 0 :: m).toArray := by
  obtain ⟨f, rfl⟩ := split39 m h
  kernel_rfl
theorem built_tx2 (m : List Value) (h : m.length = 39) (A : Option Addr) (n c : Nat) : Try.prog.built 33 [(1, .agg m.toArray), (0, .slice A n c)] = some (.slice A n c :: m).toArray := by
  obtain ⟨f, rfl⟩ := split39 m h
  kernel_rfl

theorem wp_make_full {P : Program} {w : World} {o : Oper} {a : Act} {K : Act → World → Prop} {Q : Exit → Act → World → Prop}
    (l c : Operand) (t : TypeId) (hop : o.op = Op.makeSlice t l c)
    (base : Nat) (e : TypeId) (i : TypeInfo) (z : Value) (size : Nat) (h1 : P.underlying t = some (.slice e)) (h2 : P.info? e = some i) (h3 : i.zero = some z) (h4 : i.size = size)
    (kl kc : IntKind) (n : Nat) (hl : a.eval l = .int kl n) (hc : a.eval c = .int kc n) (b2 : i.bytes * n ≤ 281474976710656) (b3 : n ≤ maxLen) (b4 : base ≤ w.heap.size)
    (hK : ∀ w', w'.ownsRow base e size (.slice (some ⟨w.heap.size, 0, none⟩) n n) n (madeCells z.cells (n * size)).toList → w.grownBy w' none → K (a.put o.dst (.slice (some ⟨w.heap.size, 0, none⟩) n n)) w') : o.wp P a w K Q := by
  obtain ⟨w', hrun, r1, r2⟩ := run_make_full (P := P) w base t e i z size h1 h2 h3 h4 kl kc n b2 b3 b4
  unfold Oper.wp
  simp [execOp, hop, hl, hc, hrun, Result.andThen]
  exact hK w' r1 r2

set_option maxRecDepth 100000 in
set_option maxHeartbeats 4000000 in
theorem lives4 (w : World) : Calls Try.prog 9 #[] w fun e w' => e = .returned (.bool true) ∧ Below w.heap.size w w' := by
  have hk0 := Row.new w 58 (bv lKey)
  have HK0 := Lib.hid hk0
  have ez : (w.alloc (.cells (bv lKey).toArray 58)).heap.size = w.heap.size + 1 := by simp
  obtain ⟨mc, hmc⟩ : ∃ mc, mc = Raw.cells (lRaw w.heap.size) lMsg := ⟨_, rfl⟩
  have HMC := Lib.hid hmc
  have HMO := Lib.hid (show ∀ u ∈ mc, u.oneCell' = true by rw [hmc]; exact cells_one)
  have HML := Lib.hid (show mc.length = 39 by rw [hmc]; exact cells_len rfl)
  have HSM := Lib.hid (show (Try.prog.info? 31).map (·.size) = some mc.length by rw [hmc, size_msg, cells_len rfl])
  clear hk0 hmc
  go_enter Try.func9, Try.ntmps9
  go_upto_region 2 with (first
    | ((with_reducible show wpList _ _ _ ({ dst := some 14, op := Op.buildSlice _ _ _, type := _, pos := _, after := _, guard := _ } :: _) _ _); go_must (refine wpList_buildOne rfl 25 58 (.tmp 13) rfl (bv lKey) _ 32 32 Try.underlying25 info_key (by kernel_rfl) (by omega) (by omega) (by rfl) ?_ ?_; (go_simp; kernel_rfl)))
    | ((with_reducible show wpList _ _ _ ({ dst := none, op := Op.store 31 _ _, type := _, pos := _, after := _, guard := _ } :: _) _ _); go_must (refine wpList_store_new rfl 31 (.tmp 1) (.tmp 15) rfl mc HSM.out HMO.out (by rw [HML.out]; rfl) ?_ ?_ ?_; go_simp; (rw [HMC.out]; go_simp; kernel_rfl); intro w2 hr2 hb2 hz2)))
  rw [ez] at hr2 hb2 hz2
  have K2 : Hid (Row w2 w.heap.size 58 (bv lKey)) := Lib.hid (HK0.out.below hb2 (by omega))
  have R2 := Lib.hid hr2
  have B2 := Lib.hid (((Below.refl w.heap.size w).alloc (Nat.le_refl _) (.cells (bv lKey).toArray 58)).trans (hb2.mono (Nat.le_succ _)))
  have Z2 := Lib.hid hz2
  have HP := Lib.hid (putTx ⟨none, 0, 0, lRaw w.heap.size⟩ lTx w2.heap.size w2 (l_tin K2.out) (Nat.le_refl _) (by simp [lTx]) (by decide))
  rw [show TRaw.cells ⟨none, 0, 0, lRaw w.heap.size⟩ lTx = .slice none 0 0 :: mc by rw [HMC.out]; rfl] at HP
  clear hr2 hb2 ez HK0 hz2
  go_wp2_with (first
    | ((with_reducible show wpList _ _ _ ({ dst := some 17, op := Op.load _ _, type := _, pos := _, after := _, guard := _ } :: _) _ _); go_must (refine wpList_load_whole rfl 31 (.tmp 1) rfl (w.heap.size + 1) 31 mc _ Try.underlying31 rfl HSM.out R2.out ?_ ?_; go_simp))
    | ((with_reducible show wpList _ _ _ ({ dst := some 18, op := Op.build _ _, type := _, pos := _, after := _, guard := _ } :: _) _ _); go_must (refine wpList_plain rfl fun K hK => wp_built _ _ _ rfl (by simp only [List.map_toArray, List.map_cons, List.map_nil]; exact built_tx1 mc HML.out) (hK _ _ ?_))))
  refine HP.out.mono ?_
  rintro e w3 (⟨hf, _⟩ | ⟨_, hlong, _⟩ | ⟨_, _, ⟨v, rfl, ho⟩, hb3⟩)
  · exact absurd l_fits hf
  · rw [l_enc, l_len] at hlong
    omega
  rw [l_enc] at ho
  obtain ⟨A, c, e1⟩ := ho.form
  have e2 : v = .slice A 70 c := e1
  subst e2
  have hcap : 70 ≤ c ∧ c ≤ maxLen := own_caps ho
  have hs3 : Sees w3 w3.heap.size A 70 (bv lWant) := ho.sees
  have O3 := Lib.hid ho
  have HVO := Lib.hid (show ∀ k, (Value.slice A 70 c).ownBlock = some k → w2.heap.size ≤ k ∧ k < w3.heap.size from ho.lt)
  have S3 := Lib.hid hs3
  have K3 := Lib.hid (K2.out.below hb3 K2.out.lt)
  have R3 := Lib.hid (R2.out.below hb3 R2.out.lt)
  have B3 := Lib.hid (B2.out.trans (hb3.mono B2.out.size))
  have Z3 := Lib.hid (show w2.heap.size ≤ w3.heap.size from hb3.size)
  have HW := Lib.hid (whole_ A 70 c w3.heap.size lWant w3 hs3 (Nat.le_refl _) hcap.1 hcap.2 l_bytes)
  clear ho e1 hs3 hb3 HP K2 R2 B2
  go_wp2_with fail
  refine HW.out.mono ?_
  rintro e w4 (⟨x, s, lo, hp, rfl, hlo, hv, hb4⟩ | ⟨x, hp, rfl, hb4⟩)
  rotate_left
  · rw [l_whole] at hp; cases hp
  obtain rfl : lTx = x := by rw [l_whole] at hp; cases hp; rfl
  obtain ⟨SA, sn, sc, q⟩ := s
  obtain rfl : sn = 0 := hv.in_.sigs.len.symm
  have htl : (TRaw.cells ⟨SA, 0, sc, q⟩ lTx).length = 40 := tcells_len rfl
  have HTSZ := Lib.hid (show (Try.prog.info? 33).map (·.size) = some (TRaw.cells ⟨SA, 0, sc, q⟩ lTx).length by rw [size_tx, htl])
  have HTL := Lib.hid htl
  have HTO := Lib.hid (tcells_one (s := ⟨SA, 0, sc, q⟩) (x := lTx))
  have HT0 := Lib.hid (show (TRaw.cells ⟨SA, 0, sc, q⟩ lTx)[0]? = some (.slice SA 0 sc) from rfl)
  have HTM := Lib.hid (tcells_m (s := ⟨SA, 0, sc, q⟩) (x := lTx))
  have HSQ := Lib.hid (show (Try.prog.info? 31).map (·.size) = some (q.cells lMsg).length by rw [size_msg, cells_len rfl])
  have HV4 := Lib.hid hv
  have O4 := Lib.hid (O3.out.below hb4)
  have S4 := Lib.hid (S3.out.below hb4)
  have K4 := Lib.hid (K3.out.below hb4 K3.out.lt)
  have R4 := Lib.hid (R3.out.below hb4 R3.out.lt)
  have B4 := Lib.hid (B3.out.trans (hb4.mono B3.out.size))
  have Z4 := Lib.hid (show w3.heap.size ≤ w4.heap.size from hb4.size)
  generalize TRaw.cells ⟨SA, 0, sc, q⟩ lTx = tc at *
  have HLO := Lib.hid hlo
  clear hp hv hlo hb4 htl HW O3 S3 K3 R3 B3
  go_upto_region 4 with (((with_reducible show wpList _ _ _ ({ dst := none, op := Op.store 33 _ _, type := _, pos := _, after := _, guard := _ } :: _) _ _); go_must (refine wpList_store_new rfl 33 (.tmp 4) (.tmp 25) rfl tc HTSZ.out HTO.out (by rw [HTL.out]; rfl) ?_ ?_ ?_; go_simp; go_simp; intro w5 hr5 hb5 hz5)))
  have R5x := Lib.hid hr5
  have HX5 : Hid (TxV w5 lo w4.heap.size ⟨SA, 0, sc, q⟩ lTx) := Lib.hid (HV4.out.stay hb5.size fun k a b => hb5.block k b)
  have O5 := Lib.hid (O4.out.below hb5)
  have S5 := Lib.hid (S4.out.below (hb5.mono Z4.out))
  have K5 := Lib.hid (K4.out.below hb5 K4.out.lt)
  have R5 := Lib.hid (R4.out.below hb5 R4.out.lt)
  have B5 := Lib.hid (B4.out.trans (hb5.mono B4.out.size))
  have Z5 := Lib.hid (show w4.heap.size < w5.heap.size by omega)
  have hl1 := Row.new w5 5 (bv [0])
  have HL1 := Lib.hid (show Sees (w5.alloc (.cells (bv [0]).toArray 5)) (w5.heap.size + 1) (some ⟨w5.heap.size, 0, none⟩) 1 (bv [0]) from hl1.sees0.more (by simp))
  have hba := (Below.refl w5.heap.size w5).alloc (Nat.le_refl _) (.cells (bv [0]).toArray 5)
  have HBA := Lib.hid hba
  have O5a := Lib.hid (O5.out.below hba)
  have HL70 := Lib.hid l_len
  clear hr5 hb5 hz5 hl1 hba O4 S4 K4 R4 B4 HV4 O5
  go_wp2_with (first
    | (at_builtin; (with_reducible show wpList _ _ _ ({ dst := some 30, op := _, type := _, pos := _, after := _, guard := _ } :: _) _ _); go_must (refine wpList_addBK (w := w5.alloc (.cells (bv [0]).toArray 5)) rfl (.tmp 28) (.tmp 29) 37 rfl w2.heap.size Try.underlying37 info_u8 A c lWant ?_ O5a.out (w5.heap.size + 1) (some ⟨w5.heap.size, 0, none⟩) 1 1 [0] ?_ HL1.out ?_ ?_ ?_; (go_simp; rfl); go_simp; (have := HBA.out.size; have := Z5.out; have := Z4.out; have := Z3.out; omega); (rw [List.length_append, HL70.out]; simp); intro v6 w6 ho6 hg6 hk6; have O6 := Lib.hid ho6; have S6 := Lib.hid hk6; have G6 := Lib.hid hg6; obtain ⟨A6, c6, e6⟩ := ho6.form; clear ho6 hg6 hk6)))
  have e7 : v6 = .slice A6 71 c6 := e6
  subst e7
  have hzs : w2.heap.size ≤ w5.heap.size := by have := Z5.out; have := Z4.out; have := Z3.out; omega
  have hgb : Below w2.heap.size w5 w6 := (HBA.out.mono hzs).trans (G6.out.belowB O5a.out (Nat.le_trans hzs HBA.out.size))
  have K6 := Lib.hid (K5.out.below hgb (by have := Z2.out; omega))
  have R6 := Lib.hid (R5.out.below hgb (by have := Z2.out; omega))
  have B6 := Lib.hid (B5.out.trans (hgb.mono (by have := Z2.out; omega)))
  have R6x := Lib.hid (G6.out.row (R5x.out.alloc (.cells (bv [0]).toArray 5)) (fun e => by have := HVO.out _ e.symm; have := Z4.out; omega))
  have HX6 : Hid (TxV w6 lo w4.heap.size ⟨SA, 0, sc, q⟩ lTx) := Lib.hid (HX5.out.stay (Nat.le_trans HBA.out.size G6.out.size) fun k a b => by
    have h1 := Z5.out
    have h2 := HLO.out
    exact (G6.out.grown.block k (by have := HBA.out.size; omega) (fun e => by have := HVO.out _ e.symm; omega)).trans (HBA.out.block k (by omega)))
  have hcap6 := own_caps O6.out
  have hs6 : Sees w6 w6.heap.size A6 71 (bv (lWant ++ [0])) := O6.out.sees
  have Z6 := Lib.hid (show w5.heap.size < w6.heap.size by have := G6.out.size; simp at this; omega)
  have HW := Lib.hid (whole_ A6 71 c6 w6.heap.size (lWant ++ [0]) w6 hs6 (Nat.le_refl _) hcap6.1 hcap6.2 (l_bytes.app (by intro z hz; simp at hz; subst hz; constructor <;> decide)))
  clear e6 hcap6 hs6 G6 O6 O5a HBA HL1 K5 R5 B5 R5x HX5 hgb S5
  refine HW.out.mono ?_
  rintro e w7 (⟨x, s, lo7, hp, rfl, hlo, hv, hb7⟩ | ⟨x, hp, rfl, hb7⟩)
  · rw [l_more] at hp; cases hp
  obtain rfl : x = 4 := by rw [l_more] at hp; cases hp; rfl
  have S7 := Lib.hid (S6.out.below hb7)
  have K7 := Lib.hid (K6.out.below hb7 K6.out.lt)
  have R7 := Lib.hid (R6.out.below hb7 R6.out.lt)
  have B7 := Lib.hid (B6.out.trans (hb7.mono B6.out.size))
  have R7x := Lib.hid (R6x.out.below hb7 R6x.out.lt)
  have HX7 : Hid (TxV w7 lo w4.heap.size ⟨SA, 0, sc, q⟩ lTx) := Lib.hid (HX6.out.stay hb7.size fun k a b => hb7.block k (by have := Z6.out; have := Z5.out; omega))
  have Z7 := Lib.hid (show w6.heap.size ≤ w7.heap.size from hb7.size)
  clear hp hb7 HW S6 K6 R6 B6 R6x HX6
  obtain ⟨i0, hi, hz0, hz1, hz2⟩ := info_parts info_u8
  go_wp2_with (first
    | ((with_reducible show wpList _ _ _ ({ dst := none, op := Op.store 33 (.tmp 6) _, type := _, pos := _, after := _, guard := _ } :: _) _ _); go_must (refine wpList_store_new rfl 33 (.tmp 6) (.tmp 32) rfl tzero size_tz tzero_one rfl ?_ ?_ ?_; go_simp; go_simp; intro w8 hr8 hb8 hz8))
    | (at_make; (with_reducible show wpList _ _ _ ({ dst := some 35, op := _, type := _, pos := _, after := _, guard := _ } :: _) _ _); go_must (refine wpList_make_full _ rfl (.const (.int .i64 1233)) (.const (.int .i64 1233)) 37 rfl w8.heap.size 5 i0 _ 1 Try.underlying37 hi hz0 hz1 .i64 .i64 1233 1233 1233 rfl rfl rfl rfl (by rw [hz2]; omega) (by unfold maxLen; omega) (Nat.le_refl _) ?_; intro w9 hown hgrow; rw [made_bytes] at hown; have hrow := Row.of_own hown; have hb9 := (Below.refl w8.heap.size w8).grown hgrow (Nat.le_refl _) (fun k hk => by cases hk); clear hown hgrow)))
  have hs9 := hrow.sees0
  rw [bv_length, List.length_replicate] at hs9
  have e8 : w8.heap.size = w7.heap.size + 1 := hz8
  have hbw := hb8.trans (hb9.mono (by omega))
  rw [e8] at hs9
  have HW := Lib.hid (whole_ (some ⟨w7.heap.size + 1, 0, none⟩) 1233 1233 w9.heap.size (List.replicate 1233 0) w9 hs9 (Nat.le_refl _) (Nat.le_refl _) (by unfold maxLen; omega) (fun z hz => by rw [List.eq_of_mem_replicate hz]; constructor <;> decide))
  have S9 := Lib.hid (S7.out.below (hbw.mono Z7.out))
  have K9 := Lib.hid (K7.out.below hbw K7.out.lt)
  have R9 := Lib.hid (R7.out.below hbw R7.out.lt)
  have B9 := Lib.hid (B7.out.trans (hbw.mono B7.out.size))
  have R9x := Lib.hid (R7x.out.below hbw R7x.out.lt)
  have HX9 : Hid (TxV w9 lo w4.heap.size ⟨SA, 0, sc, q⟩ lTx) := Lib.hid (HX7.out.stay hbw.size fun k a b => hbw.block k (by have := Z7.out; have := Z6.out; have := Z5.out; omega))
  have Z9 := Lib.hid (show w7.heap.size ≤ w9.heap.size from hbw.size)
  clear hs9 hrow hb8 hb9 hr8 hbw S7 K7 R7 B7 R7x HX7 hz8 e8 hi hz0 hz1 hz2
  refine HW.out.mono ?_
  rintro e w10 (⟨x, s, lo7, hp, rfl, hlo, hv, hb10⟩ | ⟨x, hp, rfl, hb10⟩)
  · rw [l_big 1233 (by omega)] at hp; cases hp
  obtain rfl : x = 3 := by rw [l_big 1233 (by omega)] at hp; cases hp; rfl
  have S10 := Lib.hid (S9.out.below (hb10.mono (by have := Z9.out; have := Z7.out; omega)))
  have K10 := Lib.hid (K9.out.below hb10 K9.out.lt)
  have R10 := Lib.hid (R9.out.below hb10 R9.out.lt)
  have B10 := Lib.hid (B9.out.trans (hb10.mono B9.out.size))
  have R10x := Lib.hid (R9x.out.below hb10 R9x.out.lt)
  have Z10 := Lib.hid (show w9.heap.size ≤ w10.heap.size from hb10.size)
  have HX10 : Hid (TxV w10 lo w4.heap.size ⟨SA, 0, sc, q⟩ lTx) := Lib.hid (HX9.out.stay hb10.size fun k a b => hb10.block k (by have := Z9.out; have := Z7.out; have := Z6.out; have := Z5.out; omega))
  clear hp hb10 HW S9 K9 R9 B9 R9x HX9
  go_upto_region 6 with (first
    | ((with_reducible show wpList _ _ _ ({ dst := none, op := Op.store 33 (.tmp 8) _, type := _, pos := _, after := _, guard := _ } :: _) _ _); go_must (refine wpList_store_new rfl 33 (.tmp 8) (.tmp 37) rfl tzero size_tz tzero_one rfl ?_ ?_ ?_; go_simp; go_simp; intro w11 hr11 hb11 hz11)))
  obtain ⟨V, hV⟩ : ∃ V, V = w11.drew := ⟨_, rfl⟩
  have SV : Hid (Sees V w6.heap.size A 70 (bv lWant)) := Lib.hid (by rw [hV]; exact (S10.out.below (hb11.mono (by have := Z10.out; have := Z9.out; have := Z7.out; omega))).drew)
  have KV : Hid (Row V w.heap.size 58 (bv lKey)) := Lib.hid (by rw [hV]; exact (K10.out.below hb11 K10.out.lt).drew)
  have RV : Hid (Row V (w.heap.size + 1) 31 mc) := Lib.hid (by rw [hV]; exact (R10.out.below hb11 R10.out.lt).drew)
  have BV : Hid (Below w.heap.size w V) := Lib.hid (by rw [hV]; exact (B10.out.trans (hb11.mono B10.out.size)).drew)
  have RVx : Hid (Row V w4.heap.size 33 tc) := Lib.hid (by rw [hV]; exact (R10x.out.below hb11 R10x.out.lt).drew)
  have HXV : Hid (TxV V lo w4.heap.size ⟨SA, 0, sc, q⟩ lTx) := Lib.hid (by rw [hV]; exact HX10.out.stay hb11.size fun k a b => hb11.block k (by have := Z10.out; have := Z9.out; have := Z7.out; have := Z6.out; have := Z5.out; omega))
  have ZV : Hid (w10.heap.size ≤ V.heap.size) := Lib.hid (by rw [hV]; exact hb11.size)
  have HS : Hid (V.rangeAt (w.heap.size + 1) 0 mc) := Lib.hid fun j u hu => by rw [RV.out.cell, Nat.zero_add]; exact hu
  refine wp_region_held_drew (S := fun V => V.rangeAt (w.heap.size + 1) 0 mc) (by kernel_rfl) (by rw [← hV]; exact HS.out) (fun _ => ?_)
  rw [← hV]
  clear hV hr11 hb11 hz11 S10 K10 R10 B10 R10x HX10
  obtain ⟨i1, hi, hz0, hz1, hz2⟩ := info_parts info_sig
  refine takeL (i := 0) (v := .agg mc.toArray) rfl (by kernel_rfl) (by kernel_rfl) (by kernel_rfl) (fun _ _ _ h => h) (yieldsIf_load_mid (by rfl) 31 (.tmp 1) rfl (w.heap.size + 1) 0 (by go_simp) mc _ (fun w hw => hw) Try.underlying31 rfl HSM.out) HS.out ?_
  try simp only [Act.put, List.setIfInBounds_toArray, List.set_cons_zero, List.set_cons_succ]
  refine readyL (i := 1) rfl (by kernel_rfl) (by kernel_rfl) fun K hK => ?_
  refine wp_make_full (.const (.int .i64 19)) (.const (.int .i64 19)) 22 rfl V.heap.size 62 i1 _ 64 Try.underlying22 hi hz0 hz1 .i64 .i64 19 rfl rfl (by rw [hz2]; omega) (by unfold maxLen; omega) (Nat.le_refl _) ?_
  intro w12 hown hgrow
  rw [made19] at hown
  have hrow := Row.of_ownN hown
  have hb12 := (Below.refl V.heap.size V).grown hgrow (Nat.le_refl _) (fun k hk => by cases hk)
  have K12 := Lib.hid (KV.out.below hb12 KV.out.lt)
  have R12 := Lib.hid (RV.out.below hb12 RV.out.lt)
  have G12 := Lib.hid hrow
  have B12 := Lib.hid hb12
  have HS12 : Hid (w12.rangeAt (w.heap.size + 1) 0 mc) := Lib.hid fun j u hu => by rw [R12.out.cell, Nat.zero_add]; exact hu
  clear hown hgrow hrow hb12 hi hz0 hz1 hz2
  refine hK.out _ _ HS12.out ?_
  clear hK K
  try simp only [Act.put, List.setIfInBounds_toArray, List.set_cons_zero, List.set_cons_succ]
  refine takeL (i := 2) (v := .agg (Value.slice (some ⟨V.heap.size, 0, none⟩) 19 19 :: mc).toArray) rfl (by kernel_rfl) (by kernel_rfl) (by kernel_rfl) (fun _ _ _ h => h) (Or.inl ⟨by rfl, fun w _ => ?_⟩) HS12.out ?_
  · exact exec_built w _ _ _ rfl (by simp only [List.map_toArray, List.map_cons, List.map_nil]; exact built_tx2 mc HML.out _ _ _)
  try simp only [Act.put, List.setIfInBounds_toArray, List.set_cons_zero, List.set_cons_succ]
  have HP := Lib.hid (putTx ⟨some ⟨V.heap.size, 0, none⟩, 19, 19, lRaw w.heap.size⟩ lTx19 w12.heap.size w12 (l_in19 K12.out G12.out) (Nat.le_refl _) (by simp [lTx19]) (by decide))
  rw [show TRaw.cells ⟨some ⟨V.heap.size, 0, none⟩, 19, 19, lRaw w.heap.size⟩ lTx19 = .slice (some ⟨V.heap.size, 0, none⟩) 19 19 :: mc by rw [HMC.out]; rfl] at HP
  refine readyL (i := 3) rfl (by kernel_rfl) (by kernel_rfl) fun K hK => ?_
  go_simp
  refine HP.out.mono ?_
  rintro e w13 (⟨hf, _⟩ | ⟨_, _, rfl, hb13⟩ | ⟨_, hlong, _⟩)
  · exact absurd l_fits hf
  rotate_left
  · rw [l_enc19] at hlong
    omega
  simp only []
  have bV13 := B12.out.trans (hb13.mono B12.out.size)
  have R13 := Lib.hid (R12.out.below hb13 R12.out.lt)
  have HS13 : Hid (w13.rangeAt (w.heap.size + 1) 0 mc) := Lib.hid fun j u hu => by rw [R13.out.cell, Nat.zero_add]; exact hu
  have K13 := Lib.hid (K12.out.below hb13 K12.out.lt)
  have S13 := Lib.hid (SV.out.below (bV13.mono (by have := ZV.out; have := Z10.out; have := Z9.out; have := Z7.out; omega)))
  have B13 := Lib.hid (BV.out.trans (bV13.mono BV.out.size))
  have R13x := Lib.hid (RVx.out.below bV13 RVx.out.lt)
  have HX13 : Hid (TxV w13 lo w4.heap.size ⟨SA, 0, sc, q⟩ lTx) := Lib.hid (HXV.out.stay bV13.size fun k a b => bV13.block k (by have := ZV.out; have := Z10.out; have := Z9.out; have := Z7.out; have := Z6.out; have := Z5.out; omega))
  have Z13 := Lib.hid (show V.heap.size ≤ w13.heap.size from bV13.size)
  clear bV13 hb13 HP
  refine hK.out _ _ HS13.out ?_
  clear hK K
  try simp only [Act.put, List.setIfInBounds_toArray, List.set_cons_zero, List.set_cons_succ]
  refine takeL (i := 4) (v := ?_) rfl (by kernel_rfl) (by kernel_rfl) (by kernel_rfl) (fun _ _ _ h => h) (Or.inl ⟨by rfl, ?_⟩) HS13.out ?_
  rotate_left
  · intro w hw
    try dsimp only at hw
    go_simp
    try with_reducible rfl
  try simp only [Act.put, List.setIfInBounds_toArray, List.set_cons_zero, List.set_cons_succ]
  refine takeL (i := 5) (v := ?_) rfl (by kernel_rfl) (by kernel_rfl) (by kernel_rfl) (fun _ _ _ h => h) (Or.inl ⟨by rfl, ?_⟩) HS13.out ?_
  rotate_left
  · intro w hw
    try dsimp only at hw
    go_simp
    try with_reducible rfl
  try simp only [Act.put, List.setIfInBounds_toArray, List.set_cons_zero, List.set_cons_succ]
  refine takeL (i := 6) (v := ?_) rfl (by kernel_rfl) (by kernel_rfl) (by kernel_rfl) (fun _ _ _ h => h) (Or.inl ⟨by rfl, ?_⟩) HS13.out ?_
  rotate_left
  · intro w hw
    try dsimp only at hw
    go_simp
    try with_reducible rfl
  try simp only [Act.put, List.setIfInBounds_toArray, List.set_cons_zero, List.set_cons_succ]
  refine takeL (i := 7) (v := ?_) rfl (by kernel_rfl) (by kernel_rfl) (by kernel_rfl) (fun _ _ _ h => h) (Or.inl ⟨by rfl, ?_⟩) HS13.out ?_
  rotate_left
  · intro w hw
    try dsimp only at hw
    go_simp
    try with_reducible rfl
  try simp only [Act.put, List.setIfInBounds_toArray, List.set_cons_zero, List.set_cons_succ]
  refine takeL (i := 8) (v := ?_) rfl (by kernel_rfl) (by kernel_rfl) (by kernel_rfl) (fun _ _ _ h => h) (Or.inl ⟨by rfl, ?_⟩) HS13.out ?_
  rotate_left
  · intro w hw
    try dsimp only at hw
    go_simp
    try with_reducible rfl
  try simp only [Act.put, List.setIfInBounds_toArray, List.set_cons_zero, List.set_cons_succ]
  refine wpAnyH_done (by kernel_rfl) ?_ _
  have hz70 : (bv lWant)[0]? = some (.int .u8 0) := rfl
  obtain ⟨ad, rfl, hadb, hadc⟩ := S13.out.cell 0 _ hz70
  rw [show ad.add 0 = ad by simp [Addr.add]] at hadc
  have x0 : w13.cell? ⟨w4.heap.size, 0, none⟩ = some (.slice SA 0 sc) := (R13x.out.cell 0).trans HT0.out
  have HSA := Lib.hid (same_msg q (lRaw w.heap.size) lMsg w4.heap.size w13.heap.size w13 HX13.out.in_.m (by have := R13x.out.lt; omega) (l_in K13.out) (Nat.le_refl _))
  rw [show (lRaw w.heap.size).cells lMsg = mc from HMC.out.symm] at HSA
  go_wp2_with (first
    | ((with_reducible show wpList _ _ _ ({ dst := some 65, op := Op.load _ _, type := _, pos := _, after := _, guard := _ } :: _) _ _); go_must (refine wpList_load_atg (by kernel_rfl) 31 (.tmp 64) rfl ⟨w4.heap.size, 1, none⟩ (q.cells lMsg) _ Try.underlying31 rfl HSQ.out (fun j v hv => by rw [addr_row, R13x.out.cell, HTM.out]; exact hv) ?_ ?_; go_simp))
    | ((with_reducible show wpList _ _ _ ({ dst := some 66, op := Op.load _ _, type := _, pos := _, after := _, guard := _ } :: _) _ _); go_must (refine wpList_load_atg (by kernel_rfl) 31 (.tmp 1) rfl ⟨w.heap.size + 1, 0, none⟩ mc _ Try.underlying31 rfl HSM.out (fun j v hv => by rw [addr_row, R13.out.cell, Nat.zero_add]; exact hv) ?_ ?_; go_simp)))
  refine HSA.out.mono ?_
  rintro e w14 ⟨rfl, hb14⟩
  have x0 : w14.cell? ⟨w4.heap.size, 0, none⟩ = some (.slice SA 0 sc) := ((R13x.out.below hb14 R13x.out.lt).cell 0).trans HT0.out
  have B14 := Lib.hid (B13.out.trans (hb14.mono B13.out.size))
  clear hb14
  go_wp2_with fail
  go_ret
  exact ⟨rfl, B14.out⟩
end Go.Proofs.Ytolijdbdpnbchaa
