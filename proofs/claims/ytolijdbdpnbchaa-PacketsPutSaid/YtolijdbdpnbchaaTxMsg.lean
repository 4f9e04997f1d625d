/-
  packets.reader.message.
-/
import Derived.Test.YtolijdbdpnbchaaSigs
import Derived.Test.YtolijdbdpnbchaaGetMsg
namespace Go.Proofs.Ytolijdbdpnbchaa
open Go.RowKit
set_option linter.unusedVariables false

theorem left_drop {zs r : List Int} (h : Left zs r) : zs.drop (zs.length - r.length) = r := by
  obtain ⟨k, rfl⟩ := h
  rw [List.length_drop]
  by_cases hk : k ≤ zs.length
  · rw [show zs.length - (zs.length - k) = k by omega]
  · rw [List.drop_eq_nil_of_le (show zs.length ≤ k by omega), List.drop_eq_nil_of_le (by omega)]

theorem wp_store_part {P : Program} {op : Oper} {a : Act} {w : World} {K : Act → World → Prop} {Q : Exit → Act → World → Prop} (ty : TypeId) (x y : Operand) (ho : op.op = .store ty x y)
    (g t o : Nat) (c cs : List Value) (hr : Row w g t c) (hi : (P.info? ty).map (·.size) = some cs.length) (hl : o + cs.length ≤ c.length) (h1 : ∀ u ∈ cs, u.oneCell' = true)
    (hx : a.eval x = .pointer (some ⟨g, o, none⟩)) (hy : a.eval y = .agg cs.toArray)
    (h : ∀ w', Row w' g t (c.take o ++ cs ++ c.drop (o + cs.length)) → Turned w w' g → K (a.put op.dst undef) w') : op.wp P a w K Q :=
  wp_store_mid ty x y ho g o cs.toArray hx hy (fun j hj => ⟨by
      have hj' : j < cs.length := by simpa using hj
      rw [hr.cell, List.getElem?_eq_getElem (by omega)]; rfl, hr.frozen _⟩) (by simpa using hi) (all_oneCell_toArray h1)
    (h _ (by simpa using row_setCells cs w o c hr hl) (turned_setCells cs w o))

theorem rcells_part {sg rest : Value} {ms ns : List Value} (hm : ms.length = 39) (hn : ns.length = 39) : (rcells sg ms rest).take 1 ++ ns ++ (rcells sg ms rest).drop (1 + ns.length) = rcells sg ns rest := by
  unfold rcells
  rw [hn, show 1 + 39 = 39 + 1 by omega, List.drop_succ_cons, List.take_succ_cons, List.take_zero, List.drop_left' hm]
  simp

/-- what message leaves -/
def MsgRead (w : World) (p B : Nat) (sg : Value) (zs : List Int) (e : Ending) (w' : World) : Prop :=
  (∃ m r q lo, pMsg zs = .ok (m, r) ∧ e = .returned (.int .i64 0) ∧ w.heap.size ≤ lo ∧ MsgV w' lo w'.heap.size q m ∧ RdT w' p B sg (q.cells m) r ∧ But p w w') ∨
  (∃ c, pMsg zs = .error c ∧ e = .returned (.int .i64 c) ∧ But p w w')

set_option maxRecDepth 100000 in
set_option maxHeartbeats 2000000 in
theorem txmsg_ (p B : Nat) (sg : Value) (zs : List Int) (w : World) (h : RdT w p B sg mzero zs) (hB : B ≤ p) (hz : AllBytes zs) :
    Calls Try.prog 42 #[.pointer (some ⟨p, 0, none⟩)] w (MsgRead w p B sg zs) := by
  obtain ⟨A, c, hr, hs, hnc, hc⟩ := h
  have hplt := hr.lt
  have c40 : w.cell? ⟨p, 40, none⟩ = some (.slice A zs.length c) := (hr.cell 40).trans (rcells_40 mzero_len)
  have G := Lib.hid (get_ A zs.length c B zs w hs (by omega) hnc hc hz)
  have R := Lib.hid hr
  have S := Lib.hid hs
  have HC := Lib.hid (And.intro hnc hc)
  have hmx := hc
  unfold maxLen at hmx
  have HZ := Lib.hid hz
  clear hr hs hz
  go_enter Try.func42, Try.ntmps42
  go_wp2_with fail
  refine G.out.mono ?_
  rintro e w1 (⟨m, r, q, lo, hp, rfl, hlo, hv, hb1⟩ | ⟨x, hp, rfl, hb1⟩)
  rotate_left
  · have hx := pMsg_err HZ.out hp
    have HP := Lib.hid hp
    have HB1 := Lib.hid hb1
    clear hp hb1 c40
    rcases hx with rfl | rfl
    all_goals
      go_wp2_with (((with_reducible show wpList _ _ _ ({ dst := none, op := Op.store 31 _ _, type := _, pos := _, after := _, guard := _ } :: _) _ _); go_must (refine wpList_store_new rfl 31 (.tmp 3) (.tmp 12) rfl mzero size_mz mzero_one rfl ?_ ?_ ?_; go_simp; go_simp; intro w2 hr2 hb2 hz2; have HR2 := Lib.hid hr2; have HB2 := Lib.hid hb2; clear hr2 hb2)))
      go_ret
      exact .inr ⟨_, HP.out, rfl, (But.of_below HB1.out p).trans (But.of_below HB2.out p)⟩
  have hle := (front_msg _ _ _ hp).le
  have hdr := left_drop (front_msg _ _ _ hp)
  have HDR := Lib.hid (show (bv zs).drop (zs.length - r.length) = bv r by have := congrArg bv hdr; rw [← this]; simp [bv, cv])
  obtain ⟨T, hT⟩ : ∃ T : Nat, T = zs.length - r.length := ⟨_, rfl⟩
  have hTI : (zs.length : Int) - r.length = (T : Int) := by omega
  rw [hTI]
  rw [← hT] at HDR
  have HTZ := Lib.hid (show T ≤ zs.length by omega)
  have hrl : zs.length - T = r.length := by omega
  have HRL := Lib.hid hrl
  have HSM := Lib.hid (show (Try.prog.info? 31).map (·.size) = some (q.cells m).length by rw [size_msg, cells_len hv.recent])
  have HL39 := Lib.hid (cells_len (q := q) hv.recent)
  have HV := Lib.hid hv
  have HP := Lib.hid hp
  have HLO := Lib.hid hlo
  have HB1 := Lib.hid hb1
  have HR1 := Lib.hid (R.out.below hb1 hplt)
  have HS1 := Lib.hid (S.out.below (hb1.mono (by omega)))
  clear hle hdr hT hTI hrl hv hp hlo hb1 c40 G R S
  go_upto_region 4 with (((with_reducible show wpList _ _ _ ({ dst := none, op := Op.store 31 _ _, type := _, pos := _, after := _, guard := _ } :: _) _ _); go_must (refine wpList_store_new rfl 31 (.tmp 3) (.tmp 12) rfl (q.cells m) HSM.out cells_one (by rw [HL39.out]; rfl) ?_ ?_ ?_; go_simp; go_simp; intro w2 hr2 hb2 hz2; have HR2 := Lib.hid hr2; have HB2 := Lib.hid hb2; have HZ2 := Lib.hid hz2; clear hr2 hb2 hz2)))
  obtain ⟨V, hV⟩ : ∃ V, V = w2.drew := ⟨_, rfl⟩
  have hz1 := HB1.out.size
  have HNE := Lib.hid (show p < w1.heap.size by omega)
  have HRV : Hid (Row V p 79 (rcells sg mzero (.slice A zs.length c))) := Lib.hid (by rw [hV]; exact (HR1.out.below HB2.out HNE.out).drew)
  have HMV : Hid (Row V w1.heap.size 31 (q.cells m)) := Lib.hid (by rw [hV]; exact HR2.out.drew)
  have HSV : Hid (Sees V B A zs.length (bv zs)) := Lib.hid (by rw [hV]; exact (HS1.out.below (HB2.out.mono (by omega))).drew)
  have HVV : Hid (MsgV V lo V.heap.size q m) := Lib.hid (by rw [hV]; exact (HV.out.stay (w' := w2.drew) (by have := HB2.out.size; exact this) (fun k _ hk => HB2.out.block k hk)).more (by have := HB2.out.size; exact this))
  have HBV : Hid (But p w V) := Lib.hid (by rw [hV]; exact ((But.of_below HB1.out p).trans (But.of_below HB2.out p)).drew)
  have HS : Hid (V.rangeAt w1.heap.size 0 (q.cells m)) := Lib.hid fun j u hu => by rw [HMV.out.cell, Nat.zero_add]; exact hu
  refine wp_region_held_drew (S := fun V => V.rangeAt w1.heap.size 0 (q.cells m)) (by kernel_rfl) (by rw [← hV]; exact HS.out) (fun _ => ?_)
  rw [← hV]
  clear hV HV HR1 HR2 HS1
  refine takeL (i := 0) (v := ?_) rfl (by kernel_rfl) (by kernel_rfl) (by kernel_rfl) (fun _ _ _ h => h) (Or.inl ⟨by rfl, ?_⟩) HS.out ?_
  rotate_left
  · intro w hw
    try dsimp only at hw
    go_simp
    try with_reducible rfl
  try simp only [Act.put, List.setIfInBounds_toArray, List.set_cons_zero, List.set_cons_succ]
  refine takeL (i := 1) (v := ?_) rfl (by kernel_rfl) (by kernel_rfl) (by kernel_rfl) (fun _ _ _ h => h) (Or.inl ⟨by rfl, ?_⟩) HS.out ?_
  rotate_left
  · intro w hw
    try dsimp only at hw
    go_simp
    try with_reducible rfl
  try simp only [Act.put, List.setIfInBounds_toArray, List.set_cons_zero, List.set_cons_succ]
  refine takeL (i := 2) (v := .agg (q.cells m).toArray) rfl (by kernel_rfl) (by kernel_rfl) (by kernel_rfl) (fun _ _ _ h => h) (yieldsIf_load_mid (by rfl) 31 (.tmp 3) rfl w1.heap.size 0 (by go_simp) (q.cells m) _ (fun w hw => hw) Try.underlying31 rfl HSM.out) HS.out ?_
  try simp only [Act.put, List.setIfInBounds_toArray, List.set_cons_zero, List.set_cons_succ]
  refine takeL (i := 3) (v := ?_) rfl (by kernel_rfl) (by kernel_rfl) (by kernel_rfl) (fun _ _ _ h => h) (Or.inl ⟨by rfl, ?_⟩) HS.out ?_
  rotate_left
  · intro w hw
    try dsimp only at hw
    go_simp
    try with_reducible rfl
  try simp only [Act.put, List.setIfInBounds_toArray, List.set_cons_zero, List.set_cons_succ]
  refine takeL (i := 4) (v := ?_) rfl (by kernel_rfl) (by kernel_rfl) (by kernel_rfl) (fun _ _ _ h => h) (Or.inl ⟨by rfl, ?_⟩) HS.out ?_
  rotate_left
  · intro w hw
    try dsimp only at hw
    go_simp
    try with_reducible rfl
  try simp only [Act.put, List.setIfInBounds_toArray, List.set_cons_zero, List.set_cons_succ]
  refine takeL (i := 5) (v := ?_) rfl (by kernel_rfl) (by kernel_rfl) (by kernel_rfl) (fun _ _ _ h => h) (Or.inl ⟨by rfl, ?_⟩) HS.out ?_
  rotate_left
  · intro w hw
    try dsimp only at hw
    go_simp
    try with_reducible rfl
  try simp only [Act.put, List.setIfInBounds_toArray, List.set_cons_zero, List.set_cons_succ]
  refine takeL (i := 7) (v := ?_) rfl (by kernel_rfl) (by kernel_rfl) (by kernel_rfl) (fun _ _ _ h => h) (Or.inl ⟨by rfl, ?_⟩) HS.out ?_
  rotate_left
  · intro w hw
    try dsimp only at hw
    go_simp
    try with_reducible rfl
  try simp only [Act.put, List.setIfInBounds_toArray, List.set_cons_zero, List.set_cons_succ]
  have q40 : V.cell? ⟨p, 40, none⟩ = some (.slice A zs.length c) := (HRV.out.cell 40).trans (rcells_40 mzero_len)
  refine readyL (i := 6) rfl (by kernel_rfl) (by kernel_rfl) fun K hK => ?_
  go_simp
  refine hK.out _ _ HS.out ?_
  clear hK K
  try simp only [Act.put, List.setIfInBounds_toArray, List.set_cons_zero, List.set_cons_succ]
  clear q40
  refine takeL (i := 8) (v := .slice (tailAt A c T) (zs.length - T) (c - T)) rfl (by kernel_rfl) (by kernel_rfl) (by kernel_rfl) (fun _ _ _ h => h) (Or.inl ⟨by rfl, fun w hw => ?_⟩) HS.out ?_
  · exact run_tail 37 5 (.tmp 24) (.tmp 25) rfl Try.underlying37 size_u8 A zs.length c T (by go_simp) (by go_simp) HTZ.out HC.out.1 HC.out.2
  try simp only [Act.put, List.setIfInBounds_toArray, List.set_cons_zero, List.set_cons_succ]
  refine takeL (i := 9) (v := ?_) rfl (by kernel_rfl) (by kernel_rfl) (by kernel_rfl) (fun _ _ _ h => h) (Or.inl ⟨by rfl, ?_⟩) HS.out ?_
  rotate_left
  · intro w hw
    try dsimp only at hw
    go_simp
    try with_reducible rfl
  try simp only [Act.put, List.setIfInBounds_toArray, List.set_cons_zero, List.set_cons_succ]
  refine takeL (i := 10) (v := ?_) rfl (by kernel_rfl) (by kernel_rfl) (by kernel_rfl) (fun _ _ _ h => h) (Or.inl ⟨by rfl, ?_⟩) HS.out ?_
  rotate_left
  · intro w hw
    try dsimp only at hw
    go_simp
    try with_reducible rfl
  try simp only [Act.put, List.setIfInBounds_toArray, List.set_cons_zero, List.set_cons_succ]
  refine takeL (i := 11) (v := ?_) rfl (by kernel_rfl) (by kernel_rfl) (by kernel_rfl) (fun _ _ _ h => h) (Or.inl ⟨by rfl, ?_⟩) HS.out ?_
  rotate_left
  · intro w hw
    try dsimp only at hw
    go_simp
    try with_reducible rfl
  try simp only [Act.put, List.setIfInBounds_toArray, List.set_cons_zero, List.set_cons_succ]
  refine readyL (i := 12) rfl (by kernel_rfl) (by kernel_rfl) fun K hK => ?_
  refine wp_store_part 31 (.tmp 29) (.tmp 20) rfl p 79 1 _ (q.cells m) HRV.out HSM.out (by rw [HL39.out]; simp [rcells, mzero_len]) cells_one ?_ ?_ ?_
  · go_simp
  · go_simp
  intro V2 hr2 ht2
  rw [rcells_part mzero_len HL39.out] at hr2
  have HRV2 := Lib.hid hr2
  have HT2 := Lib.hid ht2
  have HS2 : Hid (V2.rangeAt w1.heap.size 0 (q.cells m)) := Lib.hid fun j u hu => by rw [(ht2.row HMV.out (show w1.heap.size ≠ p by have := HNE.out; omega)).cell, Nat.zero_add]; exact hu
  clear hr2 ht2
  refine hK.out _ _ HS2.out ?_
  clear hK K
  try simp only [Act.put, List.setIfInBounds_toArray, List.set_cons_zero, List.set_cons_succ]
  refine takeL (i := 13) (v := ?_) rfl (by kernel_rfl) (by kernel_rfl) (by kernel_rfl) (fun _ _ _ h => h) (Or.inl ⟨by rfl, ?_⟩) HS2.out ?_
  rotate_left
  · intro w hw
    try dsimp only at hw
    go_simp
    try with_reducible rfl
  try simp only [Act.put, List.setIfInBounds_toArray, List.set_cons_zero, List.set_cons_succ]
  refine takeL (i := 14) (v := ?_) rfl (by kernel_rfl) (by kernel_rfl) (by kernel_rfl) (fun _ _ _ h => h) (Or.inl ⟨by rfl, ?_⟩) HS2.out ?_
  rotate_left
  · intro w hw
    try dsimp only at hw
    go_simp
    try with_reducible rfl
  try simp only [Act.put, List.setIfInBounds_toArray, List.set_cons_zero, List.set_cons_succ]
  have q40 : V2.cell? ⟨p, 40, none⟩ = some (.slice A zs.length c) := (HRV2.out.cell 40).trans (rcells_40 HL39.out)
  have r40 := HRV2.out.frozen 40
  refine readyL (i := 15) rfl (by kernel_rfl) (by kernel_rfl) fun K hK => ?_
  go_simp
  refine hK.out _ _ (by exact fun j u hu => by rw [((turned_setCell V2 ⟨p, 40, none⟩ _).row (HT2.out.row HMV.out (show w1.heap.size ≠ p by have := HNE.out; omega)) (show w1.heap.size ≠ p by have := HNE.out; omega)).cell, Nat.zero_add]; exact hu) ?_
  clear hK K
  try simp only [Act.put, List.setIfInBounds_toArray, List.set_cons_zero, List.set_cons_succ]
  clear q40 r40
  refine wpAnyH_done (by kernel_rfl) ?_ _
  go_wp2_with fail
  go_ret
  have ht := turned_setCell V2 ⟨p, 40, none⟩ (.slice (tailAt A c T) (zs.length - T) (c - T))
  have hr := HRV2.out.set_ 40 (.slice (tailAt A c T) (zs.length - T) (c - T))
  rw [rcells_set40 HL39.out] at hr
  have hs := ((HSV.out.below (HT2.out.below (show B ≤ p from hB))).below (ht.below (show B ≤ p from hB))).tail HTZ.out HC.out.1
  rw [HDR.out] at hs
  refine .inl ⟨m, r, q, lo, HP.out, rfl, HLO.out, ?_, ⟨tailAt A c T, c - T, ?_, ?_, ?_, ?_⟩, ?_⟩
  · have h1 := (HVV.out.turned HT2.out (by have := HLO.out; omega)).turned ht (show p < lo by have := HLO.out; omega)
    exact h1.more (by have e1 := HT2.out.size; have e2 := ht.size; omega)
  · rw [← HRL.out]; exact hr
  · rw [← HRL.out]; exact hs
  · have := HC.out; have := HTZ.out; have := HRL.out; omega
  · have := HC.out.2; omega
  · exact (HBV.out.trans (But.of_turned HT2.out)).trans (But.of_turned ht)
end Go.Proofs.Ytolijdbdpnbchaa
