/-
  Parts joined: TxMsg GetTx BookTx Ready11 WholeTx Settle11 Got4 TwinMsg.
-/
import Derived.Test.YtdgbodljmdcagaaGreatDoorChecked
import Derived.WalkKit
import Derived.LaidEql
import Derived.Stop.Asserts
import Derived.RowKitTokens
import Derived.Lib.IfaceEq
import Derived.Lib.Hide
import Derived.Below
import Derived.Laws.OwnMore
import Derived.Deep.AppendLies
import Derived.Deep.Draws
import Derived.Laws.MakeOwn
import Derived.Laws.CopyOwn
import Derived.Laws.Rows
import Derived.Maps.AppendAt
import Derived.OwnWalk
import Derived.Laws.BitsAllLaws
import Derived.Test.YtdgbodljmdcagaaGreatDoorRows
import Derived.WalkSpells
import Derived.WalkLawsBesides
import Derived.IntWalk
import Derived.Deep.QuietTactic
import Derived.BigQuiet
import Derived.Deep.MidRow
import Derived.Deep.WholeRow
import Derived.Great.BuildSlice
import Derived.Recover
import Derived.Deep.RegionHeld
import Derived.ChangeKeysEq
import Derived.Deep.RegionHeld2
import Derived.Deep.CutBlock
import Derived.Laws.Tables
import Derived.ProofKit
import Derived.OpenShut
import Derived.ShutString
import Derived.ChangeOld
import Derived.Lib.SmallJoins
import Derived.Deep.Slices
import Derived.Deep.Strs
import Derived.SizedLaws
import Derived.Laws.StructEq
import Derived.Laws.Slices
import Derived.Defers
import Derived.Deep.DeepCutAuto
import Derived.Test.YtdgbodljmdcagaaGreatDoorA1
import Derived.Test.YtdgbodljmdcagaaGreatDoorA2
import Derived.Test.YtdgbodljmdcagaaGreatDoorA3
import Derived.Test.YtdgbodljmdcagaaGreatDoorA4
import Derived.Test.YtdgbodljmdcagaaGreatDoorA5
/-
  Of part TxMsg: what is needed here.
-/
set_option linter.unusedSimpArgs false
namespace Go.Proofs.YtdgbodljmdcagaaGreatDoor
open Go.RowKit
set_option linter.unusedVariables false
set_option maxRecDepth 100000
theorem left_drop {zs r : List Int} (h : Left zs r) : zs.drop (zs.length - r.length) = r := by
  obtain ⟨k, rfl⟩ := h
  rw [List.length_drop]
  by_cases hk : k ≤ zs.length
  · rw [show zs.length - (zs.length - k) = k by omega]
  · rw [List.drop_eq_nil_of_le (show zs.length ≤ k by omega), List.drop_eq_nil_of_le (by omega)]
theorem wp_store_part {P : Program} {op : Oper} {a : Act} {w : World} {K : Act → World → Prop} {Q : Exit → Act → World → Prop} (ty : TypeId) (x y : Operand) (ho : op.op = .store ty x y)
    (g t o : Nat) (c cs : List Value) (hr : Row w g t c) (hi : (P.info? ty).map (·.size) = some cs.length) (hl : o + cs.length ≤ c.length) (h1 : ∀ u ∈ cs, u.oneCell' = true)
    (hx : a.eval x = .pointer (some ⟨g, o, none⟩)) (hy : a.eval y = .agg cs.toArray)
    (h : ∀ w', Row w' g t (c.take o ++ cs ++ c.drop (o + cs.length)) → Turned w w' g → K (a.put op.dst undef) w') : op.wp P a w K Q :=
  wp_store_mid ty x y ho g o cs.toArray hx hy (fun j hj => ⟨by
      have hj' : j < cs.length := by simpa using hj
      rw [hr.cell, List.getElem?_eq_getElem (by omega)]; rfl, hr.frozen _⟩) (by simpa using hi) (all_oneCell_toArray h1)
    (h _ (by simpa using row_setCells cs w o c hr hl) (turned_setCells cs w o))
theorem rcells_part {sg rest : Value} {ms ns : List Value} (hm : ms.length = 39) (hn : ns.length = 39) : (rcells sg ms rest).take 1 ++ ns ++ (rcells sg ms rest).drop (1 + ns.length) = rcells sg ns rest := by
  unfold rcells
  rw [hn, show 1 + 39 = 39 + 1 by omega, List.drop_succ_cons, List.take_succ_cons, List.take_zero, List.drop_left' hm]
  simp
/-- what message leaves -/
def MsgRead (w : World) (p B : Nat) (sg : Value) (zs : List Int) (e : Ending) (w' : World) : Prop :=
  (∃ m r q lo, pMsg zs = .ok (m, r) ∧ e = .returned (.int .i64 0) ∧ w.heap.size ≤ lo ∧ MsgV w' lo w'.heap.size q m ∧ RdT w' p B sg (q.cells m) r ∧ But p w w') ∨
  (∃ c, pMsg zs = .error c ∧ e = .returned (.int .i64 c) ∧ But p w w')
set_option maxRecDepth 100000 in
set_option maxHeartbeats 2000000 in
theorem txmsg_ (p B : Nat) (sg : Value) (zs : List Int) (w : World) (h : RdT w p B sg mzero zs) (hB : B ≤ p) (hz : AllBytes zs) :
    Calls Tryz.prog 138 #[.pointer (some ⟨p, 0, none⟩)] w (MsgRead w p B sg zs) := by
  obtain ⟨A, c, hr, hs, hnc, hc⟩ := h
  have hplt := hr.lt
  have c40 : w.cell? ⟨p, 40, none⟩ = some (.slice A zs.length c) := (hr.cell 40).trans (rcells_40 mzero_len)
  have G := Lib.hid (get_ A zs.length c B zs w hs (by omega) hnc hc hz)
  have R := Lib.hid hr
  have S := Lib.hid hs
  have HC := Lib.hid (And.intro hnc hc)
  have hmx := hc
  unfold maxLen at hmx
  have HZ := Lib.hid hz
  clear hr hs hz
  go_enter Tryz.func138, Tryz.ntmps138
  go_wp2_with fail
  refine G.out.mono ?_
  rintro e w1 (⟨m, r, q, lo, hp, rfl, hlo, hv, hb1⟩ | ⟨x, hp, rfl, hb1⟩)
  rotate_left
  · have hx := pMsg_err HZ.out hp
    have HP := Lib.hid hp
    have HB1 := Lib.hid hb1
    clear hp hb1 c40
    rcases hx with rfl | rfl
    all_goals
      go_wp2_with (((with_reducible show wpList _ _ _ ({ dst := none, op := Op.store 40 _ _, type := _, pos := _, after := _, guard := _ } :: _) _ _); go_must (refine wpList_store_new rfl 40 (.tmp 3) (.tmp 12) rfl mzero size_mz mzero_one rfl ?_ ?_ ?_; go_simp; go_simp; intro w2 hr2 hb2 hz2; have HR2 := Lib.hid hr2; have HB2 := Lib.hid hb2; clear hr2 hb2)))
      go_ret
      exact .inr ⟨_, HP.out, rfl, (But.of_below HB1.out p).trans (But.of_below HB2.out p)⟩
  have hle := (front_msg _ _ _ hp).le
  have hdr := left_drop (front_msg _ _ _ hp)
  have HDR := Lib.hid (show (bv zs).drop (zs.length - r.length) = bv r by have := congrArg bv hdr; rw [← this]; simp [bv, cv])
  obtain ⟨T, hT⟩ : ∃ T : Nat, T = zs.length - r.length := ⟨_, rfl⟩
  have hTI : (zs.length : Int) - r.length = (T : Int) := by omega
  rw [hTI]
  rw [← hT] at HDR
  have HTZ := Lib.hid (show T ≤ zs.length by omega)
  have hrl : zs.length - T = r.length := by omega
  have HRL := Lib.hid hrl
  have HSM := Lib.hid (show (Tryz.prog.info? 40).map (·.size) = some (q.cells m).length by rw [size_msg, cells_len hv.recent])
  have HL39 := Lib.hid (cells_len (q := q) hv.recent)
  have HV := Lib.hid hv
  have HP := Lib.hid hp
  have HLO := Lib.hid hlo
  have HB1 := Lib.hid hb1
  have HR1 := Lib.hid (R.out.below hb1 hplt)
  have HS1 := Lib.hid (S.out.below (hb1.mono (by omega)))
  clear hle hdr hT hTI hrl hv hp hlo hb1 c40 G R S
  go_upto_region 4 with (((with_reducible show wpList _ _ _ ({ dst := none, op := Op.store 40 _ _, type := _, pos := _, after := _, guard := _ } :: _) _ _); go_must (refine wpList_store_new rfl 40 (.tmp 3) (.tmp 12) rfl (q.cells m) HSM.out cells_one (by rw [HL39.out]; rfl) ?_ ?_ ?_; go_simp; go_simp; intro w2 hr2 hb2 hz2; have HR2 := Lib.hid hr2; have HB2 := Lib.hid hb2; have HZ2 := Lib.hid hz2; clear hr2 hb2 hz2)))
  obtain ⟨V, hV⟩ : ∃ V, V = w2.drew := ⟨_, rfl⟩
  have hz1 := HB1.out.size
  have HNE := Lib.hid (show p < w1.heap.size by omega)
  have HRV : Hid (Row V p 201 (rcells sg mzero (.slice A zs.length c))) := Lib.hid (by rw [hV]; exact (HR1.out.below HB2.out HNE.out).drew)
  have HMV : Hid (Row V w1.heap.size 40 (q.cells m)) := Lib.hid (by rw [hV]; exact HR2.out.drew)
  have HSV : Hid (Sees V B A zs.length (bv zs)) := Lib.hid (by rw [hV]; exact (HS1.out.below (HB2.out.mono (by omega))).drew)
  have HVV : Hid (MsgV V lo V.heap.size q m) := Lib.hid (by rw [hV]; exact (HV.out.stay (w' := w2.drew) (by have := HB2.out.size; exact this) (fun k _ hk => HB2.out.block k hk)).more (by have := HB2.out.size; exact this))
  have HBV : Hid (But p w V) := Lib.hid (by rw [hV]; exact ((But.of_below HB1.out p).trans (But.of_below HB2.out p)).drew)
  have HS : Hid (V.rangeAt w1.heap.size 0 (q.cells m)) := Lib.hid fun j u hu => by rw [HMV.out.cell, Nat.zero_add]; exact hu
  refine wp_region_held_drew (S := fun V => V.rangeAt w1.heap.size 0 (q.cells m)) (by kernel_rfl) (by rw [← hV]; exact HS.out) (fun _ => ?_)
  rw [← hV]
  clear hV HV HR1 HR2 HS1
  refine takeL (i := 0) (v := ?_) rfl (by kernel_rfl) (by kernel_rfl) (by kernel_rfl) (fun _ _ _ h => h) (Or.inl ⟨by rfl, ?_⟩) HS.out ?_
  rotate_left
  · intro w hw
    try dsimp only at hw
    go_simp
    try with_reducible rfl
  try simp only [Act.put, List.setIfInBounds_toArray, List.set_cons_zero, List.set_cons_succ]
  refine takeL (i := 1) (v := ?_) rfl (by kernel_rfl) (by kernel_rfl) (by kernel_rfl) (fun _ _ _ h => h) (Or.inl ⟨by rfl, ?_⟩) HS.out ?_
  rotate_left
  · intro w hw
    try dsimp only at hw
    go_simp
    try with_reducible rfl
  try simp only [Act.put, List.setIfInBounds_toArray, List.set_cons_zero, List.set_cons_succ]
  refine takeL (i := 2) (v := .agg (q.cells m).toArray) rfl (by kernel_rfl) (by kernel_rfl) (by kernel_rfl) (fun _ _ _ h => h) (yieldsIf_load_mid (by rfl) 40 (.tmp 3) rfl w1.heap.size 0 (by go_simp) (q.cells m) _ (fun w hw => hw) Tryz.underlying40 rfl HSM.out) HS.out ?_
  try simp only [Act.put, List.setIfInBounds_toArray, List.set_cons_zero, List.set_cons_succ]
  refine takeL (i := 3) (v := ?_) rfl (by kernel_rfl) (by kernel_rfl) (by kernel_rfl) (fun _ _ _ h => h) (Or.inl ⟨by rfl, ?_⟩) HS.out ?_
  rotate_left
  · intro w hw
    try dsimp only at hw
    go_simp
    try with_reducible rfl
  try simp only [Act.put, List.setIfInBounds_toArray, List.set_cons_zero, List.set_cons_succ]
  refine takeL (i := 4) (v := ?_) rfl (by kernel_rfl) (by kernel_rfl) (by kernel_rfl) (fun _ _ _ h => h) (Or.inl ⟨by rfl, ?_⟩) HS.out ?_
  rotate_left
  · intro w hw
    try dsimp only at hw
    go_simp
    try with_reducible rfl
  try simp only [Act.put, List.setIfInBounds_toArray, List.set_cons_zero, List.set_cons_succ]
  refine takeL (i := 5) (v := ?_) rfl (by kernel_rfl) (by kernel_rfl) (by kernel_rfl) (fun _ _ _ h => h) (Or.inl ⟨by rfl, ?_⟩) HS.out ?_
  rotate_left
  · intro w hw
    try dsimp only at hw
    go_simp
    try with_reducible rfl
  try simp only [Act.put, List.setIfInBounds_toArray, List.set_cons_zero, List.set_cons_succ]
  refine takeL (i := 7) (v := ?_) rfl (by kernel_rfl) (by kernel_rfl) (by kernel_rfl) (fun _ _ _ h => h) (Or.inl ⟨by rfl, ?_⟩) HS.out ?_
  rotate_left
  · intro w hw
    try dsimp only at hw
    go_simp
    try with_reducible rfl
  try simp only [Act.put, List.setIfInBounds_toArray, List.set_cons_zero, List.set_cons_succ]
  have q40 : V.cell? ⟨p, 40, none⟩ = some (.slice A zs.length c) := (HRV.out.cell 40).trans (rcells_40 mzero_len)
  refine readyL (i := 6) rfl (by kernel_rfl) (by kernel_rfl) fun K hK => ?_
  go_simp
  refine hK.out _ _ HS.out ?_
  clear hK K
  try simp only [Act.put, List.setIfInBounds_toArray, List.set_cons_zero, List.set_cons_succ]
  clear q40
  refine takeL (i := 8) (v := .slice (tailAt A c T) (zs.length - T) (c - T)) rfl (by kernel_rfl) (by kernel_rfl) (by kernel_rfl) (fun _ _ _ h => h) (Or.inl ⟨by rfl, fun w hw => ?_⟩) HS.out ?_
  · exact run_tail 22 5 (.tmp 24) (.tmp 25) rfl Tryz.underlying22 size_u8 A zs.length c T (by go_simp) (by go_simp) HTZ.out HC.out.1 HC.out.2
  try simp only [Act.put, List.setIfInBounds_toArray, List.set_cons_zero, List.set_cons_succ]
  refine takeL (i := 9) (v := ?_) rfl (by kernel_rfl) (by kernel_rfl) (by kernel_rfl) (fun _ _ _ h => h) (Or.inl ⟨by rfl, ?_⟩) HS.out ?_
  rotate_left
  · intro w hw
    try dsimp only at hw
    go_simp
    try with_reducible rfl
  try simp only [Act.put, List.setIfInBounds_toArray, List.set_cons_zero, List.set_cons_succ]
  refine takeL (i := 10) (v := ?_) rfl (by kernel_rfl) (by kernel_rfl) (by kernel_rfl) (fun _ _ _ h => h) (Or.inl ⟨by rfl, ?_⟩) HS.out ?_
  rotate_left
  · intro w hw
    try dsimp only at hw
    go_simp
    try with_reducible rfl
  try simp only [Act.put, List.setIfInBounds_toArray, List.set_cons_zero, List.set_cons_succ]
  refine takeL (i := 11) (v := ?_) rfl (by kernel_rfl) (by kernel_rfl) (by kernel_rfl) (fun _ _ _ h => h) (Or.inl ⟨by rfl, ?_⟩) HS.out ?_
  rotate_left
  · intro w hw
    try dsimp only at hw
    go_simp
    try with_reducible rfl
  try simp only [Act.put, List.setIfInBounds_toArray, List.set_cons_zero, List.set_cons_succ]
  refine readyL (i := 12) rfl (by kernel_rfl) (by kernel_rfl) fun K hK => ?_
  refine wp_store_part 40 (.tmp 29) (.tmp 20) rfl p 201 1 _ (q.cells m) HRV.out HSM.out (by rw [HL39.out]; simp [rcells, mzero_len]) cells_one ?_ ?_ ?_
  · go_simp
  · go_simp
  intro V2 hr2 ht2
  rw [rcells_part mzero_len HL39.out] at hr2
  have HRV2 := Lib.hid hr2
  have HT2 := Lib.hid ht2
  have HS2 : Hid (V2.rangeAt w1.heap.size 0 (q.cells m)) := Lib.hid fun j u hu => by rw [(ht2.row HMV.out (show w1.heap.size ≠ p by have := HNE.out; omega)).cell, Nat.zero_add]; exact hu
  clear hr2 ht2
  refine hK.out _ _ HS2.out ?_
  clear hK K
  try simp only [Act.put, List.setIfInBounds_toArray, List.set_cons_zero, List.set_cons_succ]
  refine takeL (i := 13) (v := ?_) rfl (by kernel_rfl) (by kernel_rfl) (by kernel_rfl) (fun _ _ _ h => h) (Or.inl ⟨by rfl, ?_⟩) HS2.out ?_
  rotate_left
  · intro w hw
    try dsimp only at hw
    go_simp
    try with_reducible rfl
  try simp only [Act.put, List.setIfInBounds_toArray, List.set_cons_zero, List.set_cons_succ]
  refine takeL (i := 14) (v := ?_) rfl (by kernel_rfl) (by kernel_rfl) (by kernel_rfl) (fun _ _ _ h => h) (Or.inl ⟨by rfl, ?_⟩) HS2.out ?_
  rotate_left
  · intro w hw
    try dsimp only at hw
    go_simp
    try with_reducible rfl
  try simp only [Act.put, List.setIfInBounds_toArray, List.set_cons_zero, List.set_cons_succ]
  have q40 : V2.cell? ⟨p, 40, none⟩ = some (.slice A zs.length c) := (HRV2.out.cell 40).trans (rcells_40 HL39.out)
  have r40 := HRV2.out.frozen 40
  refine readyL (i := 15) rfl (by kernel_rfl) (by kernel_rfl) fun K hK => ?_
  go_simp
  refine hK.out _ _ (by exact fun j u hu => by rw [((turned_setCell V2 ⟨p, 40, none⟩ _).row (HT2.out.row HMV.out (show w1.heap.size ≠ p by have := HNE.out; omega)) (show w1.heap.size ≠ p by have := HNE.out; omega)).cell, Nat.zero_add]; exact hu) ?_
  clear hK K
  try simp only [Act.put, List.setIfInBounds_toArray, List.set_cons_zero, List.set_cons_succ]
  clear q40 r40
  refine wpAnyH_done (by kernel_rfl) ?_ _
  go_wp2_with fail
  go_ret
  have ht := turned_setCell V2 ⟨p, 40, none⟩ (.slice (tailAt A c T) (zs.length - T) (c - T))
  have hr := HRV2.out.set_ 40 (.slice (tailAt A c T) (zs.length - T) (c - T))
  rw [rcells_set40 HL39.out] at hr
  have hs := ((HSV.out.below (HT2.out.below (show B ≤ p from hB))).below (ht.below (show B ≤ p from hB))).tail HTZ.out HC.out.1
  rw [HDR.out] at hs
  refine .inl ⟨m, r, q, lo, HP.out, rfl, HLO.out, ?_, ⟨tailAt A c T, c - T, ?_, ?_, ?_, ?_⟩, ?_⟩
  · have h1 := (HVV.out.turned HT2.out (by have := HLO.out; omega)).turned ht (show p < lo by have := HLO.out; omega)
    exact h1.more (by have e1 := HT2.out.size; have e2 := ht.size; omega)
  · rw [← HRL.out]; exact hr
  · rw [← HRL.out]; exact hs
  · have := HC.out; have := HTZ.out; have := HRL.out; omega
  · have := HC.out.2; omega
  · exact (HBV.out.trans (But.of_turned HT2.out)).trans (But.of_turned ht)
end Go.Proofs.YtdgbodljmdcagaaGreatDoor

/-
  Of part GetTx: what is needed here.
-/
namespace Go.Proofs.YtdgbodljmdcagaaGreatDoor
open Go.RowKit
set_option linter.unusedVariables false
set_option maxRecDepth 100000
/-- a transaction of the call's own, in the blocks from lo to hi -/
structure TxV (w : World) (lo hi : Nat) (s : TRaw) (x : LTx) : Prop where
  short : x.sigs.length ≤ 65535
  is : ∃ mid, lo ≤ mid ∧ mid ≤ hi ∧ SigsV w lo mid (.slice s.SA s.sn s.sc) x.sigs ∧ MsgV w mid hi s.q x.m
theorem SigsV.stay {w w' : World} {lo hi : Nat} {v : Value} {l : List (List Int)} (h : SigsV w lo hi v l) (hk : ∀ k, lo ≤ k → k < hi → w'.heap[k]? = w.heap[k]?) : SigsV w' lo hi v l := by
  refine ⟨⟨h.own.1, ?_⟩, h.lt, h.each⟩
  rcases h.own.2 with h2 | ⟨g, cap, cur, hv, hg, hh, r⟩
  · exact .inl h2
  · exact .inr ⟨g, cap, cur, hv, hg, (hk g hg (h.lt g (by rw [hv]; rfl))).trans hh, r⟩
theorem SigsV.form {w : World} {lo hi : Nat} {v : Value} {l : List (List Int)} (h : SigsV w lo hi v l) : ∃ A c, v = .slice A l.length c := by
  rcases h.own.2 with ⟨rfl, h2⟩ | ⟨g, cap, cur, rfl, _⟩
  · exact ⟨_, _, by rw [h2]⟩
  · exact ⟨_, _, rfl⟩
theorem SigsV.in_ {w : World} {lo hi : Nat} {A : Option Addr} {n c : Nat} {l : List (List Int)} (h : SigsV w lo hi (.slice A n c) l) : SigsIn w hi A n l ∧ n ≤ c ∧ c ≤ maxLen := by
  obtain ⟨A', c', e⟩ := h.form
  cases e
  refine ⟨⟨rfl, h.each, ⟨by rw [bv_length, flat64_len l h.each], fun i u hu => ?_⟩⟩, own_caps h.own⟩
  obtain ⟨g, rfl, h1, h2, h3, h4⟩ := own_cell h.own hu
  exact ⟨_, rfl, h.lt g h1, by rw [addr_row, Nat.zero_add]; exact h4⟩
theorem TxV.in_ {w : World} {lo hi : Nat} {s : TRaw} {x : LTx} (h : TxV w lo hi s x) : TxIn w hi s x := by
  obtain ⟨mid, h1, h2, h3, h4⟩ := h.is
  obtain ⟨h5, h6⟩ := h3.in_
  exact ⟨h5.more h2, h6, h4.in_⟩
theorem TxV.stay {w w' : World} {lo hi : Nat} {s : TRaw} {x : LTx} (h : TxV w lo hi s x) (hz : w.heap.size ≤ w'.heap.size) (hk : ∀ k, lo ≤ k → k < hi → w'.heap[k]? = w.heap[k]?) : TxV w' lo hi s x := by
  obtain ⟨mid, h1, h2, h3, h4⟩ := h.is
  exact ⟨h.short, mid, h1, h2, h3.stay fun k a b => hk k a (by omega), h4.stay hz fun k a b => hk k (by omega) b⟩
theorem TxV.more {w : World} {lo hi hi' : Nat} {s : TRaw} {x : LTx} (h : TxV w lo hi s x) (hh : hi ≤ hi') : TxV w lo hi' s x := by
  obtain ⟨mid, h1, h2, h3, h4⟩ := h.is
  exact ⟨h.short, mid, h1, by omega, h3, h4.more hh⟩
/-- what Get leaves -/
def GetTxDone (w : World) (zs : List Int) (e : Ending) (w' : World) : Prop :=
  (∃ x r s lo, pTx zs = .ok (x, r) ∧ e = .returned (.tuple #[.agg (TRaw.cells s x).toArray, .int .i64 ((zs.length : Int) - r.length), .int .i64 0]) ∧ w.heap.size ≤ lo ∧ TxV w' lo w'.heap.size s x ∧ Below w.heap.size w w') ∨
  (∃ c, pTx zs = .error c ∧ e = .returned (.tuple #[.agg tzero.toArray, .int .i64 0, .int .i64 c]) ∧ Below w.heap.size w w')
theorem size_rd : (Tryz.prog.info? 201).map (·.size) = some 41 := by kernel_rfl
theorem rcells_len {sg rest : Value} {ms : List Value} (h : ms.length = 39) : (rcells sg ms rest).length = 41 := by simp [rcells, h]
theorem rcells_one {A B : Option Addr} {n c m d : Nat} {ms : List Value} (h : ∀ u ∈ ms, u.oneCell' = true) : ∀ u ∈ rcells (.slice A n c) ms (.slice B m d), u.oneCell' = true := by
  intro u hu
  simp only [rcells, List.mem_cons, List.mem_append, List.not_mem_nil, or_false] at hu
  rcases hu with rfl | hu | rfl
  · rfl
  · exact h u hu
  · rfl
section
variable {P : Program}
theorem results_cell2 {fn : Func} {p0 p1 p2 : Tmp} {t0 : TypeId} (h : fn.results = #[.cell p0 t0, .tmp p1, .tmp p2]) (tmps : Array Value) (w : World) (a0 : Addr) (v0 v1 v2 : Value)
    (h0 : tmps.getD p0 undef = .pointer (some a0)) (h1 : tmps.getD p1 undef = v1) (h2 : tmps.getD p2 undef = v2)
    (l0 : (loadVar t0 a0).run P w = .ok v0 w) :
    (results fn tmps).run P w = .ok (.tuple #[v0, v1, v2]) w := by
  have h0' : tmps[p0]?.getD undef = .pointer (some a0) := by simpa using h0
  have h1' : tmps[p1]?.getD undef = v1 := by simpa using h1
  have h2' : tmps[p2]?.getD undef = v2 := by simpa using h2
  simp [results, h, h0', h1', h2', asAddr, l0]
theorem results_cell1 {fn : Func} {p0 p1 : Tmp} {t0 : TypeId} (h : fn.results = #[.cell p0 t0, .tmp p1]) (tmps : Array Value) (w : World) (a0 : Addr) (v0 v1 : Value)
    (h0 : tmps.getD p0 undef = .pointer (some a0)) (h1 : tmps.getD p1 undef = v1)
    (l0 : (loadVar t0 a0).run P w = .ok v0 w) :
    (results fn tmps).run P w = .ok (.tuple #[v0, v1]) w := by
  have h0' : tmps[p0]?.getD undef = .pointer (some a0) := by simpa using h0
  have h1' : tmps[p1]?.getD undef = v1 := by simpa using h1
  simp [results, h, h0', h1', asAddr, l0]
end
set_option maxRecDepth 100000 in
set_option maxHeartbeats 2000000 in
theorem gettx_ (A : Option Addr) (n c B : Nat) (zs : List Int) (w : World) (hs : Sees w B A n (bv zs)) (hB : B ≤ w.heap.size) (hnc : n ≤ c) (hc : c ≤ maxLen) (hz : AllBytes zs) :
    Calls Tryz.prog 94 #[.slice A n c] w (GetTxDone w zs) := by
  have hn : zs.length = n := by have := hs.len; rwa [bv_length] at this
  subst hn
  have hmx := hc
  unfold maxLen at hmx
  have r0 := Row.new w 42 tzero
  have b0 : Below w.heap.size w (w.alloc (.cells tzero.toArray 42)) := (Below.refl _ _).alloc (Nat.le_refl _) _
  have z0 : (w.alloc (.cells tzero.toArray 42)).heap.size = w.heap.size + 1 := by simp
  have HS := Lib.hid (hs.below (b0.mono hB))
  have R0 := Lib.hid r0
  have B0 := Lib.hid b0
  have Z0 := Lib.hid z0
  have HC := Lib.hid (And.intro hnc hc)
  have HZ := Lib.hid hz
  clear hs r0 b0 z0 hz
  obtain ⟨W, hW⟩ : ∃ W, W = w.alloc (.cells tzero.toArray 42) := ⟨_, rfl⟩
  go_enter Tryz.func94, Tryz.ntmps94
  go_upto_region 1 with fail
  have hX : ∀ c, c = tzero.toArray → w.alloc (.cells c 42) = W := by rintro _ rfl; exact hW.symm
  rw [hX]
  rotate_left
  · kernel_rfl
  rw [← hW] at HS R0 B0 Z0
  clear hW hX
  go_upto_region 2 with (((with_reducible show wpList _ _ _ ({ dst := none, op := Op.store 201 _ _, type := _, pos := _, after := _, guard := _ } :: _) _ _); go_must (refine wpList_store_new rfl 201 (.tmp 5) (.tmp 7) rfl (rcells (.slice none 0 0) mzero (.slice A zs.length c)) (by rw [size_rd, rcells_len mzero_len]) (rcells_one mzero_one) rfl ?_ ?_ ?_; go_simp; (go_simp; kernel_rfl); intro w1 hr1 hb1 hz1; have R1 := Lib.hid hr1; have B1 := Lib.hid hb1; have Z1 := Lib.hid hz1; clear hr1 hb1 hz1)))
  have HR0 := Lib.hid (R0.out.below B1.out R0.out.lt)
  have HS1 := Lib.hid (HS.out.below (B1.out.mono (Nat.le_trans hB B0.out.size)))
  have HB1 := Lib.hid (B0.out.trans (B1.out.mono B0.out.size))
  have HSG := Lib.hid (signatures_ W.heap.size B zs w1 ⟨A, c, R1.out, HS1.out, HC.out.1, HC.out.2⟩ (Nat.le_trans hB B0.out.size) HZ.out)
  clear R0 B0 B1 HS
  go_wp2_with fail
  refine HSG.out.mono ?_
  rintro e w2 (⟨l, r, v, hp, rfl, hsv, hrd, hb⟩ | ⟨x, hp, rfl, hb⟩)
  rotate_left
  · have hx := err_sigs _ _ HZ.out hp
    have HP : Hid (pTx zs = .error x) := Lib.hid (by unfold pTx; rw [hp])
    have HR2 := Lib.hid (hb.row HR0.out (show w.heap.size ≠ W.heap.size by have := Z0.out; omega))
    have HB2 := Lib.hid (HB1.out.trans (hb.below (show w.heap.size ≤ W.heap.size by have := Z0.out; omega) HB1.out.size))
    clear hp hb HSG
    rcases hx with rfl | rfl
    all_goals
      go_wp2_with (((with_reducible show wpList _ _ _ ({ dst := none, op := Op.store 42 _ _, type := _, pos := _, after := _, guard := _ } :: _) _ _); go_must (refine wpList_store_whole rfl 42 (.tmp 2) (.tmp 11) rfl w.heap.size tzero tzero HR2.out size_tz rfl tzero_one ?_ ?_ ?_; go_simp; (go_simp; kernel_rfl); intro w3 hr3 ht3; have R3 := Lib.hid hr3; have T3 := Lib.hid ht3; clear hr3 ht3)))
      refine bodyPost_ret (results_cell2 (h := rfl) _ w3 ⟨w.heap.size, 0, none⟩ _ _ _ (by rfl) (by rfl) (by rfl) (run_loadVar_row w3 w.heap.size 42 42 tzero.toArray (0, 0) _ R3.out.is Tryz.underlying42 rfl (by rw [List.size_toArray]; exact size_tz))) rfl ?_
      exact .inr ⟨_, HP.out, rfl, HB2.out.trans (T3.out.below (Nat.le_refl _))⟩
  have hrb : AllBytes r := HZ.out.behind (got_sigs _ _ _ HZ.out hp).1
  have hll := (got_sigs _ _ _ HZ.out hp).2.1
  have HM := Lib.hid (txmsg_ W.heap.size B v r w2 hrd (Nat.le_trans hB (by have := Z0.out; omega)) hrb)
  have HSV := Lib.hid hsv
  have HPS := Lib.hid hp
  have HR2 := Lib.hid (hb.row HR0.out (show w.heap.size ≠ W.heap.size by have := Z0.out; omega))
  have HBU2 := Lib.hid hb
  have HLL := Lib.hid hll
  have HRB := Lib.hid hrb
  have HLE := Lib.hid (front_sigs _ _ _ hp).le
  clear hp hsv hrd hb hrb hll HSG HR0
  go_wp2_with fail
  refine HM.out.mono ?_
  rintro e w3 (⟨m, r', q, lo, hp, rfl, hlo, hv, hrd, hb⟩ | ⟨x, hp, rfl, hb⟩)
  rotate_left
  · have hx := pMsg_err HRB.out hp
    have HP : Hid (pTx zs = .error x) := Lib.hid (by unfold pTx; rw [HPS.out]; dsimp only; rw [hp])
    have HR3 := Lib.hid (hb.row HR2.out (show w.heap.size ≠ W.heap.size by have := Z0.out; omega))
    have HB3 := Lib.hid (HB1.out.trans ((HBU2.out.trans hb).below (show w.heap.size ≤ W.heap.size by have := Z0.out; omega) HB1.out.size))
    clear hp hb HM
    rcases hx with rfl | rfl
    all_goals
      go_wp2_with (((with_reducible show wpList _ _ _ ({ dst := none, op := Op.store 42 _ _, type := _, pos := _, after := _, guard := _ } :: _) _ _); go_must (refine wpList_store_whole rfl 42 (.tmp 2) (.tmp 16) rfl w.heap.size tzero tzero HR3.out size_tz rfl tzero_one ?_ ?_ ?_; go_simp; (go_simp; kernel_rfl); intro w4 hr4 ht4; have R4 := Lib.hid hr4; have T4 := Lib.hid ht4; clear hr4 ht4)))
      refine bodyPost_ret (results_cell2 (h := rfl) _ w4 ⟨w.heap.size, 0, none⟩ _ _ _ (by rfl) (by rfl) (by rfl) (run_loadVar_row w4 w.heap.size 42 42 tzero.toArray (0, 0) _ R4.out.is Tryz.underlying42 rfl (by rw [List.size_toArray]; exact size_tz))) rfl ?_
      exact .inr ⟨_, HP.out, rfl, HB3.out.trans (T4.out.below (Nat.le_refl _))⟩
  obtain ⟨A2, c2, hr3, hs3, hnc2, hmc2⟩ := hrd
  obtain ⟨SA, sc, rfl⟩ := HSV.out.form
  have hl39 := cells_len (q := q) hv.recent
  have HP : Hid (pTx zs = .ok (⟨l, m⟩, r')) := Lib.hid (by unfold pTx; rw [HPS.out]; dsimp only; rw [hp])
  have hle2 := (front_msg _ _ _ hp).le
  have hle1 := HLE.out
  have hwr : IntKind.i64.wrap ((zs.length : Int) - r'.length) = (zs.length : Int) - r'.length := by rw [IntKind.wrap_i64]; omega
  have hcs : rcells (.slice SA l.length sc) (q.cells m) (.slice A2 r'.length c2) = TRaw.cells ⟨SA, l.length, sc, q⟩ ⟨l, m⟩ ++ [.slice A2 r'.length c2] := rfl
  have htl : (TRaw.cells ⟨SA, l.length, sc, q⟩ ⟨l, m⟩).length = 40 := tcells_len hv.recent
  have HTX : Hid (TxV w3 w1.heap.size w3.heap.size ⟨SA, l.length, sc, q⟩ ⟨l, m⟩) := Lib.hid ⟨HLL.out, w2.heap.size, HBU2.out.size, hb.size, (HSV.out.stay fun k a b => hb.block k b (by have := Z1.out; omega)), (by obtain ⟨a1, b1, a2, b2, a3, b3, k1, k2⟩ := hv.is; exact ⟨hv.recent, hv.short, a1, b1, a2, b2, a3, b3, by omega, k2⟩)⟩
  have HW3 := Lib.hid (show w1.heap.size ≤ w3.heap.size from Nat.le_trans HBU2.out.size hb.size)
  have HR3 := Lib.hid (hb.row HR2.out (show w.heap.size ≠ W.heap.size by have := Z0.out; omega))
  have HB3 := Lib.hid (HB1.out.trans ((HBU2.out.trans hb).below (show w.heap.size ≤ W.heap.size by have := Z0.out; omega) HB1.out.size))
  obtain ⟨cs, hcs2⟩ : ∃ cs, cs = TRaw.cells ⟨SA, l.length, sc, q⟩ ⟨l, m⟩ := ⟨_, rfl⟩
  have HCO : Hid (∀ u ∈ cs, u.oneCell' = true) := Lib.hid (by rw [hcs2]; exact tcells_one)
  have HCS := Lib.hid hcs2
  rw [← hcs2] at hcs htl
  rw [hcs] at hr3
  have HSZ := Lib.hid (show (Tryz.prog.info? 42).map (·.size) = some cs.length by rw [size_tx, htl])
  have HTL := Lib.hid htl
  have HRD := Lib.hid hr3
  clear hcs2 hcs htl hr3 hs3 hv hp hb HM HSV HPS HR2
  go_upto_region 8 with fail
  obtain ⟨V, hV⟩ : ∃ V, V = w3.drew := ⟨_, rfl⟩
  have HRV : Hid (Row V W.heap.size 201 (cs ++ [.slice A2 r'.length c2])) := Lib.hid (by rw [hV]; exact HRD.out.drew)
  have HR0V : Hid (Row V w.heap.size 42 tzero) := Lib.hid (by rw [hV]; exact HR3.out.drew)
  have HTV : Hid (TxV V w1.heap.size V.heap.size ⟨SA, l.length, sc, q⟩ ⟨l, m⟩) := Lib.hid (by rw [hV]; exact HTX.out.stay (Nat.le_refl _) fun _ _ _ => rfl)
  have HBV : Hid (Below w.heap.size w V) := Lib.hid (by rw [hV]; exact HB3.out.drew)
  have HS : Hid (V.rangeAt W.heap.size 0 cs ∧ V.cell? ⟨W.heap.size, 40, none⟩ = some (.slice A2 r'.length c2)) := Lib.hid ⟨fun j u hu => by rw [HRV.out.cell, Nat.zero_add, List.getElem?_append_left (List.getElem?_eq_some_iff.1 hu).1]; exact hu, by rw [HRV.out.cell, List.getElem?_append_right (by rw [HTL.out]; omega), HTL.out]; rfl⟩
  refine wp_region_held_drew (S := fun V => V.rangeAt W.heap.size 0 cs ∧ V.cell? ⟨W.heap.size, 40, none⟩ = some (.slice A2 r'.length c2)) (by kernel_rfl) (by rw [← hV]; exact HS.out) (fun _ => ?_)
  rw [← hV]
  clear hV HRD HR3 HTX HB3
  refine takeL (i := 0) (v := ?_) rfl (by kernel_rfl) (by kernel_rfl) (by kernel_rfl) (fun _ _ _ h => h) (Or.inl ⟨by rfl, ?_⟩) HS.out ?_
  rotate_left
  · intro w hw
    try dsimp only at hw
    go_simp
    try with_reducible rfl
  try simp only [Act.put, List.setIfInBounds_toArray, List.set_cons_zero, List.set_cons_succ]
  refine takeL (i := 1) (v := .agg cs.toArray) rfl (by kernel_rfl) (by kernel_rfl) (by kernel_rfl) (fun _ _ _ h => h) (yieldsIf_load_mid (by rfl) 42 (.tmp 18) rfl W.heap.size 0 (by go_simp) cs _ (fun w hw => hw.1) Tryz.underlying42 rfl HSZ.out) HS.out ?_
  try simp only [Act.put, List.setIfInBounds_toArray, List.set_cons_zero, List.set_cons_succ]
  refine takeL (i := 2) (v := ?_) rfl (by kernel_rfl) (by kernel_rfl) (by kernel_rfl) (fun _ _ _ h => h) (Or.inl ⟨by rfl, ?_⟩) HS.out ?_
  rotate_left
  · intro w hw
    try dsimp only at hw
    go_simp
    try with_reducible rfl
  try simp only [Act.put, List.setIfInBounds_toArray, List.set_cons_zero, List.set_cons_succ]
  refine takeL (i := 3) (v := ?_) rfl (by kernel_rfl) (by kernel_rfl) (by kernel_rfl) (fun _ _ _ h => h) (Or.inl ⟨by rfl, ?_⟩) HS.out ?_
  rotate_left
  · intro w hw
    try dsimp only at hw
    go_simp
    try with_reducible rfl
  try simp only [Act.put, List.setIfInBounds_toArray, List.set_cons_zero, List.set_cons_succ]
  refine takeL (i := 4) (v := ?_) rfl (by kernel_rfl) (by kernel_rfl) (by kernel_rfl) (fun _ _ _ h => h) (Or.inl ⟨by rfl, ?_⟩) HS.out ?_
  rotate_left
  · intro w hw
    try dsimp only at hw
    go_simp
    try with_reducible rfl
  try simp only [Act.put, List.setIfInBounds_toArray, List.set_cons_zero, List.set_cons_succ]
  refine takeL (i := 5) (v := ?_) rfl (by kernel_rfl) (by kernel_rfl) (by kernel_rfl) (fun _ _ _ h => h) (Or.inl ⟨by rfl, ?_⟩) HS.out ?_
  rotate_left
  · intro w hw
    try dsimp only at hw
    obtain ⟨_, hw⟩ := hw
    go_simp
    try with_reducible rfl
  try simp only [Act.put, List.setIfInBounds_toArray, List.set_cons_zero, List.set_cons_succ]
  refine takeL (i := 6) (v := ?_) rfl (by kernel_rfl) (by kernel_rfl) (by kernel_rfl) (fun _ _ _ h => h) (Or.inl ⟨by rfl, ?_⟩) HS.out ?_
  rotate_left
  · intro w hw
    try dsimp only at hw
    go_simp
    try with_reducible rfl
  try simp only [Act.put, List.setIfInBounds_toArray, List.set_cons_zero, List.set_cons_succ]
  refine takeL (i := 7) (v := ?_) rfl (by kernel_rfl) (by kernel_rfl) (by kernel_rfl) (fun _ _ _ h => h) (Or.inl ⟨by rfl, ?_⟩) HS.out ?_
  rotate_left
  · intro w hw
    try dsimp only at hw
    go_simp
    try with_reducible rfl
  try simp only [Act.put, List.setIfInBounds_toArray, List.set_cons_zero, List.set_cons_succ]
  refine readyL (i := 8) rfl (by kernel_rfl) (by kernel_rfl) fun K hK => ?_
  refine wp_store_whole 42 (.tmp 2) (.tmp 19) rfl w.heap.size tzero cs HR0V.out HSZ.out (by rw [HTL.out]; rfl) HCO.out ?_ ?_ ?_
  · go_simp
  · go_simp
  intro V2 hr2 ht2
  have HR2 := Lib.hid hr2
  have HT2 := Lib.hid ht2
  have hrd2 := ht2.row HRV.out (show W.heap.size ≠ w.heap.size by have := Z0.out; omega)
  have HS2 : Hid (V2.rangeAt W.heap.size 0 cs ∧ V2.cell? ⟨W.heap.size, 40, none⟩ = some (.slice A2 r'.length c2)) := Lib.hid ⟨fun j u hu => by rw [hrd2.cell, Nat.zero_add, List.getElem?_append_left (List.getElem?_eq_some_iff.1 hu).1]; exact hu, by rw [hrd2.cell, List.getElem?_append_right (by rw [HTL.out]; omega), HTL.out]; rfl⟩
  clear hr2 ht2 hrd2
  refine hK.out _ _ HS2.out ?_
  clear hK K
  try simp only [Act.put, List.setIfInBounds_toArray, List.set_cons_zero, List.set_cons_succ]
  refine takeL (i := 9) (v := ?_) rfl (by kernel_rfl) (by kernel_rfl) (by kernel_rfl) (fun _ _ _ h => h) (Or.inl ⟨by rfl, ?_⟩) HS2.out ?_
  rotate_left
  · intro w hw
    try dsimp only at hw
    go_simp
    try with_reducible rfl
  try simp only [Act.put, List.setIfInBounds_toArray, List.set_cons_zero, List.set_cons_succ]
  refine takeL (i := 10) (v := ?_) rfl (by kernel_rfl) (by kernel_rfl) (by kernel_rfl) (fun _ _ _ h => h) (Or.inl ⟨by rfl, ?_⟩) HS2.out ?_
  rotate_left
  · intro w hw
    try dsimp only at hw
    go_simp
    try with_reducible rfl
  try simp only [Act.put, List.setIfInBounds_toArray, List.set_cons_zero, List.set_cons_succ]
  refine wpAnyH_done (by kernel_rfl) ?_ _
  go_wp2_with fail
  refine bodyPost_ret (results_cell2 (h := rfl) _ V2 ⟨w.heap.size, 0, none⟩ _ _ _ (by rfl) (by rfl) (by rfl) (run_loadVar_row V2 w.heap.size 42 42 cs.toArray (0, 0) _ HR2.out.is Tryz.underlying42 rfl (by rw [List.size_toArray]; exact HSZ.out))) rfl ?_
  refine .inl ⟨⟨l, m⟩, r', ⟨SA, l.length, sc, q⟩, w1.heap.size, HP.out, by rw [HCS.out]; rfl, ?_, ?_, ?_⟩
  · exact HB1.out.size
  · refine (HTV.out.stay (w' := V2) (by rw [HT2.out.size]; exact Nat.le_refl _) fun k a b => HT2.out.block k ?_).more (by rw [HT2.out.size]; exact Nat.le_refl _)
    have := Z0.out
    have := Z1.out
    omega
  · exact HBV.out.trans (HT2.out.below (Nat.le_refl _))
end Go.Proofs.YtdgbodljmdcagaaGreatDoor

/-
  Of part BookTx: what is needed here.
-/
namespace Go.Proofs.YtdgbodljmdcagaaGreatDoor
open Go.RowKit
set_option linter.unusedVariables false
set_option maxRecDepth 100000
set_option maxRecDepth 100000 in
set_option maxHeartbeats 2000000 in
theorem bookTx (p base B : Nat) (ks : List (Sl × Kd)) (C ms : List Value) (S K I L : Sl) (iv lv : Nat → Sl × Sl) (w0 w : World) (h : Bk w0 p base ks w)
    (h0 : C[0]? = some S.val) (hm : ∀ j, C[1 + j]? = ms[j]?) (hl : ms.length = 39)
    (h4 : ms[4]? = some K.val) (h37 : ms[37]? = some I.val) (h38 : ms[38]? = some L.val) (hI : TwoAt w B 3 1 I iv) (hL : TwoAt w B 34 32 L lv) (hB : B ≤ base) (hp : B ≤ p) (hn : ks.length + 4 + 2 * I.n + 2 * L.n ≤ 1000000) :
    Calls Tryz.prog 21 #[.pointer (some ⟨p, 0, none⟩), .agg C.toArray] w fun e w' => e = .returned (.tuple #[]) ∧ Bk w0 p base (ks ++ ([(S, Kd.s)] ++ pagesOf K iv I.n lv L.n)) w' := by
  have HW := Lib.hid h
  have hplt := h.plt
  have H1 := Lib.hid ((h.alloc (.cells C.toArray 42)).start)
  have RM := Lib.hid (Row.new w 42 C)
  have hBs : B ≤ w.heap.size := by
    obtain ⟨P, A, c, _, _, h3⟩ := h
    have := h3.lt
    omega
  have HI := Lib.hid (hI.keep ((Below.refl B w).alloc hBs (.cells C.toArray 42)))
  have HL := Lib.hid (hL.keep ((Below.refl B w).alloc hBs (.cells C.toArray 42)))
  have HM := Lib.hid hm
  have H4 := Lib.hid (And.intro h4 (And.intro h37 h38))
  have HB := Lib.hid (And.intro hB hp)
  have HN := Lib.hid hn
  have HSM := Lib.hid (show (Tryz.prog.info? 40).map (·.size) = some ms.length by rw [size_msg, hl])
  have c0 : (w.alloc (.cells C.toArray 42)).cell? ⟨w.heap.size, 0, none⟩ = some S.val := by rw [RM.out.cell]; exact h0
  have hkn : ks.length ≤ 1000000 := by omega
  have HTR : Hid (∀ ks' w', Bk (w.alloc (.cells C.toArray 42)) p base ks' w' → Bk w0 p base ks' w') := Lib.hid fun ks' w' h' => (HW.out.alloc _).trans h'
  clear h hI hL h4 h37 h38 hB hp hm hn h0 hl
  go_enter Tryz.func21, Tryz.ntmps21
  unfold Sl.val at c0
  go_wp2_with fail
  refine (bkSigs p base ks S _ _ H1.out hkn).mono ?_
  rintro e w1 ⟨rfl, hb1⟩
  have HB1 := Lib.hid hb1
  clear hb1 c0 H1
  generalize w.alloc (.cells C.toArray 42) = W at *
  obtain ⟨mb, hmb⟩ : ∃ mb, w.heap.size = mb := ⟨_, rfl⟩
  rw [hmb] at RM ⊢
  have hne : mb ≠ p := by omega
  have R1 := Lib.hid (HB1.out.row RM.out hne (by decide))
  clear hplt hmb
  go_wp2_with (((with_reducible show wpList _ _ _ ({ dst := some 10, op := Op.load _ _, type := _, pos := _, after := _, guard := _ } :: _) _ _); go_must (refine wpList_load_at rfl 40 (.tmp 9) rfl ⟨mb, 1, none⟩ ms _ Tryz.underlying40 rfl HSM.out (fun j u hu => by rw [addr_row, R1.out.cell, HM.out]; exact hu) ?_ ?_; go_simp)))
  refine (bookMessage p base B (ks ++ [(S, Kd.s)]) ms K I L iv lv W w1 HB1.out H4.out.1 H4.out.2.1 H4.out.2.2 (HI.out.keep (HB1.out.one.below HB.out.1 HB.out.2)) (HL.out.keep (HB1.out.one.below HB.out.1 HB.out.2)) HB.out.1 HB.out.2 (by have := HN.out; rw [List.length_append]; simp; omega)).mono ?_
  rintro e w2 ⟨rfl, hb2⟩
  have HB2 := Lib.hid hb2
  clear hb2
  go_wp2_with fail
  go_end0
  refine ⟨rfl, HTR.out _ _ ?_⟩
  have := HB2.out
  rw [List.append_assoc] at this
  exact this
/-- a transaction's pages -/
def txPages (S K : Sl) (iv : Nat → Sl × Sl) (n : Nat) (lv : Nat → Sl × Sl) (m : Nat) : List (Sl × Kd) := [(S, Kd.s)] ++ pagesOf K iv n lv m
/-- a transaction of the call's own, page by page -/
structure TxPages (w : World) (lo hi : Nat) (s : TRaw) (x : LTx) (S K I L : Sl) (iv lv : Nat → Sl × Sl) : Prop where
  sg : Value.slice s.SA s.sn s.sc = S.val
  k : Value.slice s.q.KA s.q.kn s.q.kc = K.val
  i : Value.slice s.q.IA s.q.n s.q.ic = I.val
  l : Value.slice s.q.LA s.q.ln s.q.lc = L.val
  ti : TwoAt w hi 3 1 I iv
  tl : TwoAt w hi 34 32 L lv
  fits : ∀ y ∈ txPages S K iv I.n lv L.n, SlFit w y
  rise : (blocks (txPages S K iv I.n lv L.n)).Pairwise (· < ·)
  low : ∀ g ∈ blocks (txPages S K iv I.n lv L.n), lo ≤ g ∧ g < hi
  n : I.n = x.m.ins.length ∧ L.n = x.m.looks.length
theorem TxV.pages {w : World} {lo hi : Nat} {s : TRaw} {x : LTx} (h : TxV w lo hi s x) : ∃ S K I L iv lv, TxPages w lo hi s x S K I L iv lv := by
  obtain ⟨mid, h1, h2, h3, h4⟩ := h.is
  obtain ⟨K, I, L, iv, lv, hp⟩ := h4.pages
  obtain ⟨S, hS, _, hx0, hx1⟩ := own_sl h3.own
  have fS : SlFit w (S, Kd.s) := by
    obtain ⟨A, n, c⟩ := S
    cases A with
    | none => exact hx0 rfl
    | some g =>
      obtain ⟨b1, b2, _, b4, b5, cur, b6, b7⟩ := hx1 g rfl
      exact ⟨b4, b5, cur, b6, Nat.le_of_eq b7.symm, fun _ => b7⟩
  have gS : ∀ g, S.A = some g → lo ≤ g ∧ g < mid := fun g hg => ⟨(hx1 g hg).1, h3.lt g (hx1 g hg).2.2.1⟩
  refine ⟨S, K, I, L, iv, lv, hS, hp.k, hp.i, hp.l, hp.ti, hp.tl, fun y hy => ?_, ?_, fun g hg => ?_, hp.n⟩
  · rcases List.mem_append.1 hy with hy | hy
    · rw [List.mem_singleton.1 hy]; exact fS
    · exact hp.fits y hy
  · unfold txPages
    rw [blocks_app]
    exact pair_app (m := mid) (pair_one _) hp.rise (fun g hg => (gS g (blocks_one _ g hg)).2) fun g hg => (hp.low g hg).1
  · unfold txPages at hg
    rw [blocks_app] at hg
    rcases List.mem_append.1 hg with hg | hg
    · have := gS g (blocks_one _ g hg)
      omega
    · have := hp.low g hg
      omega
/-- the zero transaction has no pages to speak of -/
theorem zPages (w : World) (lo hi : Nat) : TxPages w lo hi zRaw zTx ⟨none, 0, 0⟩ ⟨none, 0, 0⟩ ⟨none, 0, 0⟩ ⟨none, 0, 0⟩ (fun _ => (⟨none, 0, 0⟩, ⟨none, 0, 0⟩)) (fun _ => (⟨none, 0, 0⟩, ⟨none, 0, 0⟩)) := by
  refine ⟨rfl, rfl, rfl, rfl, fun i hi => absurd hi (Nat.not_lt_zero i), fun i hi => absurd hi (Nat.not_lt_zero i), fun y hy => ?_, ?_, fun g hg => ?_, rfl, rfl⟩
  · have hy' : y ∈ [((⟨none, 0, 0⟩ : Sl), Kd.s), (⟨none, 0, 0⟩, Kd.k)] := hy
    simp only [List.mem_cons, List.not_mem_nil, or_false] at hy'
    rcases hy' with rfl | rfl <;> exact ⟨rfl, rfl⟩
  · exact List.Pairwise.nil
  · cases hg
theorem TwoAt.stay {w w' : World} {B size o : Nat} {x : Sl} {f : Nat → Sl × Sl} (h : TwoAt w B size o x f) (hk : ∀ a : Addr, a.block < B → w'.cell? a = w.cell? a) : TwoAt w' B size o x f := fun i hi => by
  obtain ⟨g, h1, h2, h3, h4⟩ := h i hi
  exact ⟨g, h1, h2, (hk _ h2).trans h3, (hk _ h2).trans h4⟩
theorem TxPages.below {w w' : World} {lo hi : Nat} {s : TRaw} {x : LTx} {S K I L : Sl} {iv lv : Nat → Sl × Sl} (h : TxPages w lo hi s x S K I L iv lv) (hb : Below hi w w') : TxPages w' lo hi s x S K I L iv lv :=
  ⟨h.sg, h.k, h.i, h.l, h.ti.keep hb, h.tl.keep hb, fun y hy => (h.fits y hy).keep fun g hg => hb.block g (h.low g (List.mem_filterMap.2 ⟨y, hy, hg⟩)).2, h.rise, h.low, h.n⟩
/-- a transaction of the call's own goes into a book -/
theorem bookTxV (p base lo hi : Nat) (ks : List (Sl × Kd)) (s : TRaw) (x : LTx) (S K I L : Sl) (iv lv : Nat → Sl × Sl) (w0 w : World) (h : Bk w0 p base ks w) (hr : x.m.recent.length = 32)
    (hp : TxPages w lo hi s x S K I L iv lv) (hb : hi ≤ base) (hbp : hi ≤ p) (hn : ks.length + 4 + 2 * x.m.ins.length + 2 * x.m.looks.length ≤ 1000000) :
    Calls Tryz.prog 21 #[.pointer (some ⟨p, 0, none⟩), .agg (s.cells x).toArray] w fun e w' => e = .returned (.tuple #[]) ∧ Bk w0 p base (ks ++ txPages S K iv I.n lv L.n) w' := by
  refine bookTx p base hi ks (s.cells x) (s.q.cells x.m) S K I L iv lv w0 w h ?_ (tcells_m (s := s) (x := x)) (cells_len hr) ?_ ?_ ?_ hp.ti hp.tl hb hbp (by rw [hp.n.1, hp.n.2]; exact hn)
  · rw [tcells_0, hp.sg]
  · rw [cells_4, hp.k]
  · rw [cells_37 hr, hp.i]
  · rw [cells_38 hr, hp.l]
end Go.Proofs.YtdgbodljmdcagaaGreatDoor

/-
  Of part Ready11: what is needed here.
-/
namespace Go.Proofs.YtdgbodljmdcagaaGreatDoor
open Go.RowKit
set_option linter.unusedVariables false
set_option maxRecDepth 100000
structure LReady where
  bytes : List Int
  tx : LTx
  roles : List LRole
  u : Int
  p : Int
  bad : Int
  fee : Int
  cost : Int
  pri : Int
/-- where its lists lie -/
structure YRaw where
  BA : Option Addr
  bn : Nat
  bc : Nat
  t : TRaw
  RA : Option Addr
  rn : Nat
  rc : Nat
def LReady.last (x : LReady) : List Value := [.int .u64 x.u, .int .u64 x.p, .int .i64 x.bad, .int .u64 x.fee, .int .u64 x.cost, .int .u64 x.pri]
def YRaw.cells (q : YRaw) (x : LReady) : List Value := .slice q.BA q.bn q.bc :: (q.t.cells x.tx ++ (.slice q.RA q.rn q.rc :: x.last))
structure ReadyIn (w : World) (B : Nat) (q : YRaw) (x : LReady) : Prop where
  bs : Sees w B q.BA q.bn (bv x.bytes)
  bn : q.bn ≤ q.bc ∧ q.bc ≤ maxLen
  tx : TxIn w B q.t x.tx
  rs : RolesIn w B q.RA q.rn x.roles
  rn : q.rn ≤ q.rc ∧ q.rc ≤ maxLen
section
variable {w w' : World} {B B' : Nat} {q : YRaw} {x : LReady}
theorem ReadyIn.below (h : ReadyIn w B q x) (hb : Below B w w') : ReadyIn w' B q x := ⟨h.bs.below hb, h.bn, h.tx.below hb, h.rs.below hb, h.rn⟩
theorem ReadyIn.more (h : ReadyIn w B q x) (hB : B ≤ B') : ReadyIn w B' q x := ⟨h.bs.more hB, h.bn, h.tx.more hB, h.rs.more hB, h.rn⟩
theorem ycells_len (h : x.tx.m.recent.length = 32) : (q.cells x).length = 48 := by
  simp [YRaw.cells, tcells_len h, LReady.last]
theorem ycells_t {j : Nat} {u : Value} (h : (q.t.cells x.tx)[j]? = some u) : (q.cells x)[1 + j]? = some u := by
  rw [Nat.add_comm]
  show (q.t.cells x.tx ++ _)[j]? = _
  rw [List.getElem?_append_left (List.getElem?_eq_some_iff.1 h).1]
  exact h
theorem ycells_41 (h : x.tx.m.recent.length = 32) (j : Nat) : (q.cells x)[41 + j]? = (.slice q.RA q.rn q.rc :: x.last)[j]? := by
  rw [show 41 + j = 40 + j + 1 by omega]
  show (q.t.cells x.tx ++ _)[40 + j]? = _
  rw [List.getElem?_append_right (by rw [tcells_len h]; omega), tcells_len h, show 40 + j - 40 = j by omega]
theorem ycells_one : ∀ u ∈ q.cells x, u.oneCell' = true := by
  intro u hu
  rcases List.mem_cons.1 hu with rfl | hu
  · rfl
  rcases List.mem_append.1 hu with hu | hu
  · exact tcells_one u hu
  · simp only [LReady.last, List.mem_cons, List.not_mem_nil, or_false] at hu
    rcases hu with rfl | rfl | rfl | rfl | rfl | rfl | rfl <;> rfl
end
/-- nothing -/
def zReady : LReady := ⟨[], zTx, [], 0, 0, 0, 0, 0, 0⟩
def zYRaw : YRaw := ⟨none, 0, 0, zRaw, none, 0, 0⟩
theorem zReady_in (w : World) (B : Nat) : ReadyIn w B zYRaw zReady :=
  ⟨Sees.nil _ _ _, by simp [zYRaw, maxLen], zTx_in w B, ⟨⟨rfl, fun c hc => (by cases hc), Sees.nil _ _ _⟩, fun r hr => (by cases hr)⟩, by simp [zYRaw, maxLen]⟩
def yPages (Bs Rs S K : Sl) (iv : Nat → Sl × Sl) (n : Nat) (lv : Nat → Sl × Sl) (m : Nat) : List (Sl × Kd) := [(Bs, Kd.b)] ++ (txPages S K iv n lv m ++ [(Rs, Kd.r)])
/-- of the call's own, page by page -/
structure YPages (w : World) (lo hi : Nat) (q : YRaw) (x : LReady) (Bs Rs S K I L : Sl) (iv lv : Nat → Sl × Sl) : Prop where
  b : Value.slice q.BA q.bn q.bc = Bs.val
  r : Value.slice q.RA q.rn q.rc = Rs.val
  t : ∃ lo' hi', lo ≤ lo' ∧ hi' ≤ hi ∧ TxPages w lo' hi' q.t x.tx S K I L iv lv
  fb : SlFit w (Bs, Kd.b)
  fr : SlFit w (Rs, Kd.r)
  ne : (blocks (yPages Bs Rs S K iv I.n lv L.n)).Pairwise (· ≠ ·)
  low : ∀ g ∈ blocks (yPages Bs Rs S K iv I.n lv L.n), lo ≤ g ∧ g < hi
end Go.Proofs.YtdgbodljmdcagaaGreatDoor

/-
  Of part WholeTx: what is needed here.
-/
namespace Go.Proofs.YtdgbodljmdcagaaGreatDoor
open Go.RowKit
set_option linter.unusedVariables false
set_option maxRecDepth 100000
/-- what Whole leaves -/
def WholeDone (w : World) (zs : List Int) (e : Ending) (w' : World) : Prop :=
  (∃ x s lo, wTx zs = .ok x ∧ e = .returned (.tuple #[.agg (TRaw.cells s x).toArray, .int .i64 0]) ∧ w.heap.size ≤ lo ∧ TxV w' lo w'.heap.size s x ∧ Below w.heap.size w w') ∨
  (∃ c, wTx zs = .error c ∧ e = .returned (.tuple #[.agg tzero.toArray, .int .i64 c]) ∧ Below w.heap.size w w')
set_option maxRecDepth 100000 in
set_option maxHeartbeats 2000000 in
theorem whole_ (A : Option Addr) (n c B : Nat) (zs : List Int) (w : World) (hs : Sees w B A n (bv zs)) (hB : B ≤ w.heap.size) (hnc : n ≤ c) (hc : c ≤ maxLen) (hz : AllBytes zs) :
    Calls Tryz.prog 53 #[.slice A n c] w (WholeDone w zs) := by
  have hn : zs.length = n := by have := hs.len; rwa [bv_length] at this
  subst hn
  have hmx := hc
  unfold maxLen at hmx
  have r0 := Row.new w 42 tzero
  have b0 : Below w.heap.size w (w.alloc (.cells tzero.toArray 42)) := (Below.refl _ _).alloc (Nat.le_refl _) _
  have z0 : (w.alloc (.cells tzero.toArray 42)).heap.size = w.heap.size + 1 := by simp
  have HG := Lib.hid (gettx_ A zs.length c B zs (w.alloc (.cells tzero.toArray 42)) (hs.below (b0.mono hB)) (Nat.le_trans hB b0.size) hnc hc hz)
  have R0 := Lib.hid r0
  have B0 := Lib.hid b0
  have Z0 := Lib.hid z0
  have HZ := Lib.hid hz
  clear hs r0 b0 z0 hz
  obtain ⟨W, hW⟩ : ∃ W, W = w.alloc (.cells tzero.toArray 42) := ⟨_, rfl⟩
  go_enter Tryz.func53, Tryz.ntmps53
  go_upto_region 1 with fail
  have hX : ∀ c, c = tzero.toArray → w.alloc (.cells c 42) = W := by rintro _ rfl; exact hW.symm
  rw [hX]
  rotate_left
  · kernel_rfl
  rw [← hW] at HG R0 B0 Z0
  clear hW hX
  by_cases hbig : 1232 < zs.length
  · have HP : Hid (wTx zs = .error 3) := Lib.hid (by unfold wTx; rw [if_pos hbig])
    have hbig' : (1232 : Int) < zs.length := by omega
    go_wp2_with (((with_reducible show wpList _ _ _ ({ dst := none, op := Op.store 42 _ _, type := _, pos := _, after := _, guard := _ } :: _) _ _); go_must (refine wpList_store_whole rfl 42 (.tmp 2) (.tmp 10) rfl w.heap.size tzero tzero R0.out size_tz rfl tzero_one ?_ ?_ ?_; go_simp; (go_simp; kernel_rfl); intro w3 hr3 ht3; have R3 := Lib.hid hr3; have T3 := Lib.hid ht3; clear hr3 ht3)))
    refine bodyPost_ret (results_cell1 (h := rfl) _ w3 ⟨w.heap.size, 0, none⟩ _ _ (by rfl) (by rfl) (run_loadVar_row w3 w.heap.size 42 42 tzero.toArray (0, 0) _ R3.out.is Tryz.underlying42 rfl (by rw [List.size_toArray]; exact size_tz))) rfl ?_
    exact .inr ⟨_, HP.out, rfl, B0.out.trans (T3.out.below (Nat.le_refl _))⟩
  have hbig' : ¬ (1232 : Int) < zs.length := by omega
  go_wp2_with fail
  refine HG.out.mono ?_
  rintro e w2 (⟨x, r, s, lo, hp, rfl, hlo, hv, hb⟩ | ⟨x, hp, rfl, hb⟩)
  rotate_left
  · have hx := pTx_err HZ.out hp
    have HP : Hid (wTx zs = .error x) := Lib.hid (by unfold wTx; rw [if_neg hbig, hp])
    have HR2 := Lib.hid (R0.out.below hb R0.out.lt)
    have HB2 := Lib.hid (B0.out.trans (hb.mono B0.out.size))
    have HLT := Lib.hid (show w.heap.size < w2.heap.size by have := HR2.out.lt; exact this)
    clear hp hb HG
    rcases hx with rfl | rfl
    all_goals
      go_wp2_with (first
        | ((with_reducible show wpList _ _ _ ({ dst := none, op := Op.store 42 (.tmp 4) _, type := _, pos := _, after := _, guard := _ } :: _) _ _); go_must (refine wpList_store_new rfl 42 (.tmp 4) (.tmp 14) rfl tzero size_tz tzero_one rfl ?_ ?_ ?_; go_simp; go_simp; intro w3 hr3 hb3 hz3; have B3 := Lib.hid hb3; clear hr3 hb3 hz3))
        | ((with_reducible show wpList _ _ _ ({ dst := none, op := Op.store 42 (.tmp 2) _, type := _, pos := _, after := _, guard := _ } :: _) _ _); go_must (refine wpList_store_whole rfl 42 (.tmp 2) (.tmp 19) rfl w.heap.size tzero tzero (HR2.out.below B3.out HLT.out) size_tz rfl tzero_one ?_ ?_ ?_; go_simp; (go_simp; kernel_rfl); intro w4 hr4 ht4; have R4 := Lib.hid hr4; have T4 := Lib.hid ht4; clear hr4 ht4)))
      refine bodyPost_ret (results_cell1 (h := rfl) _ w4 ⟨w.heap.size, 0, none⟩ _ _ (by rfl) (by rfl) (run_loadVar_row w4 w.heap.size 42 42 tzero.toArray (0, 0) _ R4.out.is Tryz.underlying42 rfl (by rw [List.size_toArray]; exact size_tz))) rfl ?_
      exact .inr ⟨_, HP.out, rfl, (HB2.out.trans (B3.out.mono HB2.out.size)).trans (T4.out.below (Nat.le_refl _))⟩
  have hle := (front_tx _ _ _ hp).le
  have HR2 := Lib.hid (R0.out.below hb R0.out.lt)
  have HB2 := Lib.hid (B0.out.trans (hb.mono B0.out.size))
  have HLT := Lib.hid HR2.out.lt
  have HTX := Lib.hid hv
  have HSZ := Lib.hid (show (Tryz.prog.info? 42).map (·.size) = some (TRaw.cells s x).length by rw [size_tx, tcells_len hv.in_.m.recent])
  have HTL := Lib.hid (tcells_len (s := s) (x := x) hv.in_.m.recent)
  have HCO := Lib.hid (tcells_one (s := s) (x := x))
  have HLO := Lib.hid hlo
  have HP2 := Lib.hid hp
  obtain ⟨T, hT⟩ : ∃ T : Int, T = (zs.length : Int) - r.length := ⟨_, rfl⟩
  rw [← hT]
  have HT := Lib.hid hT
  obtain ⟨cs, hcs⟩ : ∃ cs, cs = TRaw.cells s x := ⟨_, rfl⟩
  have HCS := Lib.hid hcs
  rw [← hcs] at HSZ HTL HCO ⊢
  clear hcs hT hp hv hlo hb HG
  by_cases h0 : r.length = 0
  · have hT0 : ¬ T < zs.length := by have := HT.out; omega
    have HP : Hid (wTx zs = .ok x) := Lib.hid (by unfold wTx; rw [if_neg hbig, HP2.out]; dsimp only; rw [if_pos h0])
    go_wp2_with (first
      | ((with_reducible show wpList _ _ _ ({ dst := none, op := Op.store 42 (.tmp 4) _, type := _, pos := _, after := _, guard := _ } :: _) _ _); go_must (refine wpList_store_new rfl 42 (.tmp 4) (.tmp 14) rfl cs HSZ.out HCO.out (by rw [HTL.out]; rfl) ?_ ?_ ?_; go_simp; go_simp; intro w3 hr3 hb3 hz3; have R3 := Lib.hid hr3; have B3 := Lib.hid hb3; clear hr3 hb3 hz3))
      | ((with_reducible show wpList _ _ _ ({ dst := some 26, op := Op.load _ _, type := _, pos := _, after := _, guard := _ } :: _) _ _); go_must (refine wpList_load_whole rfl 42 (.tmp 4) rfl w2.heap.size 42 cs _ Tryz.underlying42 rfl HSZ.out R3.out ?_ ?_; go_simp))
      | ((with_reducible show wpList _ _ _ ({ dst := none, op := Op.store 42 (.tmp 2) _, type := _, pos := _, after := _, guard := _ } :: _) _ _); go_must (refine wpList_store_whole rfl 42 (.tmp 2) (.tmp 26) rfl w.heap.size tzero cs (HR2.out.below B3.out HLT.out) HSZ.out (by rw [HTL.out]; rfl) HCO.out ?_ ?_ ?_; go_simp; go_simp; intro w4 hr4 ht4; have R4 := Lib.hid hr4; have T4 := Lib.hid ht4; clear hr4 ht4)))
    refine bodyPost_ret (results_cell1 (h := rfl) _ w4 ⟨w.heap.size, 0, none⟩ _ _ (by rfl) (by rfl) (run_loadVar_row w4 w.heap.size 42 42 cs.toArray (0, 0) _ R4.out.is Tryz.underlying42 rfl (by rw [List.size_toArray]; exact HSZ.out))) rfl ?_
    refine .inl ⟨x, s, lo, HP.out, by rw [HCS.out]; rfl, ?_, ?_, (HB2.out.trans (B3.out.mono HB2.out.size)).trans (T4.out.below (Nat.le_refl _))⟩
    · exact Nat.le_trans B0.out.size HLO.out
    · refine (HTX.out.stay (w' := w4) (by rw [T4.out.size]; exact B3.out.size) fun k a b => (T4.out.block k ?_).trans (B3.out.block k b)).more (by rw [T4.out.size]; exact B3.out.size)
      have := Z0.out
      have := HLO.out
      omega
  · have hT0 : T < zs.length := by have := HT.out; omega
    have HP : Hid (wTx zs = .error 4) := Lib.hid (by unfold wTx; rw [if_neg hbig, HP2.out]; dsimp only; rw [if_neg h0])
    go_wp2_with (first
      | ((with_reducible show wpList _ _ _ ({ dst := none, op := Op.store 42 (.tmp 4) _, type := _, pos := _, after := _, guard := _ } :: _) _ _); go_must (refine wpList_store_new rfl 42 (.tmp 4) (.tmp 14) rfl cs HSZ.out HCO.out (by rw [HTL.out]; rfl) ?_ ?_ ?_; go_simp; go_simp; intro w3 hr3 hb3 hz3; have B3 := Lib.hid hb3; clear hr3 hb3 hz3))
      | ((with_reducible show wpList _ _ _ ({ dst := none, op := Op.store 42 (.tmp 2) _, type := _, pos := _, after := _, guard := _ } :: _) _ _); go_must (refine wpList_store_whole rfl 42 (.tmp 2) (.tmp 25) rfl w.heap.size tzero tzero (HR2.out.below B3.out HLT.out) size_tz rfl tzero_one ?_ ?_ ?_; go_simp; (go_simp; kernel_rfl); intro w4 hr4 ht4; have R4 := Lib.hid hr4; have T4 := Lib.hid ht4; clear hr4 ht4)))
    refine bodyPost_ret (results_cell1 (h := rfl) _ w4 ⟨w.heap.size, 0, none⟩ _ _ (by rfl) (by rfl) (run_loadVar_row w4 w.heap.size 42 42 tzero.toArray (0, 0) _ R4.out.is Tryz.underlying42 rfl (by rw [List.size_toArray]; exact size_tz))) rfl ?_
    exact .inr ⟨_, HP.out, rfl, (HB2.out.trans (B3.out.mono HB2.out.size)).trans (T4.out.below (Nat.le_refl _))⟩
end Go.Proofs.YtdgbodljmdcagaaGreatDoor

/-
  Of part Settle11: what is needed here.
-/
namespace Go.Proofs.YtdgbodljmdcagaaGreatDoor
open Go.RowKit
set_option linter.unusedVariables false
set_option maxRecDepth 100000
def yzero : List Value := YRaw.cells zYRaw zReady
theorem zero_recent : zReady.tx.m.recent.length = 32 := rfl
theorem yzero_len : yzero.length = 48 := ycells_len zero_recent
theorem yzero_one : ∀ u ∈ yzero, u.oneCell' = true := ycells_one
theorem size_ready : (Tryz.prog.info? 48).map (·.size) = some 48 := by kernel_rfl
theorem tzero_len11 : tzero.length = 40 := tcells_len (x := zTx) (s := zRaw) rfl
set_option maxRecDepth 100000 in
set_option maxHeartbeats 4000000 in
/-- settle: api.Tx -/
theorem settleTx11 (cs : List Value) (c : Int) (w : World) (hl : cs.length = 40) (h1 : ∀ u ∈ cs, u.oneCell' = true) :
    Calls Tryz.prog 52 #[.agg cs.toArray, .int .i64 c] w fun e w' => e = .returned (.tuple #[.agg (if c = 0 then cs else tzero).toArray, .int .i64 c]) ∧ Below w.heap.size w w' := by
  obtain ⟨W, HX, hb0, hr0, hr1⟩ : ∃ W, Hid (∀ z, z = tzero.toArray → (w.alloc (.cells cs.toArray 42)).alloc (.cells z 42) = W) ∧ Below w.heap.size w W ∧ Row W w.heap.size 42 cs ∧ Row W (w.heap.size + 1) 42 tzero := by
    refine ⟨_, Lib.hid fun z h => by rw [h], ((Below.refl w.heap.size w).alloc (Nat.le_refl _) _).alloc (by simp) _, (Row.new w 42 cs).alloc _, Row.new' (w.alloc (.cells cs.toArray 42)) 42 _ (by simp)⟩
  have HSZ := Lib.hid (show (Tryz.prog.info? 42).map (·.size) = some cs.length by rw [hl]; exact size_tx)
  have HSZ0 := Lib.hid (show (Tryz.prog.info? 42).map (·.size) = some tzero.length by rw [tzero_len11]; exact size_tx)
  have HL := Lib.hid (show tzero.length = cs.length by rw [hl]; exact tzero_len11)
  have H1 := Lib.hid h1
  have HB0 := Lib.hid hb0
  have HR0 := Lib.hid hr0
  have HR1 := Lib.hid hr1
  have HF := Lib.hid (fun w => failed11 c w)
  clear hl h1 hb0 hr0 hr1
  by_cases h0 : c = 0
  · subst h0
    rw [if_pos rfl]
    rw [show decide ((0 : Int) ≠ 0) = false from rfl] at HF
    go_enter Tryz.func52, Tryz.ntmps52
    go_upto_region 1 with fail
    rw [HX.out]
    rotate_left
    · kernel_rfl
    clear HX
    go_wp2_with (first
      | (go_at_call 40; refine (HF.out _).mono ?_; rintro e w' ⟨rfl, hw⟩; obtain rfl := hw.symm)
      | ((with_reducible show wpList _ _ _ ({ dst := some 11, op := Op.load _ _, type := _, pos := _, after := _, guard := _ } :: _) _ _); go_must (refine wpList_load_whole rfl 42 (.tmp 2) rfl w.heap.size 42 cs _ Tryz.underlying42 rfl HSZ.out HR0.out ?_ ?_; go_simp))
      | ((with_reducible show wpList _ _ _ ({ dst := none, op := Op.store 42 _ _, type := _, pos := _, after := _, guard := _ } :: _) _ _); go_must (refine wpList_store_whole rfl 42 (.tmp 4) (.tmp 11) rfl (w.heap.size + 1) tzero cs HR1.out HSZ.out HL.out H1.out ?_ ?_ ?_; go_simp; go_simp; intro w4 hr4 ht4; have R4 := Lib.hid hr4; have T4 := Lib.hid ht4; clear hr4 ht4)))
    refine bodyPost_ret (results_cell1 (h := rfl) _ w4 ⟨w.heap.size + 1, 0, none⟩ _ _ (by rfl) (by rfl) (run_loadVar_row w4 (w.heap.size + 1) 42 42 cs.toArray (0, 0) _ R4.out.is Tryz.underlying42 rfl (by rw [List.size_toArray]; exact HSZ.out))) rfl ?_
    exact ⟨rfl, HB0.out.trans (T4.out.below (by omega))⟩
  · rw [if_neg h0]
    rw [decide_eq_true h0] at HF
    clear h0
    go_enter Tryz.func52, Tryz.ntmps52
    go_upto_region 1 with fail
    rw [HX.out]
    rotate_left
    · kernel_rfl
    clear HX
    obtain ⟨W2, HX2, hb2, hr2⟩ : ∃ W2, Hid (∀ z, z = tzero.toArray → W.alloc (.cells z 42) = W2) ∧ Below W.heap.size W W2 ∧ Row W2 W.heap.size 42 tzero := by
      refine ⟨_, Lib.hid fun z h => by rw [h], (Below.refl W.heap.size W).alloc (Nat.le_refl _) _, Row.new W 42 _⟩
    have HR12 := Lib.hid (HR1.out.below hb2 HR1.out.lt)
    have HB2 := Lib.hid (HB0.out.trans (hb2.mono HB0.out.size))
    have HR2 := Lib.hid hr2
    clear hb2 hr2 HR1 HB0
    go_upto_region 3 with (go_at_call 40; refine (HF.out _).mono ?_; rintro e w' ⟨rfl, hw⟩; obtain rfl := hw.symm)
    rw [HX2.out]
    rotate_left
    · kernel_rfl
    clear HX2
    go_wp2_with (first
      | ((with_reducible show wpList _ _ _ ({ dst := some 9, op := Op.load _ _, type := _, pos := _, after := _, guard := _ } :: _) _ _); go_must (refine wpList_load_whole rfl 42 (.tmp 6) rfl W.heap.size 42 tzero _ Tryz.underlying42 rfl HSZ0.out HR2.out ?_ ?_; go_simp))
      | ((with_reducible show wpList _ _ _ ({ dst := none, op := Op.store 42 _ _, type := _, pos := _, after := _, guard := _ } :: _) _ _); go_must (refine wpList_store_whole rfl 42 (.tmp 4) (.tmp 9) rfl (w.heap.size + 1) tzero tzero HR12.out HSZ0.out rfl tzero_one ?_ ?_ ?_; go_simp; go_simp; intro w4 hr4 ht4; have R4 := Lib.hid hr4; have T4 := Lib.hid ht4; clear hr4 ht4)))
    refine bodyPost_ret (results_cell1 (h := rfl) _ w4 ⟨w.heap.size + 1, 0, none⟩ _ _ (by rfl) (by rfl) (run_loadVar_row w4 (w.heap.size + 1) 42 42 tzero.toArray (0, 0) _ R4.out.is Tryz.underlying42 rfl (by rw [List.size_toArray]; exact HSZ0.out))) rfl ?_
    exact ⟨rfl, HB2.out.trans (T4.out.below (by omega))⟩
set_option maxRecDepth 100000 in
set_option maxHeartbeats 4000000 in
/-- settle: api.Ready -/
theorem settleRd11 (cs : List Value) (c : Int) (w : World) (hl : cs.length = 48) (h1 : ∀ u ∈ cs, u.oneCell' = true) :
    Calls Tryz.prog 38 #[.agg cs.toArray, .int .i64 c] w fun e w' => e = .returned (.tuple #[.agg (if c = 0 then cs else yzero).toArray, .int .i64 c]) ∧ Below w.heap.size w w' := by
  obtain ⟨W, HX, hb0, hr0, hr1⟩ : ∃ W, Hid (∀ z, z = yzero.toArray → (w.alloc (.cells cs.toArray 48)).alloc (.cells z 48) = W) ∧ Below w.heap.size w W ∧ Row W w.heap.size 48 cs ∧ Row W (w.heap.size + 1) 48 yzero := by
    refine ⟨_, Lib.hid fun z h => by rw [h], ((Below.refl w.heap.size w).alloc (Nat.le_refl _) _).alloc (by simp) _, (Row.new w 48 cs).alloc _, Row.new' (w.alloc (.cells cs.toArray 48)) 48 _ (by simp)⟩
  have HSZ := Lib.hid (show (Tryz.prog.info? 48).map (·.size) = some cs.length by rw [hl]; exact size_ready)
  have HSZ0 := Lib.hid (show (Tryz.prog.info? 48).map (·.size) = some yzero.length by rw [yzero_len]; exact size_ready)
  have HL := Lib.hid (show yzero.length = cs.length by rw [hl]; exact yzero_len)
  have H1 := Lib.hid h1
  have HB0 := Lib.hid hb0
  have HR0 := Lib.hid hr0
  have HR1 := Lib.hid hr1
  have HF := Lib.hid (fun w => failed11 c w)
  clear hl h1 hb0 hr0 hr1
  by_cases h0 : c = 0
  · subst h0
    rw [if_pos rfl]
    rw [show decide ((0 : Int) ≠ 0) = false from rfl] at HF
    go_enter Tryz.func38, Tryz.ntmps38
    go_upto_region 1 with fail
    rw [HX.out]
    rotate_left
    · kernel_rfl
    clear HX
    go_wp2_with (first
      | (go_at_call 40; refine (HF.out _).mono ?_; rintro e w' ⟨rfl, hw⟩; obtain rfl := hw.symm)
      | ((with_reducible show wpList _ _ _ ({ dst := some 11, op := Op.load _ _, type := _, pos := _, after := _, guard := _ } :: _) _ _); go_must (refine wpList_load_whole rfl 48 (.tmp 2) rfl w.heap.size 48 cs _ Tryz.underlying48 rfl HSZ.out HR0.out ?_ ?_; go_simp))
      | ((with_reducible show wpList _ _ _ ({ dst := none, op := Op.store 48 _ _, type := _, pos := _, after := _, guard := _ } :: _) _ _); go_must (refine wpList_store_whole rfl 48 (.tmp 4) (.tmp 11) rfl (w.heap.size + 1) yzero cs HR1.out HSZ.out HL.out H1.out ?_ ?_ ?_; go_simp; go_simp; intro w4 hr4 ht4; have R4 := Lib.hid hr4; have T4 := Lib.hid ht4; clear hr4 ht4)))
    refine bodyPost_ret (results_cell1 (h := rfl) _ w4 ⟨w.heap.size + 1, 0, none⟩ _ _ (by rfl) (by rfl) (run_loadVar_row w4 (w.heap.size + 1) 48 48 cs.toArray (0, 0) _ R4.out.is Tryz.underlying48 rfl (by rw [List.size_toArray]; exact HSZ.out))) rfl ?_
    exact ⟨rfl, HB0.out.trans (T4.out.below (by omega))⟩
  · rw [if_neg h0]
    rw [decide_eq_true h0] at HF
    clear h0
    go_enter Tryz.func38, Tryz.ntmps38
    go_upto_region 1 with fail
    rw [HX.out]
    rotate_left
    · kernel_rfl
    clear HX
    obtain ⟨W2, HX2, hb2, hr2⟩ : ∃ W2, Hid (∀ z, z = yzero.toArray → W.alloc (.cells z 48) = W2) ∧ Below W.heap.size W W2 ∧ Row W2 W.heap.size 48 yzero := by
      refine ⟨_, Lib.hid fun z h => by rw [h], (Below.refl W.heap.size W).alloc (Nat.le_refl _) _, Row.new W 48 _⟩
    have HR12 := Lib.hid (HR1.out.below hb2 HR1.out.lt)
    have HB2 := Lib.hid (HB0.out.trans (hb2.mono HB0.out.size))
    have HR2 := Lib.hid hr2
    clear hb2 hr2 HR1 HB0
    go_upto_region 3 with (go_at_call 40; refine (HF.out _).mono ?_; rintro e w' ⟨rfl, hw⟩; obtain rfl := hw.symm)
    rw [HX2.out]
    rotate_left
    · kernel_rfl
    clear HX2
    go_wp2_with (first
      | ((with_reducible show wpList _ _ _ ({ dst := some 9, op := Op.load _ _, type := _, pos := _, after := _, guard := _ } :: _) _ _); go_must (refine wpList_load_whole rfl 48 (.tmp 6) rfl W.heap.size 48 yzero _ Tryz.underlying48 rfl HSZ0.out HR2.out ?_ ?_; go_simp))
      | ((with_reducible show wpList _ _ _ ({ dst := none, op := Op.store 48 _ _, type := _, pos := _, after := _, guard := _ } :: _) _ _); go_must (refine wpList_store_whole rfl 48 (.tmp 4) (.tmp 9) rfl (w.heap.size + 1) yzero yzero HR12.out HSZ0.out rfl yzero_one ?_ ?_ ?_; go_simp; go_simp; intro w4 hr4 ht4; have R4 := Lib.hid hr4; have T4 := Lib.hid ht4; clear hr4 ht4)))
    refine bodyPost_ret (results_cell1 (h := rfl) _ w4 ⟨w.heap.size + 1, 0, none⟩ _ _ (by rfl) (by rfl) (run_loadVar_row w4 (w.heap.size + 1) 48 48 yzero.toArray (0, 0) _ R4.out.is Tryz.underlying48 rfl (by rw [List.size_toArray]; exact HSZ0.out))) rfl ?_
    exact ⟨rfl, HB2.out.trans (T4.out.below (by omega))⟩
set_option maxRecDepth 100000 in
set_option maxHeartbeats 4000000 in
/-- what Wire defers -/
theorem endTx11 (g : Nat) (cs : List Value) (c x : Int) (u : FrameMode) (w : World) (hl : cs.length = 40) (h1 : ∀ u ∈ cs, u.oneCell' = true) (r0 : Row w g 42 cs) (r1 : Row w (g + 1) 49 [.int .i64 x]) (r2 : Row w (g + 2) 49 [.int .i64 c]) :
    CallsD Tryz.prog 51 #[.pointer (some ⟨g, 0, none⟩), .pointer (some ⟨g + 2, 0, none⟩), .pointer (some ⟨g + 1, 0, none⟩)] u w fun e u' w' =>
      u' = u ∧ (e = .returned (.tuple #[]) ∧ Row w' g 42 (if c = 0 then cs else tzero) ∧ Row w' (g + 1) 49 [.int .i64 c] ∧ Below g w w') ∧ w.heap.size ≤ w'.heap.size ∧ ∀ k, k < w.heap.size → k ≠ g → k ≠ g + 1 → w'.heap[k]? = w.heap[k]? := by
  have HSZ := Lib.hid (show (Tryz.prog.info? 42).map (·.size) = some cs.length by rw [hl]; exact size_tx)
  have HT := Lib.hid (settleTx11 cs c w hl h1)
  obtain ⟨ds, hds⟩ : ∃ ds, ds = (if c = 0 then cs else tzero) := ⟨_, rfl⟩
  rw [← hds] at HT ⊢
  have HDL := Lib.hid (show cs.length = ds.length by rw [hds]; split <;> first | rfl | (rw [hl]; exact tzero_len11.symm))
  have HDZ := Lib.hid (show (Tryz.prog.info? 42).map (·.size) = some ds.length by rw [← HDL.out]; exact HSZ.out)
  have HD1 := Lib.hid (show ∀ u ∈ ds, u.oneCell' = true by rw [hds]; split <;> first | exact h1 | exact tzero_one)
  have R0 := Lib.hid r0
  have R1 := Lib.hid r1
  have R2 := Lib.hid r2
  have c2 : w.cell? ⟨g + 2, 0, none⟩ = some (.int .i64 c) := r2.cell 0
  clear hl h1 r0 r1 r2 hds
  refine (callsD_of_wp (R := fun e w' => (e = .returned (.tuple #[]) ∧ Row w' g 42 ds ∧ Row w' (g + 1) 49 [.int .i64 c] ∧ Below g w w') ∧ w.heap.size ≤ w'.heap.size ∧ ∀ k, k < w.heap.size → k ≠ g → k ≠ g + 1 → w'.heap[k]? = w.heap[k]?) Tryz.func51 rfl ?_).mono fun e u' w' h => h
  simp only [Tryz.ntmps51, List.size_toArray, List.length_cons, List.length_nil, Nat.reduceAdd, Nat.reduceSub, Array.replicate_succ, Array.replicate_zero, List.push_toArray, List.append_toArray, List.nil_append, List.cons_append]
  go_wp2_with ((with_reducible show wpList _ _ _ ({ dst := some 4, op := Op.load _ _, type := _, pos := _, after := _, guard := _ } :: _) _ _); go_must (refine wpList_load_whole rfl 42 (.tmp 0) rfl g 42 cs _ Tryz.underlying42 rfl HSZ.out R0.out ?_ ?_; go_simp))
  refine HT.out.mono ?_
  rintro e w1 ⟨rfl, hb1⟩
  have R01 := Lib.hid (R0.out.below hb1 R0.out.lt)
  have R11 := Lib.hid (R1.out.below hb1 R1.out.lt)
  have B1 := Lib.hid hb1
  have HG := Lib.hid (show g ≤ w.heap.size from Nat.le_of_lt R0.out.lt)
  clear hb1 c2 HT R0 R1
  go_wp2_with ((with_reducible show wpList _ _ _ ({ dst := none, op := Op.store 42 _ _, type := _, pos := _, after := _, guard := _ } :: _) _ _); go_must (refine wpList_store_whole rfl 42 (.tmp 0) (.tmp 7) rfl g cs ds R01.out HDZ.out HDL.out HD1.out ?_ ?_ ?_; go_simp; go_simp; intro w4 hr4 ht4; have R4 := Lib.hid hr4; have T4 := Lib.hid ht4; have c1 : w4.cell? ⟨g + 1, 0, none⟩ = some (.int .i64 x) := (ht4.row R11.out (by omega)).cell 0; have f1 := (ht4.row R11.out (by omega)).frozen 0; clear hr4 ht4))
  have R14 := T4.out.row R11.out (show g + 1 ≠ g by omega)
  have ht5 := turned_setCell w4 ⟨g + 1, 0, none⟩ (.int .i64 c)
  refine bodyPost_end (results_none rfl _ _ _) rfl ?_
  refine ⟨⟨rfl, ?_, R14.set_ 0 _, ?_⟩, ?_, ?_⟩
  · exact ht5.row R4.out (show g ≠ g + 1 by omega)
  · exact ((B1.out.mono HG.out).trans (T4.out.below (Nat.le_refl _))).trans (ht5.below (show g ≤ g + 1 by omega))
  · rw [ht5.size, T4.out.size]
    exact B1.out.size
  · intro k h4 h2 h3
    exact (ht5.block k h3).trans ((T4.out.block k h2).trans (B1.out.block k h4))
set_option maxRecDepth 100000 in
set_option maxHeartbeats 4000000 in
/-- what Of defers -/
theorem endRd11 (g : Nat) (cs : List Value) (c x : Int) (u : FrameMode) (w : World) (hl : cs.length = 48) (h1 : ∀ u ∈ cs, u.oneCell' = true) (r0 : Row w g 48 cs) (r1 : Row w (g + 1) 49 [.int .i64 x]) (r2 : Row w (g + 2) 49 [.int .i64 c]) :
    CallsD Tryz.prog 37 #[.pointer (some ⟨g, 0, none⟩), .pointer (some ⟨g + 2, 0, none⟩), .pointer (some ⟨g + 1, 0, none⟩)] u w fun e u' w' =>
      u' = u ∧ (e = .returned (.tuple #[]) ∧ Row w' g 48 (if c = 0 then cs else yzero) ∧ Row w' (g + 1) 49 [.int .i64 c] ∧ Below g w w') ∧ w.heap.size ≤ w'.heap.size ∧ ∀ k, k < w.heap.size → k ≠ g → k ≠ g + 1 → w'.heap[k]? = w.heap[k]? := by
  have HSZ := Lib.hid (show (Tryz.prog.info? 48).map (·.size) = some cs.length by rw [hl]; exact size_ready)
  have HT := Lib.hid (settleRd11 cs c w hl h1)
  obtain ⟨ds, hds⟩ : ∃ ds, ds = (if c = 0 then cs else yzero) := ⟨_, rfl⟩
  rw [← hds] at HT ⊢
  have HDL := Lib.hid (show cs.length = ds.length by rw [hds]; split <;> first | rfl | (rw [hl]; exact yzero_len.symm))
  have HDZ := Lib.hid (show (Tryz.prog.info? 48).map (·.size) = some ds.length by rw [← HDL.out]; exact HSZ.out)
  have HD1 := Lib.hid (show ∀ u ∈ ds, u.oneCell' = true by rw [hds]; split <;> first | exact h1 | exact yzero_one)
  have R0 := Lib.hid r0
  have R1 := Lib.hid r1
  have R2 := Lib.hid r2
  have c2 : w.cell? ⟨g + 2, 0, none⟩ = some (.int .i64 c) := r2.cell 0
  clear hl h1 r0 r1 r2 hds
  refine (callsD_of_wp (R := fun e w' => (e = .returned (.tuple #[]) ∧ Row w' g 48 ds ∧ Row w' (g + 1) 49 [.int .i64 c] ∧ Below g w w') ∧ w.heap.size ≤ w'.heap.size ∧ ∀ k, k < w.heap.size → k ≠ g → k ≠ g + 1 → w'.heap[k]? = w.heap[k]?) Tryz.func37 rfl ?_).mono fun e u' w' h => h
  simp only [Tryz.ntmps37, List.size_toArray, List.length_cons, List.length_nil, Nat.reduceAdd, Nat.reduceSub, Array.replicate_succ, Array.replicate_zero, List.push_toArray, List.append_toArray, List.nil_append, List.cons_append]
  go_wp2_with ((with_reducible show wpList _ _ _ ({ dst := some 4, op := Op.load _ _, type := _, pos := _, after := _, guard := _ } :: _) _ _); go_must (refine wpList_load_whole rfl 48 (.tmp 0) rfl g 48 cs _ Tryz.underlying48 rfl HSZ.out R0.out ?_ ?_; go_simp))
  refine HT.out.mono ?_
  rintro e w1 ⟨rfl, hb1⟩
  have R01 := Lib.hid (R0.out.below hb1 R0.out.lt)
  have R11 := Lib.hid (R1.out.below hb1 R1.out.lt)
  have B1 := Lib.hid hb1
  have HG := Lib.hid (show g ≤ w.heap.size from Nat.le_of_lt R0.out.lt)
  clear hb1 c2 HT R0 R1
  go_wp2_with ((with_reducible show wpList _ _ _ ({ dst := none, op := Op.store 48 _ _, type := _, pos := _, after := _, guard := _ } :: _) _ _); go_must (refine wpList_store_whole rfl 48 (.tmp 0) (.tmp 7) rfl g cs ds R01.out HDZ.out HDL.out HD1.out ?_ ?_ ?_; go_simp; go_simp; intro w4 hr4 ht4; have R4 := Lib.hid hr4; have T4 := Lib.hid ht4; have c1 : w4.cell? ⟨g + 1, 0, none⟩ = some (.int .i64 x) := (ht4.row R11.out (by omega)).cell 0; have f1 := (ht4.row R11.out (by omega)).frozen 0; clear hr4 ht4))
  have R14 := T4.out.row R11.out (show g + 1 ≠ g by omega)
  have ht5 := turned_setCell w4 ⟨g + 1, 0, none⟩ (.int .i64 c)
  refine bodyPost_end (results_none rfl _ _ _) rfl ?_
  refine ⟨⟨rfl, ?_, R14.set_ 0 _, ?_⟩, ?_, ?_⟩
  · exact ht5.row R4.out (show g ≠ g + 1 by omega)
  · exact ((B1.out.mono HG.out).trans (T4.out.below (Nat.le_refl _))).trans (ht5.below (show g ≤ g + 1 by omega))
  · rw [ht5.size, T4.out.size]
    exact B1.out.size
  · intro k h4 h2 h3
    exact (ht5.block k h3).trans ((T4.out.block k h2).trans (B1.out.block k h4))
end Go.Proofs.YtdgbodljmdcagaaGreatDoor

/-
  Of part Got4: what is needed here.
-/
namespace Go.Proofs.YtdgbodljmdcagaaGreatDoor
open Go.RowKit
set_option linter.unusedVariables false
set_option maxRecDepth 100000
def gx (zs : List Int) : LTx := match pTx zs with
  | .ok (x, _) => x
  | .error _ => zTx
def gn (zs : List Int) : Int := match pTx zs with
  | .ok (_, r) => (zs.length : Int) - r.length
  | .error _ => 0
def gc (zs : List Int) : Int := match pTx zs with
  | .ok _ => 0
  | .error c => c
def wx (zs : List Int) : LTx := match wTx zs with
  | .ok x => x
  | .error _ => zTx
def wc (zs : List Int) : Int := match wTx zs with
  | .ok _ => 0
  | .error c => c
/-- a transaction of the call's own, or the zero one, and its cells -/
structure TxGot (w : World) (lo hi : Nat) (x : LTx) (cs : List Value) : Prop where
  le : lo ≤ hi
  short : x.m.ins.length ≤ 65535 ∧ x.m.looks.length ≤ 65535
  is : ∃ s, cs = TRaw.cells s x ∧ TxIn w hi s x ∧ ∃ S K I L iv lv, TxPages w lo hi s x S K I L iv lv
section
variable {w w' : World} {lo hi lo' hi' : Nat} {x : LTx} {cs cs' : List Value}
theorem TxGot.below (h : TxGot w lo hi x cs) (hb : Below hi w w') : TxGot w' lo hi x cs := by
  obtain ⟨s, h1, h2, S, K, I, L, iv, lv, h3⟩ := h.is
  exact ⟨h.le, h.short, s, h1, h2.below hb, S, K, I, L, iv, lv, h3.below hb⟩
theorem TxGot.drewN (h : TxGot w lo hi x cs) (n : Nat) : TxGot (w.drewN n) lo hi x cs := h.below (below_drewN (Below.refl _ _) n)
theorem TxGot.len (h : TxGot w lo hi x cs) : cs.length = 40 := by
  obtain ⟨s, rfl, h2, _⟩ := h.is
  exact tcells_len h2.m.recent
theorem TxGot.size (h : TxGot w lo hi x cs) : (Tryz.prog.info? 42).map (·.size) = some cs.length := by rw [h.len, size_tx]
theorem TxGot.one (h : TxGot w lo hi x cs) : ∀ u ∈ cs, u.oneCell' = true := by
  obtain ⟨s, rfl, _⟩ := h.is
  exact tcells_one
theorem TxV.got {s : TRaw} (h : TxV w lo hi s x) : TxGot w lo hi x (TRaw.cells s x) := by
  obtain ⟨mid, h1, h2, _, h4⟩ := h.is
  exact ⟨by omega, ⟨h4.short.2.1, h4.short.2.2⟩, s, rfl, h.in_, h.pages⟩
theorem got_zero (w : World) (lo hi : Nat) (h : lo ≤ hi) : TxGot w lo hi zTx tzero :=
  ⟨h, by simp [zTx], zRaw, rfl, zTx_in w hi, _, _, _, _, _, _, zPages w lo hi⟩
theorem flat_len2 (S K : Sl) (iv lv : Nat → Sl × Sl) (n m : Nat) : (txPages S K iv n lv m).length = 2 + 2 * n + 2 * m := by
  unfold txPages pagesOf
  simp only [List.length_append, List.length_cons, List.length_nil, flat_len]
  omega
/-- its pages, and that a book takes them -/
theorem TxGot.pages (h : TxGot w lo hi x cs) : ∃ ps : List (Sl × Kd), (∀ y ∈ ps, SlFit w y) ∧ (blocks ps).Pairwise (· < ·) ∧ (∀ g ∈ blocks ps, lo ≤ g ∧ g < hi) ∧ ps.length ≤ 262142 ∧
    ∀ (p base : Nat) (ks : List (Sl × Kd)) (w0 w1 : World), Below hi w w1 → Bk w0 p base ks w1 → hi ≤ base → hi ≤ p → ks.length ≤ 500000 →
      Calls Tryz.prog 21 #[.pointer (some ⟨p, 0, none⟩), .agg cs.toArray] w1 fun e w' => e = .returned (.tuple #[]) ∧ Bk w0 p base (ks ++ ps) w' := by
  obtain ⟨s, rfl, h2, S, K, I, L, iv, lv, h3⟩ := h.is
  have hs := h.short
  refine ⟨txPages S K iv I.n lv L.n, h3.fits, h3.rise, h3.low, by rw [flat_len2, h3.n.1, h3.n.2]; omega, fun p base ks w0 w1 hb hk h4 h5 h6 => ?_⟩
  exact bookTxV p base lo hi ks s x S K I L iv lv w0 w1 hk h2.m.recent (h3.below hb) h4 h5 (by omega)
end
theorem GetTxDone.one {w w' : World} {zs : List Int} {e : Ending} (h : GetTxDone w zs e w') :
    ∃ cs lo, e = .returned (.tuple #[.agg cs.toArray, .int .i64 (gn zs), .int .i64 (gc zs)]) ∧ w.heap.size ≤ lo ∧ TxGot w' lo w'.heap.size (gx zs) cs ∧ Below w.heap.size w w' := by
  rcases h with ⟨x, r, s, lo, hp, he, hlo, hv, hb⟩ | ⟨c, hp, he, hb⟩
  · refine ⟨TRaw.cells s x, lo, ?_, hlo, ?_, hb⟩
    · unfold gn gc
      rw [hp]
      exact he
    · unfold gx
      rw [hp]
      exact hv.got
  · refine ⟨tzero, w.heap.size, ?_, Nat.le_refl _, ?_, hb⟩
    · unfold gn gc
      rw [hp]
      exact he
    · unfold gx
      rw [hp]
      exact got_zero _ _ _ hb.size
theorem WholeDone.one {w w' : World} {zs : List Int} {e : Ending} (h : WholeDone w zs e w') :
    ∃ cs lo, e = .returned (.tuple #[.agg cs.toArray, .int .i64 (wc zs)]) ∧ w.heap.size ≤ lo ∧ TxGot w' lo w'.heap.size (wx zs) cs ∧ Below w.heap.size w w' := by
  rcases h with ⟨x, s, lo, hp, he, hlo, hv, hb⟩ | ⟨c, hp, he, hb⟩
  · refine ⟨TRaw.cells s x, lo, ?_, hlo, ?_, hb⟩
    · unfold wc
      rw [hp]
      exact he
    · unfold wx
      rw [hp]
      exact hv.got
  · refine ⟨tzero, w.heap.size, ?_, Nat.le_refl _, ?_, hb⟩
    · unfold wc
      rw [hp]
      exact he
    · unfold wx
      rw [hp]
      exact got_zero _ _ _ hb.size
end Go.Proofs.YtdgbodljmdcagaaGreatDoor

/-
  Of part TwinMsg: what is needed here.
-/
namespace Go.Proofs.YtdgbodljmdcagaaGreatDoor
open Go.RowKit
set_option linter.unusedVariables false
set_option maxRecDepth 100000
theorem LVR.imp {α : Type} {EV EV' : World → Nat → Nat → List Value → α → Prop} {e size : Nat} {w : World} {lo hi : Nat} {v : Value} {l : List α} (h : LVR EV e size w lo hi v l) (hi' : ∀ w lo hi cs x, EV w lo hi cs x → EV' w lo hi cs x) : LVR EV' e size w lo hi v l := by
  obtain ⟨w0, css, L, R, h1, h2⟩ := h
  exact ⟨w0, css, L, R, ⟨h1.own, h1.len, h1.rise, fun i cs x hx hy => by
    obtain ⟨a, b, c, d, e⟩ := h1.each i cs x hx hy
    exact ⟨a, b, c, hi' _ _ _ _ _ d, e⟩⟩, h2⟩
/-- a load of many cells yields them -/
theorem exec_load_at {P : Program} {a : Act} {o : Oper} (w : World) (ty : TypeId) (x : Operand) (ho : o.op = .load ty x) (p : Addr) (cs : List Value) (d : TypeDesc) (hu : P.underlying ty = some d) (hd : d.isRow = true) (hi : (P.info? ty).map (·.size) = some cs.length)
    (hc : ∀ j v, cs[j]? = some v → w.cell? (p.add j) = some v) (hx : a.eval x = .pointer (some p)) : (execOp a.eval o).run P w = .ok (.value (.agg cs.toArray)) w := by
  unfold execOp
  simp only [ho, hx, Sem.run_bind, Sem.run_pure, run_loadAt_at w p ty cs d hc hu hd hi, Result.andThen_ok]
theorem LookAt.keep {w w' : World} {B k : Nat} {a : Addr} {x : LLook} {va vd : Value} (h : LookAt w B a k x va vd) (ha : a.block < B) (hk : ∀ p : Addr, p.block < B → w'.cell? p = w.cell? p) : LookAt w' B a k x va vd :=
  ⟨fun j u hu => (hk _ (by rw [addr_block, addr_block]; exact ha)).trans (h.cells j u hu), h.len, h.wr.keep hk, h.rd.keep hk⟩
end Go.Proofs.YtdgbodljmdcagaaGreatDoor
