/-
  packets.Get.
-/
import Derived.Test.YtolijdbdpnbchaaTxMsg
namespace Go.Proofs.Ytolijdbdpnbchaa
open Go.RowKit
set_option linter.unusedVariables false

/-- a transaction of the call's own, in the blocks from lo to hi -/
structure TxV (w : World) (lo hi : Nat) (s : TRaw) (x : LTx) : Prop where
  short : x.sigs.length ≤ 65535
  is : ∃ mid, lo ≤ mid ∧ mid ≤ hi ∧ SigsV w lo mid (.slice s.SA s.sn s.sc) x.sigs ∧ MsgV w mid hi s.q x.m

theorem SigsV.stay {w w' : World} {lo hi : Nat} {v : Value} {l : List (List Int)} (h : SigsV w lo hi v l) (hk : ∀ k, lo ≤ k → k < hi → w'.heap[k]? = w.heap[k]?) : SigsV w' lo hi v l := by
  refine ⟨⟨h.own.1, ?_⟩, h.lt, h.each⟩
  rcases h.own.2 with h2 | ⟨g, cap, cur, hv, hg, hh, r⟩
  · exact .inl h2
  · exact .inr ⟨g, cap, cur, hv, hg, (hk g hg (h.lt g (by rw [hv]; rfl))).trans hh, r⟩
theorem SigsV.form {w : World} {lo hi : Nat} {v : Value} {l : List (List Int)} (h : SigsV w lo hi v l) : ∃ A c, v = .slice A l.length c := by
  rcases h.own.2 with ⟨rfl, h2⟩ | ⟨g, cap, cur, rfl, _⟩
  · exact ⟨_, _, by rw [h2]⟩
  · exact ⟨_, _, rfl⟩
theorem SigsV.in_ {w : World} {lo hi : Nat} {A : Option Addr} {n c : Nat} {l : List (List Int)} (h : SigsV w lo hi (.slice A n c) l) : SigsIn w hi A n l ∧ n ≤ c ∧ c ≤ maxLen := by
  obtain ⟨A', c', e⟩ := h.form
  cases e
  refine ⟨⟨rfl, h.each, ⟨by rw [bv_length, flat64_len l h.each], fun i u hu => ?_⟩⟩, own_caps h.own⟩
  obtain ⟨g, rfl, h1, h2, h3, h4⟩ := own_cell h.own hu
  exact ⟨_, rfl, h.lt g h1, by rw [addr_row, Nat.zero_add]; exact h4⟩
theorem TxV.in_ {w : World} {lo hi : Nat} {s : TRaw} {x : LTx} (h : TxV w lo hi s x) : TxIn w hi s x := by
  obtain ⟨mid, h1, h2, h3, h4⟩ := h.is
  obtain ⟨h5, h6⟩ := h3.in_
  exact ⟨h5.more h2, h6, h4.in_⟩
theorem TxV.stay {w w' : World} {lo hi : Nat} {s : TRaw} {x : LTx} (h : TxV w lo hi s x) (hz : w.heap.size ≤ w'.heap.size) (hk : ∀ k, lo ≤ k → k < hi → w'.heap[k]? = w.heap[k]?) : TxV w' lo hi s x := by
  obtain ⟨mid, h1, h2, h3, h4⟩ := h.is
  exact ⟨h.short, mid, h1, h2, h3.stay fun k a b => hk k a (by omega), h4.stay hz fun k a b => hk k (by omega) b⟩
theorem TxV.more {w : World} {lo hi hi' : Nat} {s : TRaw} {x : LTx} (h : TxV w lo hi s x) (hh : hi ≤ hi') : TxV w lo hi' s x := by
  obtain ⟨mid, h1, h2, h3, h4⟩ := h.is
  exact ⟨h.short, mid, h1, by omega, h3, h4.more hh⟩
theorem TxV.less {w : World} {lo lo' hi : Nat} {s : TRaw} {x : LTx} (h : TxV w lo hi s x) (hh : lo' ≤ lo) : TxV w lo' hi s x := by
  obtain ⟨mid, h1, h2, h3, h4⟩ := h.is
  exact ⟨h.short, mid, by omega, h2, ⟨own_base h3.own hh, h3.lt, h3.each⟩, h4⟩

/-- what Get leaves -/
def GetTxDone (w : World) (zs : List Int) (e : Ending) (w' : World) : Prop :=
  (∃ x r s lo, pTx zs = .ok (x, r) ∧ e = .returned (.tuple #[.agg (TRaw.cells s x).toArray, .int .i64 ((zs.length : Int) - r.length), .int .i64 0]) ∧ w.heap.size ≤ lo ∧ TxV w' lo w'.heap.size s x ∧ Below w.heap.size w w') ∨
  (∃ c, pTx zs = .error c ∧ e = .returned (.tuple #[.agg tzero.toArray, .int .i64 0, .int .i64 c]) ∧ Below w.heap.size w w')

theorem size_rd : (Try.prog.info? 79).map (·.size) = some 41 := by kernel_rfl
theorem rcells_len {sg rest : Value} {ms : List Value} (h : ms.length = 39) : (rcells sg ms rest).length = 41 := by simp [rcells, h]
theorem rcells_one {A B : Option Addr} {n c m d : Nat} {ms : List Value} (h : ∀ u ∈ ms, u.oneCell' = true) : ∀ u ∈ rcells (.slice A n c) ms (.slice B m d), u.oneCell' = true := by
  intro u hu
  simp only [rcells, List.mem_cons, List.mem_append, List.not_mem_nil, or_false] at hu
  rcases hu with rfl | hu | rfl
  · rfl
  · exact h u hu
  · rfl

section
variable {P : Program}
theorem results_cell2 {fn : Func} {p0 p1 p2 : Tmp} {t0 : TypeId} (h : fn.results = #[.cell p0 t0, .tmp p1, .tmp p2]) (tmps : Array Value) (w : World) (a0 : Addr) (v0 v1 v2 : Value)
    (h0 : tmps.getD p0 undef = .pointer (some a0)) (h1 : tmps.getD p1 undef = v1) (h2 : tmps.getD p2 undef = v2)
    (l0 : (loadVar t0 a0).run P w = .ok v0 w) :
    (results fn tmps).run P w = .ok (.tuple #[v0, v1, v2]) w := by
  have h0' : tmps[p0]?.getD undef = .pointer (some a0) := by simpa using h0
  have h1' : tmps[p1]?.getD undef = v1 := by simpa using h1
  have h2' : tmps[p2]?.getD undef = v2 := by simpa using h2
  simp [results, h, h0', h1', h2', asAddr, l0]
theorem results_cell1 {fn : Func} {p0 p1 : Tmp} {t0 : TypeId} (h : fn.results = #[.cell p0 t0, .tmp p1]) (tmps : Array Value) (w : World) (a0 : Addr) (v0 v1 : Value)
    (h0 : tmps.getD p0 undef = .pointer (some a0)) (h1 : tmps.getD p1 undef = v1)
    (l0 : (loadVar t0 a0).run P w = .ok v0 w) :
    (results fn tmps).run P w = .ok (.tuple #[v0, v1]) w := by
  have h0' : tmps[p0]?.getD undef = .pointer (some a0) := by simpa using h0
  have h1' : tmps[p1]?.getD undef = v1 := by simpa using h1
  simp [results, h, h0', h1', asAddr, l0]
end

set_option maxRecDepth 100000 in
set_option maxHeartbeats 2000000 in
theorem gettx_ (A : Option Addr) (n c B : Nat) (zs : List Int) (w : World) (hs : Sees w B A n (bv zs)) (hB : B ≤ w.heap.size) (hnc : n ≤ c) (hc : c ≤ maxLen) (hz : AllBytes zs) :
    Calls Try.prog 19 #[.slice A n c] w (GetTxDone w zs) := by
  have hn : zs.length = n := by have := hs.len; rwa [bv_length] at this
  subst hn
  have hmx := hc
  unfold maxLen at hmx
  have r0 := Row.new w 33 tzero
  have b0 : Below w.heap.size w (w.alloc (.cells tzero.toArray 33)) := (Below.refl _ _).alloc (Nat.le_refl _) _
  have z0 : (w.alloc (.cells tzero.toArray 33)).heap.size = w.heap.size + 1 := by simp
  have HS := Lib.hid (hs.below (b0.mono hB))
  have R0 := Lib.hid r0
  have B0 := Lib.hid b0
  have Z0 := Lib.hid z0
  have HC := Lib.hid (And.intro hnc hc)
  have HZ := Lib.hid hz
  clear hs r0 b0 z0 hz
  obtain ⟨W, hW⟩ : ∃ W, W = w.alloc (.cells tzero.toArray 33) := ⟨_, rfl⟩
  go_enter Try.func19, Try.ntmps19
  go_upto_region 1 with fail
  have hX : ∀ c, c = tzero.toArray → w.alloc (.cells c 33) = W := by rintro _ rfl; exact hW.symm
  rw [hX]
  rotate_left
  · kernel_rfl
  rw [← hW] at HS R0 B0 Z0
  clear hW hX
  go_upto_region 2 with (((with_reducible show wpList _ _ _ ({ dst := none, op := Op.store 79 _ _, type := _, pos := _, after := _, guard := _ } :: _) _ _); go_must (refine wpList_store_new rfl 79 (.tmp 5) (.tmp 7) rfl (rcells (.slice none 0 0) mzero (.slice A zs.length c)) (by rw [size_rd, rcells_len mzero_len]) (rcells_one mzero_one) rfl ?_ ?_ ?_; go_simp; (go_simp; kernel_rfl); intro w1 hr1 hb1 hz1; have R1 := Lib.hid hr1; have B1 := Lib.hid hb1; have Z1 := Lib.hid hz1; clear hr1 hb1 hz1)))
  have HR0 := Lib.hid (R0.out.below B1.out R0.out.lt)
  have HS1 := Lib.hid (HS.out.below (B1.out.mono (Nat.le_trans hB B0.out.size)))
  have HB1 := Lib.hid (B0.out.trans (B1.out.mono B0.out.size))
  have HSG := Lib.hid (signatures_ W.heap.size B zs w1 ⟨A, c, R1.out, HS1.out, HC.out.1, HC.out.2⟩ (Nat.le_trans hB B0.out.size) HZ.out)
  clear R0 B0 B1 HS
  go_wp2_with fail
  refine HSG.out.mono ?_
  rintro e w2 (⟨l, r, v, hp, rfl, hsv, hrd, hb⟩ | ⟨x, hp, rfl, hb⟩)
  rotate_left
  · have hx := err_sigs _ _ HZ.out hp
    have HP : Hid (pTx zs = .error x) := Lib.hid (by unfold pTx; rw [hp])
    have HR2 := Lib.hid (hb.row HR0.out (show w.heap.size ≠ W.heap.size by have := Z0.out; omega))
    have HB2 := Lib.hid (HB1.out.trans (hb.below (show w.heap.size ≤ W.heap.size by have := Z0.out; omega) HB1.out.size))
    clear hp hb HSG
    rcases hx with rfl | rfl
    all_goals
      go_wp2_with (((with_reducible show wpList _ _ _ ({ dst := none, op := Op.store 33 _ _, type := _, pos := _, after := _, guard := _ } :: _) _ _); go_must (refine wpList_store_whole rfl 33 (.tmp 2) (.tmp 11) rfl w.heap.size tzero tzero HR2.out size_tz rfl tzero_one ?_ ?_ ?_; go_simp; (go_simp; kernel_rfl); intro w3 hr3 ht3; have R3 := Lib.hid hr3; have T3 := Lib.hid ht3; clear hr3 ht3)))
      refine bodyPost_ret (results_cell2 (h := rfl) _ w3 ⟨w.heap.size, 0, none⟩ _ _ _ (by rfl) (by rfl) (by rfl) (run_loadVar_row w3 w.heap.size 33 33 tzero.toArray (0, 0) _ R3.out.is Try.underlying33 rfl (by rw [List.size_toArray]; exact size_tz))) rfl ?_
      exact .inr ⟨_, HP.out, rfl, HB2.out.trans (T3.out.below (Nat.le_refl _))⟩
  have hrb : AllBytes r := HZ.out.behind (got_sigs _ _ _ HZ.out hp).1
  have hll := (got_sigs _ _ _ HZ.out hp).2.1
  have HM := Lib.hid (txmsg_ W.heap.size B v r w2 hrd (Nat.le_trans hB (by have := Z0.out; omega)) hrb)
  have HSV := Lib.hid hsv
  have HPS := Lib.hid hp
  have HR2 := Lib.hid (hb.row HR0.out (show w.heap.size ≠ W.heap.size by have := Z0.out; omega))
  have HBU2 := Lib.hid hb
  have HLL := Lib.hid hll
  have HRB := Lib.hid hrb
  have HLE := Lib.hid (front_sigs _ _ _ hp).le
  clear hp hsv hrd hb hrb hll HSG HR0
  go_wp2_with fail
  refine HM.out.mono ?_
  rintro e w3 (⟨m, r', q, lo, hp, rfl, hlo, hv, hrd, hb⟩ | ⟨x, hp, rfl, hb⟩)
  rotate_left
  · have hx := pMsg_err HRB.out hp
    have HP : Hid (pTx zs = .error x) := Lib.hid (by unfold pTx; rw [HPS.out]; dsimp only; rw [hp])
    have HR3 := Lib.hid (hb.row HR2.out (show w.heap.size ≠ W.heap.size by have := Z0.out; omega))
    have HB3 := Lib.hid (HB1.out.trans ((HBU2.out.trans hb).below (show w.heap.size ≤ W.heap.size by have := Z0.out; omega) HB1.out.size))
    clear hp hb HM
    rcases hx with rfl | rfl
    all_goals
      go_wp2_with (((with_reducible show wpList _ _ _ ({ dst := none, op := Op.store 33 _ _, type := _, pos := _, after := _, guard := _ } :: _) _ _); go_must (refine wpList_store_whole rfl 33 (.tmp 2) (.tmp 16) rfl w.heap.size tzero tzero HR3.out size_tz rfl tzero_one ?_ ?_ ?_; go_simp; (go_simp; kernel_rfl); intro w4 hr4 ht4; have R4 := Lib.hid hr4; have T4 := Lib.hid ht4; clear hr4 ht4)))
      refine bodyPost_ret (results_cell2 (h := rfl) _ w4 ⟨w.heap.size, 0, none⟩ _ _ _ (by rfl) (by rfl) (by rfl) (run_loadVar_row w4 w.heap.size 33 33 tzero.toArray (0, 0) _ R4.out.is Try.underlying33 rfl (by rw [List.size_toArray]; exact size_tz))) rfl ?_
      exact .inr ⟨_, HP.out, rfl, HB3.out.trans (T4.out.below (Nat.le_refl _))⟩
  obtain ⟨A2, c2, hr3, hs3, hnc2, hmc2⟩ := hrd
  obtain ⟨SA, sc, rfl⟩ := HSV.out.form
  have hl39 := cells_len (q := q) hv.recent
  have HP : Hid (pTx zs = .ok (⟨l, m⟩, r')) := Lib.hid (by unfold pTx; rw [HPS.out]; dsimp only; rw [hp])
  have hle2 := (front_msg _ _ _ hp).le
  have hle1 := HLE.out
  have hwr : IntKind.i64.wrap ((zs.length : Int) - r'.length) = (zs.length : Int) - r'.length := by rw [IntKind.wrap_i64]; omega
  have hcs : rcells (.slice SA l.length sc) (q.cells m) (.slice A2 r'.length c2) = TRaw.cells ⟨SA, l.length, sc, q⟩ ⟨l, m⟩ ++ [.slice A2 r'.length c2] := rfl
  have htl : (TRaw.cells ⟨SA, l.length, sc, q⟩ ⟨l, m⟩).length = 40 := tcells_len hv.recent
  have HTX : Hid (TxV w3 w1.heap.size w3.heap.size ⟨SA, l.length, sc, q⟩ ⟨l, m⟩) := Lib.hid ⟨HLL.out, w2.heap.size, HBU2.out.size, hb.size, (HSV.out.stay fun k a b => hb.block k b (by have := Z1.out; omega)), (by obtain ⟨a1, b1, a2, b2, a3, b3, k1, k2⟩ := hv.is; exact ⟨hv.recent, hv.short, a1, b1, a2, b2, a3, b3, by omega, k2⟩)⟩
  have HW3 := Lib.hid (show w1.heap.size ≤ w3.heap.size from Nat.le_trans HBU2.out.size hb.size)
  have HR3 := Lib.hid (hb.row HR2.out (show w.heap.size ≠ W.heap.size by have := Z0.out; omega))
  have HB3 := Lib.hid (HB1.out.trans ((HBU2.out.trans hb).below (show w.heap.size ≤ W.heap.size by have := Z0.out; omega) HB1.out.size))
  obtain ⟨cs, hcs2⟩ : ∃ cs, cs = TRaw.cells ⟨SA, l.length, sc, q⟩ ⟨l, m⟩ := ⟨_, rfl⟩
  have HCO : Hid (∀ u ∈ cs, u.oneCell' = true) := Lib.hid (by rw [hcs2]; exact tcells_one)
  have HCS := Lib.hid hcs2
  rw [← hcs2] at hcs htl
  rw [hcs] at hr3
  have HSZ := Lib.hid (show (Try.prog.info? 33).map (·.size) = some cs.length by rw [size_tx, htl])
  have HTL := Lib.hid htl
  have HRD := Lib.hid hr3
  clear hcs2 hcs htl hr3 hs3 hv hp hb HM HSV HPS HR2
  go_upto_region 8 with fail
  obtain ⟨V, hV⟩ : ∃ V, V = w3.drew := ⟨_, rfl⟩
  have HRV : Hid (Row V W.heap.size 79 (cs ++ [.slice A2 r'.length c2])) := Lib.hid (by rw [hV]; exact HRD.out.drew)
  have HR0V : Hid (Row V w.heap.size 33 tzero) := Lib.hid (by rw [hV]; exact HR3.out.drew)
  have HTV : Hid (TxV V w1.heap.size V.heap.size ⟨SA, l.length, sc, q⟩ ⟨l, m⟩) := Lib.hid (by rw [hV]; exact HTX.out.stay (Nat.le_refl _) fun _ _ _ => rfl)
  have HBV : Hid (Below w.heap.size w V) := Lib.hid (by rw [hV]; exact HB3.out.drew)
  have HS : Hid (V.rangeAt W.heap.size 0 cs ∧ V.cell? ⟨W.heap.size, 40, none⟩ = some (.slice A2 r'.length c2)) := Lib.hid ⟨fun j u hu => by rw [HRV.out.cell, Nat.zero_add, List.getElem?_append_left (List.getElem?_eq_some_iff.1 hu).1]; exact hu, by rw [HRV.out.cell, List.getElem?_append_right (by rw [HTL.out]; omega), HTL.out]; rfl⟩
  refine wp_region_held_drew (S := fun V => V.rangeAt W.heap.size 0 cs ∧ V.cell? ⟨W.heap.size, 40, none⟩ = some (.slice A2 r'.length c2)) (by kernel_rfl) (by rw [← hV]; exact HS.out) (fun _ => ?_)
  rw [← hV]
  clear hV HRD HR3 HTX HB3
  refine takeL (i := 0) (v := ?_) rfl (by kernel_rfl) (by kernel_rfl) (by kernel_rfl) (fun _ _ _ h => h) (Or.inl ⟨by rfl, ?_⟩) HS.out ?_
  rotate_left
  · intro w hw
    try dsimp only at hw
    go_simp
    try with_reducible rfl
  try simp only [Act.put, List.setIfInBounds_toArray, List.set_cons_zero, List.set_cons_succ]
  refine takeL (i := 1) (v := .agg cs.toArray) rfl (by kernel_rfl) (by kernel_rfl) (by kernel_rfl) (fun _ _ _ h => h) (yieldsIf_load_mid (by rfl) 33 (.tmp 18) rfl W.heap.size 0 (by go_simp) cs _ (fun w hw => hw.1) Try.underlying33 rfl HSZ.out) HS.out ?_
  try simp only [Act.put, List.setIfInBounds_toArray, List.set_cons_zero, List.set_cons_succ]
  refine takeL (i := 2) (v := ?_) rfl (by kernel_rfl) (by kernel_rfl) (by kernel_rfl) (fun _ _ _ h => h) (Or.inl ⟨by rfl, ?_⟩) HS.out ?_
  rotate_left
  · intro w hw
    try dsimp only at hw
    go_simp
    try with_reducible rfl
  try simp only [Act.put, List.setIfInBounds_toArray, List.set_cons_zero, List.set_cons_succ]
  refine takeL (i := 3) (v := ?_) rfl (by kernel_rfl) (by kernel_rfl) (by kernel_rfl) (fun _ _ _ h => h) (Or.inl ⟨by rfl, ?_⟩) HS.out ?_
  rotate_left
  · intro w hw
    try dsimp only at hw
    go_simp
    try with_reducible rfl
  try simp only [Act.put, List.setIfInBounds_toArray, List.set_cons_zero, List.set_cons_succ]
  refine takeL (i := 4) (v := ?_) rfl (by kernel_rfl) (by kernel_rfl) (by kernel_rfl) (fun _ _ _ h => h) (Or.inl ⟨by rfl, ?_⟩) HS.out ?_
  rotate_left
  · intro w hw
    try dsimp only at hw
    go_simp
    try with_reducible rfl
  try simp only [Act.put, List.setIfInBounds_toArray, List.set_cons_zero, List.set_cons_succ]
  refine takeL (i := 5) (v := ?_) rfl (by kernel_rfl) (by kernel_rfl) (by kernel_rfl) (fun _ _ _ h => h) (Or.inl ⟨by rfl, ?_⟩) HS.out ?_
  rotate_left
  · intro w hw
    try dsimp only at hw
    obtain ⟨_, hw⟩ := hw
    go_simp
    try with_reducible rfl
  try simp only [Act.put, List.setIfInBounds_toArray, List.set_cons_zero, List.set_cons_succ]
  refine takeL (i := 6) (v := ?_) rfl (by kernel_rfl) (by kernel_rfl) (by kernel_rfl) (fun _ _ _ h => h) (Or.inl ⟨by rfl, ?_⟩) HS.out ?_
  rotate_left
  · intro w hw
    try dsimp only at hw
    go_simp
    try with_reducible rfl
  try simp only [Act.put, List.setIfInBounds_toArray, List.set_cons_zero, List.set_cons_succ]
  refine takeL (i := 7) (v := ?_) rfl (by kernel_rfl) (by kernel_rfl) (by kernel_rfl) (fun _ _ _ h => h) (Or.inl ⟨by rfl, ?_⟩) HS.out ?_
  rotate_left
  · intro w hw
    try dsimp only at hw
    go_simp
    try with_reducible rfl
  try simp only [Act.put, List.setIfInBounds_toArray, List.set_cons_zero, List.set_cons_succ]
  refine readyL (i := 8) rfl (by kernel_rfl) (by kernel_rfl) fun K hK => ?_
  refine wp_store_whole 33 (.tmp 2) (.tmp 19) rfl w.heap.size tzero cs HR0V.out HSZ.out (by rw [HTL.out]; rfl) HCO.out ?_ ?_ ?_
  · go_simp
  · go_simp
  intro V2 hr2 ht2
  have HR2 := Lib.hid hr2
  have HT2 := Lib.hid ht2
  have hrd2 := ht2.row HRV.out (show W.heap.size ≠ w.heap.size by have := Z0.out; omega)
  have HS2 : Hid (V2.rangeAt W.heap.size 0 cs ∧ V2.cell? ⟨W.heap.size, 40, none⟩ = some (.slice A2 r'.length c2)) := Lib.hid ⟨fun j u hu => by rw [hrd2.cell, Nat.zero_add, List.getElem?_append_left (List.getElem?_eq_some_iff.1 hu).1]; exact hu, by rw [hrd2.cell, List.getElem?_append_right (by rw [HTL.out]; omega), HTL.out]; rfl⟩
  clear hr2 ht2 hrd2
  refine hK.out _ _ HS2.out ?_
  clear hK K
  try simp only [Act.put, List.setIfInBounds_toArray, List.set_cons_zero, List.set_cons_succ]
  refine takeL (i := 9) (v := ?_) rfl (by kernel_rfl) (by kernel_rfl) (by kernel_rfl) (fun _ _ _ h => h) (Or.inl ⟨by rfl, ?_⟩) HS2.out ?_
  rotate_left
  · intro w hw
    try dsimp only at hw
    go_simp
    try with_reducible rfl
  try simp only [Act.put, List.setIfInBounds_toArray, List.set_cons_zero, List.set_cons_succ]
  refine takeL (i := 10) (v := ?_) rfl (by kernel_rfl) (by kernel_rfl) (by kernel_rfl) (fun _ _ _ h => h) (Or.inl ⟨by rfl, ?_⟩) HS2.out ?_
  rotate_left
  · intro w hw
    try dsimp only at hw
    go_simp
    try with_reducible rfl
  try simp only [Act.put, List.setIfInBounds_toArray, List.set_cons_zero, List.set_cons_succ]
  refine wpAnyH_done (by kernel_rfl) ?_ _
  go_wp2_with fail
  refine bodyPost_ret (results_cell2 (h := rfl) _ V2 ⟨w.heap.size, 0, none⟩ _ _ _ (by rfl) (by rfl) (by rfl) (run_loadVar_row V2 w.heap.size 33 33 cs.toArray (0, 0) _ HR2.out.is Try.underlying33 rfl (by rw [List.size_toArray]; exact HSZ.out))) rfl ?_
  refine .inl ⟨⟨l, m⟩, r', ⟨SA, l.length, sc, q⟩, w1.heap.size, HP.out, by rw [HCS.out]; rfl, ?_, ?_, ?_⟩
  · exact HB1.out.size
  · refine (HTV.out.stay (w' := V2) (by rw [HT2.out.size]; exact Nat.le_refl _) fun k a b => HT2.out.block k ?_).more (by rw [HT2.out.size]; exact Nat.le_refl _)
    have := Z0.out
    have := Z1.out
    omega
  · exact HBV.out.trans (HT2.out.below (Nat.le_refl _))
end Go.Proofs.Ytolijdbdpnbchaa
