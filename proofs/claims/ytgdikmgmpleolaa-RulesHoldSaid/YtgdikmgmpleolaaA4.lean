/-
  Parts joined: TwinTx LeftTx Great OpenMsg OpenTx Rules.
-/
import Derived.Below
import Derived.Laws.OwnMore
import Derived.Deep.AppendLies
import Derived.Deep.Draws
import Derived.Lib.Hide
import Derived.Laws.MakeOwn
import Derived.Laws.CopyOwn
import Derived.Laws.Rows
import Derived.Maps.AppendAt
import Derived.OwnWalk
import Derived.Laws.BitsAllLaws
import Derived.WalkKit
import Derived.Test.YtgdikmgmpleolaaRows
import Derived.WalkSpells
import Derived.WalkLawsBesides
import Derived.IntWalk
import Derived.Deep.MidRow
import Derived.Deep.WholeRow
import Derived.Great.BuildSlice
import Derived.Recover
import Derived.Deep.RegionHeld
import Derived.Deep.QuietTactic
import Derived.BigQuiet
import Derived.ChangeKeysEq
import Derived.Deep.RegionHeld2
import Derived.Deep.CutBlock
import Derived.Laws.Tables
import Derived.ProofKit
import Derived.OpenShut
import Derived.ShutString
import Derived.ChangeOld
import Derived.Lib.SmallJoins
import Derived.Laws.Slices
import Derived.Deep.DeepCutAuto
import Derived.Deep.Slices
import Derived.Deep.Strs
import Derived.SizedLaws
import Derived.Test.YtgdikmgmpleolaaA1
import Derived.Test.YtgdikmgmpleolaaA2
import Derived.Test.YtgdikmgmpleolaaA3
/-
  Of part TwinTx: what is needed here.
-/
namespace Go.Proofs.Ytgdikmgmpleolaa
open Go.RowKit
set_option linter.unusedVariables false
theorem built_tx3 (m : List Value) (h : m.length = 39) (A : Option Addr) (n c : Nat) : Try.prog.built 33 [(0, .slice A n c), (1, .agg m.toArray)] = some (.slice A n c :: m).toArray := by
  obtain ⟨f, rfl⟩ : ∃ f : Fin 39 → Value, m = List.ofFn f := ⟨fun i => m.getD i undef, by
    refine List.ext_getElem (by simpa using h) fun i h1 h2 => ?_
    rw [List.getElem_ofFn, List.getD_eq_getElem?_getD, List.getElem?_eq_getElem h1]
    rfl⟩
  kernel_rfl
theorem whole_part {xs cs : List Value} (hx : xs.length = 40) (hc : cs.length = 40) : xs.take 0 ++ cs ++ xs.drop (0 + cs.length) = cs := by
  rw [List.drop_of_length_le (by omega)]
  simp
/-- a transaction's twin -/
structure TwTx (w : World) (s : TRaw) (x : LTx) : Prop where
  tx : TxIn w w.heap.size s x
  sig : ∃ g, s.SA = some ⟨g, 0, none⟩ ∧ s.sc = s.sn + 3 ∧ Row w g 49 (bv x.sigs.flatten ++ keyRow 3 mk64)
  m : TwIn w s.q x.m
theorem TwTx.below {w w' : World} {s : TRaw} {x : LTx} (h : TwTx w s x) (hb : Below w.heap.size w w') : TwTx w' s x := by
  obtain ⟨g, h1, h2, h3⟩ := h.sig
  exact ⟨(h.tx.below hb).more hb.size, ⟨g, h1, h2, h3.below hb h3.lt⟩, h.m.below hb⟩
/-- what TwinMessage leaves, also when blocks below have changed since -/
theorem TwinDone.late {w w' : World} {q : Raw} {m : LMsg} {e : Ending} (h : TwinDone w q m e w') (h32 : m.recent.length = 32) (hs : m.keys.length ≤ 65535 ∧ m.ins.length ≤ 65535 ∧ m.looks.length ≤ 65535) :
    ∃ q' gk, e = .returned (.agg (q'.cells m).toArray) ∧ w.heap.size ≤ gk ∧ gk < w'.heap.size ∧ Below w.heap.size w w' ∧ ∀ w'' : World, w'.heap.size ≤ w''.heap.size → (∀ k, gk ≤ k → k < w'.heap.size → w''.heap[k]? = w'.heap[k]?) → MsgV w'' gk w''.heap.size q' m ∧ TwIn w'' q' m := by
  obtain ⟨gk, q', a1, b1, b2, rfl, e1, e2, e3, h1, h2, hr, h3, h4, h5, hk, hi, hl, hb⟩ := h
  refine ⟨q', gk, rfl, h1, hr.lt, hb, fun w'' hz hq => ?_⟩
  have hk' := hk.stay hz fun k a b => hq k a (by omega)
  have hi' := hi.stay hz fun k a b => hq k (by omega) (by omega)
  have hl' := hl.stay hz fun k a b => hq k (by omega) (by omega)
  have hv : MsgV w'' gk w''.heap.size q' m := ⟨h32, hs, gk, a1, a1, b1, b1, b2, by omega, hk', hi'.imp fun _ _ _ _ _ h => h.inV, hl'.imp fun _ _ _ _ _ h => h.lookV⟩
  exact ⟨hv, hv.in_, ⟨gk, e1, by rw [e3, e2], ⟨(hq gk (Nat.le_refl _) hr.lt).trans hr.is⟩⟩, hi'.insT (by omega), hl'.looksT (by omega)⟩
/-- what TwinTx leaves -/
def TwinTxDone (w : World) (x : LTx) (e : Ending) (w' : World) : Prop :=
  ∃ s lo, e = .returned (.agg (TRaw.cells s x).toArray) ∧ w.heap.size ≤ lo ∧ TxV w' lo w'.heap.size s x ∧ TwTx w' s x ∧ Below w.heap.size w w'
/-- signatures in a row of the call's own -/
theorem sigs_own {w : World} {g n lo hi : Nat} {l : List (List Int)} (hr : Row w g 49 (bv l.flatten ++ keyRow 3 mk64)) (hn : l.length = n) (h64 : ∀ k ∈ l, k.length = 64) (hlo : lo ≤ g) (hhi : g < hi) (hm : n + 3 ≤ maxLen) :
    SigsV w lo hi (.slice (some ⟨g, 0, none⟩) n (n + 3)) l := by
  have hf : (bv l.flatten).length = n * 64 := by rw [bv_length, flat64_len l h64, hn]
  have hk := sigRow_len 3 mk64_len
  refine ⟨?_, fun g' hg' => ?_, h64⟩
  · rw [hn]
    refine ⟨hf, .inr ⟨g, n + 3, _, rfl, hlo, hr.is, by omega, hm, ?_, ?_⟩⟩
    · rw [List.size_toArray, List.length_append, hf, hk, Nat.add_mul]
    · simp only []
      rw [List.take_left' hf]
  · cases hg'
    exact hhi
set_option maxRecDepth 100000 in
set_option maxHeartbeats 2000000 in
theorem twinTx (s : TRaw) (x : LTx) (B : Nat) (w : World) (hm : TxIn w B s x) (hB : B ≤ w.heap.size) (hsg : x.sigs.length ≤ 65535)
    (hk : x.m.keys.length ≤ 65535 ∧ x.m.ins.length ≤ 65535 ∧ x.m.looks.length ≤ 65535) (hix : ∀ i ∈ x.m.ins, i.acc.length ≤ 65535 ∧ i.dat.length ≤ 65535) (hlx : ∀ l ∈ x.m.looks, l.wr.length ≤ 65535 ∧ l.rd.length ≤ 65535) :
    Calls Try.prog 9 #[.agg (s.cells x).toArray] w (TwinTxDone w x) := by
  obtain ⟨SA, sn, sc, q⟩ := s
  have hsl := hm.sigs.len
  dsimp only at hsl
  have hrow := Row.new w 33 (TRaw.cells ⟨SA, sn, sc, q⟩ x)
  have hb0 := (Below.refl w.heap.size w).alloc (Nat.le_refl _) (.cells (TRaw.cells ⟨SA, sn, sc, q⟩ x).toArray 33)
  have H32 := Lib.hid hm.m.recent
  have HCM := Lib.hid (tcells_m (s := ⟨SA, sn, sc, q⟩) (x := x))
  have hc0 : (TRaw.cells ⟨SA, sn, sc, q⟩ x)[0]? = some (.slice SA sn sc) := rfl
  dsimp only at HCM
  generalize TRaw.cells ⟨SA, sn, sc, q⟩ x = cs at *
  obtain ⟨W0, hW0⟩ : ∃ W0, W0 = w.alloc (.cells cs.toArray 33) := ⟨_, rfl⟩
  have hz0 : W0.heap.size = w.heap.size + 1 := by rw [hW0]; simp
  rw [← hW0] at hrow hb0
  obtain ⟨W, hW⟩ : ∃ W, W = W0.alloc (.cells tzero.toArray 33) := ⟨_, rfl⟩
  have rz : Row W (w.heap.size + 1) 33 tzero := by rw [hW, ← hz0]; exact Row.new _ _ _
  have r0 : Row W w.heap.size 33 cs := by rw [hW]; exact hrow.alloc _
  have b0 : Below w.heap.size w W := by rw [hW]; exact hb0.alloc (by omega) _
  have hz : W.heap.size = w.heap.size + 2 := by rw [hW]; simp [hz0]
  have hm0 := hm.below (b0.mono hB)
  have HSM := Lib.hid (show (Try.prog.info? 31).map (·.size) = some (q.cells x.m).length by rw [size_msg, cells_len hm.m.recent])
  obtain ⟨C, hC⟩ : ∃ C, C = (bv mk64).toArray := ⟨_, rfl⟩
  have HMK : Hid (∀ w : World, Calls Try.prog 18 #[] w fun e w' => e = .returned (.agg C) ∧ Below w.heap.size w w') := Lib.hid (by rw [hC]; exact markSig)
  have HTS : Hid (∀ w' : World, SigsIn w' B SA sn x.sigs → B ≤ w'.heap.size → Calls Try.prog 17 #[.slice SA sn sc, .agg C] w' fun e w'' => ∃ g, e = .returned (.slice (some ⟨g, 0, none⟩) sn (sn + 3)) ∧ w'.heap.size ≤ g ∧ Row w'' g 49 (bv x.sigs.flatten ++ keyRow 3 mk64) ∧ Below w'.heap.size w' w'') := Lib.hid (by rw [hC]; exact fun w' h h' => twinS SA sn sc x.sigs mk64 w' B h h' (by omega) mk64_len)
  have HTM : Hid (∀ w' : World, MsgIn w' B q x.m → B ≤ w'.heap.size → Calls Try.prog 19 #[.agg (q.cells x.m).toArray] w' (TwinDone w' q x.m)) := Lib.hid fun w' h h' => twinMessage q x.m B w' h h' hk.1 hk.2.1 hk.2.2 hix hlx
  have R0 := Lib.hid r0
  have RZ := Lib.hid rz
  have B0 := Lib.hid b0
  have HZ := Lib.hid hz
  have HM0 := Lib.hid hm0
  have HK := Lib.hid hk
  have HSL := Lib.hid (And.intro hsl hsg)
  have HC0 := Lib.hid hc0
  clear r0 rz b0 hz hm0 hm hrow hb0 hC hk hix hlx hsl hsg hc0
  go_enter Try.func9, Try.ntmps9
  go_upto_region 1 with fail
  rw [← hW0]
  have hX : ∀ c, c = tzero.toArray → W0.alloc (.cells c 33) = W := by rintro _ rfl; exact hW.symm
  rw [hX]
  rotate_left
  · kernel_rfl
  clear hX hW hW0 hz0
  obtain ⟨V, hV⟩ : ∃ V, V = W.drew := ⟨_, rfl⟩
  have RV : Hid (Row V w.heap.size 33 cs) := Lib.hid (by rw [hV]; exact R0.out.drew)
  have ZV : Hid (Row V (w.heap.size + 1) 33 tzero) := Lib.hid (by rw [hV]; exact RZ.out.drew)
  have BV : Hid (Below w.heap.size w V) := Lib.hid (by rw [hV]; exact B0.out.drew)
  have MV : Hid (TxIn V B ⟨SA, sn, sc, q⟩ x) := Lib.hid (by rw [hV]; exact HM0.out.keep fun p hp => rfl)
  have SV : Hid (V.heap.size = w.heap.size + 2) := Lib.hid (by rw [hV]; exact HZ.out)
  have HSS : Hid (∀ V' : World, Row V' w.heap.size 33 cs → V'.cell? ⟨w.heap.size, 0, none⟩ = some (.slice SA sn sc) ∧ V'.rangeAt w.heap.size 1 (q.cells x.m)) := Lib.hid fun V' h => ⟨(h.cell 0).trans HC0.out, fun j u hu => by rw [h.cell, HCM.out]; exact hu⟩
  have HS := Lib.hid (HSS.out V RV.out)
  refine wp_region_held_drew (S := fun V => V.cell? ⟨w.heap.size, 0, none⟩ = some (.slice SA sn sc) ∧ V.rangeAt w.heap.size 1 (q.cells x.m)) (by kernel_rfl) (by rw [← hV]; exact HS.out) (fun _ => ?_)
  rw [← hV]
  clear hV HM0 R0 RZ B0 HZ
  refine takeL (i := 0) (v := ?_) rfl (by kernel_rfl) (by kernel_rfl) (by kernel_rfl) (fun _ _ _ h => h) (Or.inl ⟨by rfl, ?_⟩) HS.out ?_
  rotate_left
  · intro w hw
    try dsimp only at hw
    go_simp
    try with_reducible rfl
  try simp only [Act.put, List.setIfInBounds_toArray, List.set_cons_zero, List.set_cons_succ]
  refine takeL (i := 1) (v := ?_) rfl (by kernel_rfl) (by kernel_rfl) (by kernel_rfl) (fun _ _ _ h => h) (Or.inl ⟨by rfl, ?_⟩) HS.out ?_
  rotate_left
  · intro w hw
    try dsimp only at hw
    obtain ⟨q0, q1⟩ := hw
    go_simp
    try with_reducible rfl
  try simp only [Act.put, List.setIfInBounds_toArray, List.set_cons_zero, List.set_cons_succ]
  refine takeL (i := 4) (v := ?_) rfl (by kernel_rfl) (by kernel_rfl) (by kernel_rfl) (fun _ _ _ h => h) (Or.inl ⟨by rfl, ?_⟩) HS.out ?_
  rotate_left
  · intro w hw
    try dsimp only at hw
    go_simp
    try with_reducible rfl
  try simp only [Act.put, List.setIfInBounds_toArray, List.set_cons_zero, List.set_cons_succ]
  refine takeL (i := 5) (v := .agg (q.cells x.m).toArray) rfl (by kernel_rfl) (by kernel_rfl) (by kernel_rfl) (fun _ _ _ h => h) (yieldsIf_load_mid (by kernel_rfl) 31 (.tmp 7) rfl w.heap.size 1 (by go_simp) (q.cells x.m) _ (fun w hw => hw.2) Try.underlying31 rfl HSM.out) HS.out ?_
  try simp only [Act.put, List.setIfInBounds_toArray, List.set_cons_zero, List.set_cons_succ]
  refine readyL (i := 2) rfl (by kernel_rfl) (by kernel_rfl) fun K hK => ?_
  go_simp
  refine (HMK.out V).mono ?_
  rintro e w1 ⟨rfl, hb1⟩
  simp only []
  have R1 := Lib.hid (RV.out.below hb1 RV.out.lt)
  have Z1 := Lib.hid (ZV.out.below hb1 ZV.out.lt)
  have B1 := Lib.hid (BV.out.trans (hb1.mono BV.out.size))
  have M1 := Lib.hid (MV.out.below (hb1.mono (Nat.le_trans hB BV.out.size)))
  have S1 := Lib.hid (show w.heap.size + 2 ≤ w1.heap.size by have := SV.out; have := hb1.size; omega)
  have HS1 := Lib.hid (HSS.out w1 R1.out)
  clear hb1 RV ZV BV MV SV
  refine hK.out _ _ HS1.out ?_
  clear hK K
  try simp only [Act.put, List.setIfInBounds_toArray, List.set_cons_zero, List.set_cons_succ]
  refine readyL (i := 3) rfl (by kernel_rfl) (by kernel_rfl) fun K hK => ?_
  go_simp
  refine (HTS.out w1 M1.out.sigs (Nat.le_trans hB B1.out.size)).mono ?_
  rintro e w2 ⟨gs, rfl, hgs, hrs, hb2⟩
  simp only []
  have R2 := Lib.hid (R1.out.below hb2 R1.out.lt)
  have Z2 := Lib.hid (Z1.out.below hb2 Z1.out.lt)
  have B2 := Lib.hid (B1.out.trans (hb2.mono B1.out.size))
  have M2 := Lib.hid (M1.out.below (hb2.mono (Nat.le_trans hB B1.out.size)))
  have G2 := Lib.hid hrs
  have S2 := Lib.hid (show w.heap.size + 2 ≤ gs ∧ gs < w2.heap.size by have := S1.out; have := hrs.lt; omega)
  have HS2 := Lib.hid (HSS.out w2 R2.out)
  clear hb2 hrs hgs R1 Z1 B1 M1 S1
  refine hK.out _ _ HS2.out ?_
  clear hK K
  try simp only [Act.put, List.setIfInBounds_toArray, List.set_cons_zero, List.set_cons_succ]
  refine readyL (i := 6) rfl (by kernel_rfl) (by kernel_rfl) fun K hK => ?_
  go_simp
  refine (HTM.out w2 M2.out.m (Nat.le_trans hB B2.out.size)).mono ?_
  rintro e w3 hd
  obtain ⟨q', gk, rfl, hgk, hgk2, hb3, hlate⟩ := hd.late H32.out HK.out
  simp only []
  have R3 := Lib.hid (R2.out.below hb3 R2.out.lt)
  have Z3 := Lib.hid (Z2.out.below hb3 Z2.out.lt)
  have B3 := Lib.hid (B2.out.trans (hb3.mono B2.out.size))
  have M3 := Lib.hid (M2.out.below (hb3.mono (Nat.le_trans hB B2.out.size)))
  have G3 := Lib.hid (G2.out.below hb3 G2.out.lt)
  have T3 := Lib.hid hlate
  have S3 := Lib.hid (show w.heap.size + 2 ≤ gs ∧ gs < gk ∧ gs < w3.heap.size by have := S2.out; have := hb3.size; omega)
  have HS3 := Lib.hid (HSS.out w3 R3.out)
  have HL39 := Lib.hid (cells_len (q := q') (m := x.m) H32.out)
  clear hd hgk hgk2 hlate hb3 R2 Z2 B2 M2 G2 S2
  refine hK.out _ _ HS3.out ?_
  clear hK K
  try simp only [Act.put, List.setIfInBounds_toArray, List.set_cons_zero, List.set_cons_succ]
  refine takeL (i := 7) (v := .agg (TRaw.cells ⟨some ⟨gs, 0, none⟩, sn, sn + 3, q'⟩ x).toArray) rfl (by kernel_rfl) (by kernel_rfl) (by kernel_rfl) (fun _ _ _ h => h) (Or.inl ⟨by rfl, fun w _ => ?_⟩) HS3.out ?_
  · exact exec_built w _ _ _ rfl (by simp only [List.map_toArray, List.map_cons, List.map_nil]; exact built_tx3 _ HL39.out _ _ _)
  try simp only [Act.put, List.setIfInBounds_toArray, List.set_cons_zero, List.set_cons_succ]
  have hl40 : (TRaw.cells ⟨some ⟨gs, 0, none⟩, sn, sn + 3, q'⟩ x).length = 40 := tcells_len (s := ⟨some ⟨gs, 0, none⟩, sn, sn + 3, q'⟩) (x := x) H32.out
  have hone := tcells_one (s := ⟨some ⟨gs, 0, none⟩, sn, sn + 3, q'⟩) (x := x)
  obtain ⟨dc, hdc⟩ : ∃ dc, dc = TRaw.cells ⟨some ⟨gs, 0, none⟩, sn, sn + 3, q'⟩ x := ⟨_, rfl⟩
  rw [← hdc] at hl40 hone ⊢
  have HDC := Lib.hid hdc
  have HDL := Lib.hid hl40
  have HDO := Lib.hid hone
  clear hdc hl40 hone
  refine readyL (i := 8) rfl (by kernel_rfl) (by kernel_rfl) fun K hK => ?_
  refine wp_store_part 33 (.tmp 2) (.tmp 10) rfl (w.heap.size + 1) 33 0 _ dc Z3.out (by rw [size_tx, HDL.out]) (by rw [HDL.out]; exact Nat.le_refl _) HDO.out ?_ ?_ ?_
  · go_simp
  · go_simp
  intro V2 hr2 ht2
  rw [whole_part rfl HDL.out] at hr2
  have HS4 := Lib.hid (HSS.out V2 (ht2.row R3.out (show w.heap.size ≠ w.heap.size + 1 by omega)))
  have HR4 := Lib.hid hr2
  have HT4 := Lib.hid ht2
  clear hr2 ht2
  refine hK.out _ _ HS4.out ?_
  clear hK K
  try simp only [Act.put, List.setIfInBounds_toArray, List.set_cons_zero, List.set_cons_succ]
  refine wpAnyH_done (by kernel_rfl) ?_ _
  go_wp2_with fail
  refine bodyPost_ret (results_cell_row (h := rfl) _ V2 (w.heap.size + 1) 33 _ (0, 0) _ (by rfl) HR4.out.is Try.underlying33 rfl (by rw [List.size_toArray, HDL.out]; exact size_tx)) rfl ?_
  have h3 := S3.out
  obtain ⟨hv2, ht2⟩ := T3.out V2 (Nat.le_of_eq HT4.out.size.symm) fun k a b => HT4.out.block k (by omega)
  have hg2 := HT4.out.row G3.out (show gs ≠ w.heap.size + 1 by omega)
  have hsv := sigs_own (lo := gs) (hi := gk) hg2 HSL.out.1 M3.out.sigs.each (Nat.le_refl _) h3.2.1 (by have := HSL.out; unfold maxLen; omega)
  have htv : TxV V2 gs V2.heap.size ⟨some ⟨gs, 0, none⟩, sn, sn + 3, q'⟩ x := ⟨HSL.out.2, gk, by omega, by obtain ⟨a1, b1, a2, b2, a3, b3, h, _⟩ := hv2.is; omega, hsv, hv2⟩
  refine ⟨⟨some ⟨gs, 0, none⟩, sn, sn + 3, q'⟩, gs, by rw [HDC.out], by omega, htv, ⟨htv.in_, ⟨gs, rfl, rfl, hg2⟩, ht2⟩, B3.out.trans (HT4.out.below (by omega))⟩
end Go.Proofs.Ytgdikmgmpleolaa

/-
  Of part LeftTx: what is needed here.
-/
namespace Go.Proofs.Ytgdikmgmpleolaa
open Go.RowKit
set_option linter.unusedVariables false
set_option maxRecDepth 100000 in
set_option maxHeartbeats 2000000 in
theorem leftTx (s s' : TRaw) (x : LTx) (B : Nat) (w : World) (hT : TwTx w s' x) (h : TxIn w B s x) (hB : B ≤ w.heap.size) (hsg : x.sigs.length ≤ 65535)
    (hk : x.m.keys.length ≤ 65535 ∧ x.m.ins.length ≤ 65535 ∧ x.m.looks.length ≤ 65535) (hix : ∀ i ∈ x.m.ins, i.acc.length ≤ 65535 ∧ i.dat.length ≤ 65535) (hlx : ∀ l ∈ x.m.looks, l.wr.length ≤ 65535 ∧ l.rd.length ≤ 65535) :
    Calls Try.prog 14 #[.agg (s'.cells x).toArray, .agg (s.cells x).toArray] w fun e w' => e = .returned (.bool true) ∧ Below w.heap.size w w' := by
  obtain ⟨SA, sn, sc, q⟩ := s'
  obtain ⟨SB, sn', sd, r⟩ := s
  obtain rfl : sn' = sn := h.sigs.len.symm.trans hT.tx.sigs.len
  obtain ⟨gs, e1, e2, _⟩ := hT.sig
  dsimp only at e1 e2
  subst e1
  subst e2
  have hsl := h.sigs.len
  dsimp only at hsl
  have hr0 := (Row.new w 33 (TRaw.cells ⟨some ⟨gs, 0, none⟩, sn', sn' + 3, q⟩ x)).alloc (.cells (TRaw.cells ⟨SB, sn', sd, r⟩ x).toArray 33)
  have hr1 : Row ((w.alloc (.cells (TRaw.cells ⟨some ⟨gs, 0, none⟩, sn', sn' + 3, q⟩ x).toArray 33)).alloc (.cells (TRaw.cells ⟨SB, sn', sd, r⟩ x).toArray 33)) (w.heap.size + 1) 33 (TRaw.cells ⟨SB, sn', sd, r⟩ x) := Row.new' _ _ _ (by simp)
  have hbw := (((Below.refl w.heap.size w).alloc (Nat.le_refl _) (.cells (TRaw.cells ⟨some ⟨gs, 0, none⟩, sn', sn' + 3, q⟩ x).toArray 33)).alloc (by simp) (.cells (TRaw.cells ⟨SB, sn', sd, r⟩ x).toArray 33))
  have hw := hT.below hbw
  have hw' := h.below (hbw.mono hB)
  have HSM := Lib.hid (show (Try.prog.info? 31).map (·.size) = some (q.cells x.m).length by rw [size_msg, cells_len h.m.recent])
  have HSM' := Lib.hid (show (Try.prog.info? 31).map (·.size) = some (r.cells x.m).length by rw [size_msg, cells_len h.m.recent])
  have HCM := Lib.hid (tcells_m (s := ⟨some ⟨gs, 0, none⟩, sn', sn' + 3, q⟩) (x := x))
  have HCM' := Lib.hid (tcells_m (s := ⟨SB, sn', sd, r⟩) (x := x))
  have c0 : (TRaw.cells ⟨some ⟨gs, 0, none⟩, sn', sn' + 3, q⟩ x)[0]? = some (.slice (some ⟨gs, 0, none⟩) sn' (sn' + 3)) := rfl
  have d0 : (TRaw.cells ⟨SB, sn', sd, r⟩ x)[0]? = some (.slice SB sn' sd) := rfl
  dsimp only at HCM HCM'
  generalize TRaw.cells ⟨some ⟨gs, 0, none⟩, sn', sn' + 3, q⟩ x = ca at *
  generalize TRaw.cells ⟨SB, sn', sd, r⟩ x = cb at *
  obtain ⟨W, hW⟩ : ∃ W, W = (w.alloc (.cells ca.toArray 33)).alloc (.cells cb.toArray 33) := ⟨_, rfl⟩
  rw [← hW] at hr0 hr1 hbw hw hw'
  obtain ⟨C, hC⟩ : ∃ C, C = (bv mk64).toArray := ⟨_, rfl⟩
  have HMK : Hid (∀ w : World, Calls Try.prog 18 #[] w fun e w' => e = .returned (.agg C) ∧ Below w.heap.size w w') := Lib.hid (by rw [hC]; exact markSig)
  have HLS : Hid (∀ w' : World, Row w' gs 49 (bv x.sigs.flatten ++ keyRow 3 mk64) → SigsIn w' B SB sn' x.sigs → B ≤ w'.heap.size → Calls Try.prog 22 #[.slice (some ⟨gs, 0, none⟩) sn' (sn' + 3), .slice SB sn' sd, .agg C] w' fun e w'' => e = .returned (.bool true) ∧ Below w'.heap.size w' w'') := Lib.hid (by rw [hC]; exact fun w' a b c => leftS gs SB sn' sd x.sigs mk64 w' B a b c (by omega) mk64_len)
  have HLM : Hid (∀ w' : World, TwIn w' q x.m → MsgIn w' B r x.m → B ≤ w'.heap.size → Calls Try.prog 23 #[.agg (q.cells x.m).toArray, .agg (r.cells x.m).toArray] w' fun e w'' => e = .returned (.bool true) ∧ Below w'.heap.size w' w'') := Lib.hid fun w' a b c => leftMsg r q x.m B w' a b c hk.1 hk.2.1 hk.2.2 hix hlx
  have hsig : ∀ w' : World, TwTx w' ⟨some ⟨gs, 0, none⟩, sn', sn' + 3, q⟩ x → Row w' gs 49 (bv x.sigs.flatten ++ keyRow 3 mk64) := fun w' h => by
    obtain ⟨g, e1, _, hr⟩ := h.sig
    dsimp only at e1
    cases e1
    exact hr
  have HSIG := Lib.hid hsig
  have R0 := Lib.hid hr0
  have R1 := Lib.hid hr1
  have B0 := Lib.hid hbw
  have HW := Lib.hid hw
  have HW' := Lib.hid hw'
  have HC := Lib.hid (And.intro c0 d0)
  clear hr0 hr1 hbw hw hw' hT h hC hk hix hlx hsig c0 d0 hsl hsg
  go_enter Try.func14, Try.ntmps14
  go_upto_region 1 with fail
  rw [← hW]
  clear hW
  obtain ⟨V, hV⟩ : ∃ V, V = W.drew := ⟨_, rfl⟩
  have RV : Hid (Row V w.heap.size 33 ca) := Lib.hid (by rw [hV]; exact R0.out.drew)
  have PV : Hid (Row V (w.heap.size + 1) 33 cb) := Lib.hid (by rw [hV]; exact R1.out.drew)
  have BV : Hid (Below w.heap.size w V) := Lib.hid (by rw [hV]; exact B0.out.drew)
  have TV : Hid (TwTx V ⟨some ⟨gs, 0, none⟩, sn', sn' + 3, q⟩ x) := Lib.hid (by rw [hV]; exact HW.out.below (Below.refl _ _).drew)
  have MV : Hid (TxIn V B ⟨SB, sn', sd, r⟩ x) := Lib.hid (by rw [hV]; exact HW'.out.keep fun p hp => rfl)
  have HSS : Hid (∀ V' : World, Row V' w.heap.size 33 ca → Row V' (w.heap.size + 1) 33 cb → (V'.cell? ⟨w.heap.size, 0, none⟩ = some (.slice (some ⟨gs, 0, none⟩) sn' (sn' + 3)) ∧ V'.rangeAt w.heap.size 1 (q.cells x.m)) ∧ V'.cell? ⟨w.heap.size + 1, 0, none⟩ = some (.slice SB sn' sd) ∧ V'.rangeAt (w.heap.size + 1) 1 (r.cells x.m)) := Lib.hid fun V' h h' => ⟨⟨(h.cell 0).trans HC.out.1, fun j u hu => by rw [h.cell, HCM.out]; exact hu⟩, (h'.cell 0).trans HC.out.2, fun j u hu => by rw [h'.cell, HCM'.out]; exact hu⟩
  have HS := Lib.hid (HSS.out V RV.out PV.out)
  refine wp_region_held_drew (S := fun V => (V.cell? ⟨w.heap.size, 0, none⟩ = some (.slice (some ⟨gs, 0, none⟩) sn' (sn' + 3)) ∧ V.rangeAt w.heap.size 1 (q.cells x.m)) ∧ V.cell? ⟨w.heap.size + 1, 0, none⟩ = some (.slice SB sn' sd) ∧ V.rangeAt (w.heap.size + 1) 1 (r.cells x.m)) (by kernel_rfl) (by rw [← hV]; exact HS.out) (fun _ => ?_)
  rw [← hV]
  clear hV HW HW' R0 R1 B0
  refine takeL (i := 0) (v := ?_) rfl (by kernel_rfl) (by kernel_rfl) (by kernel_rfl) (fun _ _ _ h => h) (Or.inl ⟨by rfl, ?_⟩) HS.out ?_
  rotate_left
  · intro w hw
    try dsimp only at hw
    obtain ⟨⟨q0, q1⟩, p0, p1⟩ := hw
    go_simp
    try with_reducible rfl
  try simp only [Act.put, List.setIfInBounds_toArray, List.set_cons_zero, List.set_cons_succ]
  refine takeL (i := 1) (v := ?_) rfl (by kernel_rfl) (by kernel_rfl) (by kernel_rfl) (fun _ _ _ h => h) (Or.inl ⟨by rfl, ?_⟩) HS.out ?_
  rotate_left
  · intro w hw
    try dsimp only at hw
    obtain ⟨⟨q0, q1⟩, p0, p1⟩ := hw
    go_simp
    try with_reducible rfl
  try simp only [Act.put, List.setIfInBounds_toArray, List.set_cons_zero, List.set_cons_succ]
  refine takeL (i := 2) (v := ?_) rfl (by kernel_rfl) (by kernel_rfl) (by kernel_rfl) (fun _ _ _ h => h) (Or.inl ⟨by rfl, ?_⟩) HS.out ?_
  rotate_left
  · intro w hw
    try dsimp only at hw
    obtain ⟨⟨q0, q1⟩, p0, p1⟩ := hw
    go_simp
    try with_reducible rfl
  try simp only [Act.put, List.setIfInBounds_toArray, List.set_cons_zero, List.set_cons_succ]
  refine takeL (i := 3) (v := ?_) rfl (by kernel_rfl) (by kernel_rfl) (by kernel_rfl) (fun _ _ _ h => h) (Or.inl ⟨by rfl, ?_⟩) HS.out ?_
  rotate_left
  · intro w hw
    try dsimp only at hw
    obtain ⟨⟨q0, q1⟩, p0, p1⟩ := hw
    go_simp
    try with_reducible rfl
  try simp only [Act.put, List.setIfInBounds_toArray, List.set_cons_zero, List.set_cons_succ]
  refine readyL (i := 4) rfl (by kernel_rfl) (by kernel_rfl) fun K hK => ?_
  go_simp
  refine (HMK.out V).mono ?_
  rintro e w1 ⟨rfl, hb1⟩
  simp only []
  have R1 := Lib.hid (RV.out.below hb1 RV.out.lt)
  have P1 := Lib.hid (PV.out.below hb1 PV.out.lt)
  have B1 := Lib.hid (BV.out.trans (hb1.mono BV.out.size))
  have T1 := Lib.hid (TV.out.below hb1)
  have M1 := Lib.hid (MV.out.below (hb1.mono (Nat.le_trans hB BV.out.size)))
  have HS1 := Lib.hid (HSS.out w1 R1.out P1.out)
  clear hb1 RV PV BV TV MV
  refine hK.out _ _ HS1.out ?_
  clear hK K
  try simp only [Act.put, List.setIfInBounds_toArray, List.set_cons_zero, List.set_cons_succ]
  refine readyL (i := 5) rfl (by kernel_rfl) (by kernel_rfl) fun K hK => ?_
  go_simp
  refine (HLS.out w1 (HSIG.out _ T1.out) M1.out.sigs (Nat.le_trans hB B1.out.size)).mono ?_
  rintro e w2 ⟨rfl, hb2⟩
  simp only []
  have R2 := Lib.hid (R1.out.below hb2 R1.out.lt)
  have P2 := Lib.hid (P1.out.below hb2 P1.out.lt)
  have B2 := Lib.hid (B1.out.trans (hb2.mono B1.out.size))
  have T2 := Lib.hid (T1.out.below hb2)
  have M2 := Lib.hid (M1.out.below (hb2.mono (Nat.le_trans hB B1.out.size)))
  have HS2 := Lib.hid (HSS.out w2 R2.out P2.out)
  clear hb2 R1 P1 B1 T1 M1
  refine hK.out _ _ HS2.out ?_
  clear hK K
  try simp only [Act.put, List.setIfInBounds_toArray, List.set_cons_zero, List.set_cons_succ]
  refine takeL (i := 6) (v := ?_) rfl (by kernel_rfl) (by kernel_rfl) (by kernel_rfl) (fun _ _ _ h => h) (Or.inl ⟨by rfl, ?_⟩) HS2.out ?_
  rotate_left
  · intro w hw
    try dsimp only at hw
    obtain ⟨⟨q0, q1⟩, p0, p1⟩ := hw
    go_simp
    try with_reducible rfl
  try simp only [Act.put, List.setIfInBounds_toArray, List.set_cons_zero, List.set_cons_succ]
  refine takeL (i := 7) (v := ?_) rfl (by kernel_rfl) (by kernel_rfl) (by kernel_rfl) (fun _ _ _ h => h) (Or.inl ⟨by rfl, ?_⟩) HS2.out ?_
  rotate_left
  · intro w hw
    try dsimp only at hw
    obtain ⟨⟨q0, q1⟩, p0, p1⟩ := hw
    go_simp
    try with_reducible rfl
  try simp only [Act.put, List.setIfInBounds_toArray, List.set_cons_zero, List.set_cons_succ]
  refine takeL (i := 8) (v := .agg (q.cells x.m).toArray) rfl (by kernel_rfl) (by kernel_rfl) (by kernel_rfl) (fun _ _ _ h => h) (yieldsIf_load_mid (by kernel_rfl) 31 (.tmp 12) rfl w.heap.size 1 (by go_simp) (q.cells x.m) _ (fun w hw => hw.1.2) Try.underlying31 rfl HSM.out) HS2.out ?_
  try simp only [Act.put, List.setIfInBounds_toArray, List.set_cons_zero, List.set_cons_succ]
  refine takeL (i := 9) (v := ?_) rfl (by kernel_rfl) (by kernel_rfl) (by kernel_rfl) (fun _ _ _ h => h) (Or.inl ⟨by rfl, ?_⟩) HS2.out ?_
  rotate_left
  · intro w hw
    try dsimp only at hw
    obtain ⟨⟨q0, q1⟩, p0, p1⟩ := hw
    go_simp
    try with_reducible rfl
  try simp only [Act.put, List.setIfInBounds_toArray, List.set_cons_zero, List.set_cons_succ]
  refine takeL (i := 10) (v := .agg (r.cells x.m).toArray) rfl (by kernel_rfl) (by kernel_rfl) (by kernel_rfl) (fun _ _ _ h => h) (yieldsIf_load_mid (by kernel_rfl) 31 (.tmp 14) rfl (w.heap.size + 1) 1 (by go_simp) (r.cells x.m) _ (fun w hw => hw.2.2) Try.underlying31 rfl HSM'.out) HS2.out ?_
  try simp only [Act.put, List.setIfInBounds_toArray, List.set_cons_zero, List.set_cons_succ]
  refine readyL (i := 11) rfl (by kernel_rfl) (by kernel_rfl) fun K hK => ?_
  go_simp
  refine (HLM.out w2 T2.out.m M2.out.m (Nat.le_trans hB B2.out.size)).mono ?_
  rintro e w3 ⟨rfl, hb3⟩
  simp only []
  have R3 := Lib.hid (R2.out.below hb3 R2.out.lt)
  have P3 := Lib.hid (P2.out.below hb3 P2.out.lt)
  have B3 := Lib.hid (B2.out.trans (hb3.mono B2.out.size))
  have T3 := Lib.hid (T2.out.below hb3)
  have M3 := Lib.hid (M2.out.below (hb3.mono (Nat.le_trans hB B2.out.size)))
  have HS3 := Lib.hid (HSS.out w3 R3.out P3.out)
  clear hb3 R2 P2 B2 T2 M2
  refine hK.out _ _ HS3.out ?_
  clear hK K
  try simp only [Act.put, List.setIfInBounds_toArray, List.set_cons_zero, List.set_cons_succ]
  refine takeL (i := 12) (v := ?_) rfl (by kernel_rfl) (by kernel_rfl) (by kernel_rfl) (fun _ _ _ h => h) (Or.inl ⟨by rfl, ?_⟩) HS3.out ?_
  rotate_left
  · intro w hw
    try dsimp only at hw
    obtain ⟨⟨q0, q1⟩, p0, p1⟩ := hw
    go_simp
    try with_reducible rfl
  try simp only [Act.put, List.setIfInBounds_toArray, List.set_cons_zero, List.set_cons_succ]
  refine takeL (i := 13) (v := ?_) rfl (by kernel_rfl) (by kernel_rfl) (by kernel_rfl) (fun _ _ _ h => h) (Or.inl ⟨by rfl, ?_⟩) HS3.out ?_
  rotate_left
  · intro w hw
    try dsimp only at hw
    obtain ⟨⟨q0, q1⟩, p0, p1⟩ := hw
    go_simp
    try with_reducible rfl
  try simp only [Act.put, List.setIfInBounds_toArray, List.set_cons_zero, List.set_cons_succ]
  refine wpAnyH_done (by kernel_rfl) ?_ _
  go_wp2_with fail
  go_ret
  exact ⟨rfl, B3.out⟩
end Go.Proofs.Ytgdikmgmpleolaa

/-
  Of part Great: what is needed here.
-/
namespace Go.Proofs.Ytgdikmgmpleolaa
open Go.RowKit
set_option linter.unusedVariables false
/-- no list of it is longer than memory is wide -/
structure Sized (m : LMsg) : Prop where
  keys : m.keys.length ≤ 140737488355328
  ins : m.ins.length ≤ 140737488355328
  looks : m.looks.length ≤ 140737488355328
  inl : ∀ i ∈ m.ins, i.acc.length ≤ 140737488355328 ∧ i.dat.length ≤ 140737488355328
  lol : ∀ l ∈ m.looks, l.wr.length ≤ 140737488355328 ∧ l.rd.length ≤ 140737488355328
def inSize (l : List LIn) : Nat := (l.map fun i => i.acc.length + i.dat.length).sum
def lookSize (l : List LLook) : Nat := (l.map fun i => i.wr.length + i.rd.length).sum
/-- how much of it is gone through -/
def total (m : LMsg) : Nat := m.keys.length + m.ins.length + m.looks.length + inSize m.ins + lookSize m.looks
theorem inSize_succ {l : List LIn} {k : Nat} {x : LIn} (h : l[k]? = some x) : inSize (l.take (k + 1)) = inSize (l.take k) + (x.acc.length + x.dat.length) := by
  unfold inSize
  rw [List.take_add_one, h]
  simp
theorem lookSize_succ {l : List LLook} {k : Nat} {x : LLook} (h : l[k]? = some x) : lookSize (l.take (k + 1)) = lookSize (l.take k) + (x.wr.length + x.rd.length) := by
  unfold lookSize
  rw [List.take_add_one, h]
  simp
/-- what Great tells -/
def GreatDone (w : World) (m : LMsg) (e : Ending) (w' : World) : Prop := (∃ b, e = .returned (.bool b) ∧ (b = false → total m < 3000)) ∧ Below w.heap.size w w'
set_option maxRecDepth 100000 in
set_option maxHeartbeats 1000000 in
theorem great_ (q : Raw) (m : LMsg) (B : Nat) (w : World) (hm : MsgIn w B q m) (hB : B ≤ w.heap.size) (hs : Sized m) :
    Calls Try.prog 15 #[.agg (q.cells m).toArray] w (GreatDone w m) := by
  obtain ⟨KA, kn, kc, IA, n, ic, LA, ln, lc⟩ := q
  have rb := MsgRow.of (Row.new w 31 (Raw.cells ⟨KA, kn, kc, IA, n, ic, LA, ln, lc⟩ m)) hm.recent
  have hb0 := (Below.refl w.heap.size w).alloc (Nat.le_refl _) (.cells (Raw.cells ⟨KA, kn, kc, IA, n, ic, LA, ln, lc⟩ m).toArray 31)
  obtain ⟨cs, hcs⟩ : ∃ cs, cs = Raw.cells ⟨KA, kn, kc, IA, n, ic, LA, ln, lc⟩ m := ⟨_, rfl⟩
  rw [← hcs] at rb hb0 ⊢
  clear hcs
  obtain ⟨d0, d1, d2, d3, d4, d37, d38⟩ := rb
  dsimp only at d4 d37 d38
  have lk := hm.keys.len
  have li := hm.ins.len
  have ll := hm.looks.len
  dsimp only at lk li ll
  have k1 := hs.keys
  have k2 := hs.ins
  have k3 := hs.looks
  rw [lk] at k1
  rw [li] at k2
  rw [ll] at k3
  have HM := Lib.hid (hm.below (hb0.mono hB))
  have HSZ := Lib.hid hs
  have HB0 := Lib.hid hb0
  have HT : Hid (total m = kn + n + ln + inSize m.ins + lookSize m.looks) := Lib.hid (by unfold total; rw [lk, li, ll])
  clear d0 d1 d2 d3 hm hs hb0
  go_enter Try.func15, Try.ntmps15
  go_wp2
  generalize (w.alloc (Obj.cells cs.toArray 31)) = W0 at *
  go_loopw [3, 4] (fun nn i wr => ∃ (k j s : Nat), k ≤ n ∧ i = .int .i64 k ∧ nn = .int .i64 s ∧ wr = W0.drewN j ∧ s = kn + n + ln + inSize (m.ins.take k) ∧ s ≤ 900000000000000) (fun nn i _ => n - (intOf i).toNat)
  case atStart => exact ⟨0, 0, kn + n + ln, Nat.zero_le _, rfl, by simp, rfl, by simp [inSize], by omega⟩
  case round =>
    obtain ⟨k, j, s, hk, rfl, rfl, rfl, hsum, hs9⟩ := hrel
    have HS := Lib.hid hsum
    clear hsum
    by_cases hgo : k < n ∧ s < 3000
    · obtain ⟨hlt, hs3⟩ := hgo
      obtain ⟨a, x, va, vd, rfl, hab, hx, hat⟩ := HM.out.ins.get hlt
      obtain ⟨A1, c1, rfl, _, _, _⟩ := hat.acc.is
      obtain ⟨A2, c2, rfl, _, _, _⟩ := hat.dat.is
      have e1 : W0.cell? ⟨(a.add (k * 3)).block, (a.add (k * 3)).off + 1, none⟩ = some (.slice A1 x.acc.length c1) := hat.cells 1 _ rfl
      have e2 : W0.cell? ⟨(a.add (k * 3)).block, (a.add (k * 3)).off + 2, none⟩ = some (.slice A2 x.dat.length c2) := hat.cells 2 _ rfl
      have l1 := (HSZ.out.inl x (List.mem_of_getElem? hx)).1
      have l2 := (HSZ.out.inl x (List.mem_of_getElem? hx)).2
      have HX := Lib.hid (inSize_succ hx)
      clear hat hx
      go_wp2
      go_quiet (fail)
      go_wp2
      go_roundw
      case rel => exact ⟨k + 1, j + nq, s + x.acc.length + x.dat.length, by omega, by go_num, by go_num, by simp, by have := HS.out; have := HX.out; omega, by omega⟩
      case measure => simp [intOf]; omega
    · have HGO : Hid (3000 ≤ s ∨ s = kn + n + ln + inSize m.ins) := by
        refine Lib.hid ?_
        by_cases h3 : s < 3000
        · right
          have hkn : k = n := by
            have : ¬ k < n := fun h => hgo ⟨h, h3⟩
            omega
          have := HS.out
          rwa [hkn, List.take_of_length_le (by omega)] at this
        · left; omega
      have hdec : (k < n ∧ ¬ s < 3000) ∨ ¬ k < n := by
        by_cases h : k < n
        · exact .inl ⟨h, fun h3 => hgo ⟨h, h3⟩⟩
        · exact .inr h
      clear HS hgo
      rcases hdec with ⟨hd1, hd2⟩ | hd1
      all_goals
        (go_wp2
         go_loopw [3, 5] (fun nn i wr => ∃ (k j s : Nat), k ≤ ln ∧ i = .int .i64 k ∧ nn = .int .i64 s ∧ wr = W0.drewN j ∧ (3000 ≤ s ∨ s = kn + n + ln + inSize m.ins + lookSize (m.looks.take k)) ∧ s ≤ 900000000000000) (fun nn i _ => ln - (intOf i).toNat)
         case atStart => exact ⟨0, j, s, Nat.zero_le _, rfl, rfl, rfl, by simpa [lookSize] using HGO.out, hs9⟩
         case round =>
          clear HGO hd1
          try clear hd2
          clear hs9 hk
          obtain ⟨k, j, s, hk, rfl, rfl, rfl, hsum, hs9⟩ := hrel
          have HS := Lib.hid hsum
          clear hsum
          by_cases hgo : k < ln ∧ s < 3000
          · obtain ⟨hlt, hs3⟩ := hgo
            obtain ⟨a, x, va, vd, rfl, hab, hx, hat⟩ := HM.out.looks.get hlt
            have hc1 : W0.cell? ((a.add (k * 34)).add 32) = some va := hat.cells 32 va (by rw [List.getElem?_append_right (by rw [bv_length, hat.len]; exact Nat.le_refl _), bv_length, hat.len]; rfl)
            have hc2 : W0.cell? ((a.add (k * 34)).add 33) = some vd := hat.cells 33 vd (by rw [List.getElem?_append_right (by rw [bv_length, hat.len]; omega), bv_length, hat.len]; rfl)
            obtain ⟨A1, c1, rfl, _, _, _⟩ := hat.wr.is
            obtain ⟨A2, c2, rfl, _, _, _⟩ := hat.rd.is
            have e1 : W0.cell? ⟨(a.add (k * 34)).block, (a.add (k * 34)).off + 32, none⟩ = some (.slice A1 x.wr.length c1) := hc1
            have e2 : W0.cell? ⟨(a.add (k * 34)).block, (a.add (k * 34)).off + 33, none⟩ = some (.slice A2 x.rd.length c2) := hc2
            have l1 := (HSZ.out.lol x (List.mem_of_getElem? hx)).1
            have l2 := (HSZ.out.lol x (List.mem_of_getElem? hx)).2
            have HX := Lib.hid (lookSize_succ hx)
            clear hat hx hc1 hc2
            go_wp2
            go_quiet (fail)
            go_wp2
            go_roundw
            case rel =>
              refine ⟨k + 1, j + nq, s + x.wr.length + x.rd.length, by omega, by go_num, by go_num, by simp, ?_, by omega⟩
              have h1 := HS.out
              have h2 := HX.out
              omega
            case measure => simp [intOf]; omega
          · have HT2 : Hid (s < 3000 → total m < 3000) := by
              refine Lib.hid fun h3 => ?_
              have hkn : k = ln := by
                have : ¬ k < ln := fun h => hgo ⟨h, h3⟩
                omega
              have h1 := HS.out
              rw [hkn, List.take_of_length_le (by omega)] at h1
              have h2 := HT.out
              omega
            have hdec : (k < ln ∧ ¬ s < 3000) ∨ ¬ k < ln := by
              by_cases h : k < ln
              · exact .inl ⟨h, fun h3 => hgo ⟨h, h3⟩⟩
              · exact .inr h
            clear HS hgo
            rcases hdec with ⟨hd1, hd2⟩ | hd1
            all_goals
              (go_wp2
               go_ret
               exact ⟨⟨_, rfl, fun hb => HT2.out (by first | (simp at hb; done) | (simp at hb; omega))⟩, below_drewN HB0.out j⟩))
theorem size_mem {l : List LIn} {x : LIn} (h : x ∈ l) : x.acc.length + x.dat.length ≤ inSize l := by
  induction l with
  | nil => cases h
  | cons y r ih =>
    simp only [inSize, List.map_cons, List.sum_cons] at ih ⊢
    rcases List.mem_cons.1 h with rfl | h
    · omega
    · have := ih h; omega
theorem lsize_mem {l : List LLook} {x : LLook} (h : x ∈ l) : x.wr.length + x.rd.length ≤ lookSize l := by
  induction l with
  | nil => cases h
  | cons y r ih =>
    simp only [lookSize, List.map_cons, List.sum_cons] at ih ⊢
    rcases List.mem_cons.1 h with rfl | h
    · omega
    · have := ih h; omega
end Go.Proofs.Ytgdikmgmpleolaa

/-
  Of part OpenMsg: what is needed here.
-/
namespace Go.Proofs.Ytgdikmgmpleolaa
open Go.RowKit
set_option linter.unusedVariables false
open Go.ChangeShapes Go.WideShapes Go.RowKit
theorem list_of {α : Type} {p : Nat → α → Prop} : ∀ (n : Nat), (∀ i, i < n → ∃ x, p i x) → ∃ l : List α, l.length = n ∧ ∀ i x, l[i]? = some x → p i x
  | 0, _ => ⟨[], rfl, fun i x h => by simp at h⟩
  | n + 1, h => by
    obtain ⟨l, hl, hp⟩ := list_of n fun i hi => h i (by omega)
    obtain ⟨x, hx⟩ := h n (Nat.lt_succ_self _)
    refine ⟨l ++ [x], by simp [hl], fun i y hy => ?_⟩
    by_cases hi : i < n
    · rw [List.getElem?_append_left (by omega)] at hy
      exact hp i y hy
    · rw [List.getElem?_append_right (by omega)] at hy
      have h1 := (List.getElem?_eq_some_iff.1 hy).1
      simp at h1
      have : i = n := by omega
      subst this
      rw [show i - l.length = 0 by omega] at hy
      simp at hy
      exact hy ▸ hx
theorem KeysIn.of_at {w : World} {B : Nat} {A : Option Addr} {n : Nat} {l : List (List Int)} (hn : l.length = n) (h : ∀ (i : Nat) x, l[i]? = some x → x.length = 32 ∧ ∃ a, A = some a ∧ a.block < B ∧ ∀ j u, (bv x)[j]? = some u → w.cell? (a.add (i * 32 + j)) = some u) : KeysIn w B A n l := by
  have he : ∀ k ∈ l, k.length = 32 := fun k hk => by
    obtain ⟨i, hi, rfl⟩ := List.getElem_of_mem hk
    exact (h i _ (List.getElem?_eq_getElem hi)).1
  have hf : l.flatten.length = n * 32 := by
    rw [← hn]
    clear hn h
    induction l with
    | nil => rfl
    | cons y r ih =>
      have h1 := ih (fun k hk => he k (by simp [hk]))
      have h2 := he y (by simp)
      simp only [List.flatten_cons, List.length_append, List.length_cons, h1, h2]
      omega
  refine ⟨hn, he, ⟨by rw [bv_length]; exact hf, fun i u hu => ?_⟩⟩
  have hi := (List.getElem?_eq_some_iff.1 hu).1
  rw [bv_length, hf] at hi
  have hk : i / 32 < l.length := by omega
  obtain ⟨h1, a, rfl, h2, h3⟩ := h (i / 32) _ (List.getElem?_eq_getElem hk)
  refine ⟨_, rfl, h2, ?_⟩
  have hlt : i % 32 < (bv l[i / 32]).length := by rw [bv_length, h1]; omega
  obtain ⟨u', hu'⟩ : ∃ u', (bv l[i / 32])[i % 32]? = some u' := ⟨_, List.getElem?_eq_getElem hlt⟩
  have h4 := h3 _ _ hu'
  rw [show i / 32 * 32 + i % 32 = i by omega] at h4
  rw [h4]
  rw [bv_getElem?] at hu hu'
  obtain ⟨z', hz', rfl⟩ : ∃ z, (l[i / 32])[i % 32]? = some z ∧ u' = .int .u8 z := by
    cases hq : (l[i / 32])[i % 32]? with
    | none => rw [hq] at hu'; simp at hu'
    | some z => rw [hq] at hu'; exact ⟨z, rfl, by simpa using hu'.symm⟩
  have h5 := flatten_at 32 l (i / 32) _ (fun i y hy => he y (List.mem_of_getElem? hy)) (List.getElem?_eq_getElem hk) (i % 32) z' hz'
  rw [show i / 32 * 32 + i % 32 = i by omega] at h5
  rw [h5] at hu
  exact hu
theorem byte_wf {z : Int} (h : (Lit.int .u8 z).wf = true) : IsByte z := by
  have := bounds_u8 h
  unfold IsByte
  omega
section
variable {H : Type} {enc : TypeId × Value → H}
/-- no list in it is longer than the form's reach -/
def Wt (t : TypeId) (d : DataW H) : Prop := ∀ n ∈ d.weights Try.prog t, n ≤ reachBytes
theorem wt_all {e : TypeId} : ∀ {l : List (DataW H)}, (∀ n ∈ DataW.weightsAll Try.prog e l, n ≤ reachBytes) → ∀ d ∈ l, Wt e d
  | [], _, d, hd => by simp at hd
  | y :: r, h, d, hd => by
    rcases List.mem_cons.1 hd with rfl | hd
    · exact fun n hn => h n (by simp [DataW.weightsAll, hn])
    · exact wt_all (l := r) (fun n hn => h n (by simp [DataW.weightsAll, hn])) d hd
variable {w : World} {base : Nat} {held : Bool}
theorem open_sl {t e : TypeId} {fuel : Nat} {cs : List Value} {x : DataW H × List MemPlace} (ht : Try.prog.underlying t = some (.slice e)) (hc : 0 < Try.prog.cellsOf e)
    (h : DataW.trod enc Try.prog w base (fun _ => true) held fuel t cs = some x) (hw : Wt t x.1) :
    ∃ A n c, cs = [.slice A n c] ∧ n ≤ c ∧ c ≤ maxLen ∧ n * Try.prog.bytesOf e ≤ reachBytes ∧ ∀ i, i < n → ∃ a cs' y m, A = some a ∧ a.block < w.heap.size ∧ cs'.length = Try.prog.cellsOf e ∧
      (∀ j u, cs'[j]? = some u → w.cell? (a.add (i * Try.prog.cellsOf e + j)) = some u) ∧ DataW.trod enc Try.prog w base (fun _ => true) held m e cs' = some y ∧ Wt e y.1 := by
  rcases Go.Deep.open_slice ht h with ⟨rfl, rfl⟩ | ⟨a, len, cap, m, n, D, Pl, rfl, hb, hl, hm, hmm, rfl, hx⟩
  · exact ⟨none, 0, 0, rfl, Nat.le_refl _, Nat.zero_le _, by simp, fun i hi => by omega⟩
  · have hm' : m = cap := by simpa using hmm
    have h1 : ((len + (m - len)) * Try.prog.bytesOf e) ≤ reachBytes := by
      refine hw _ ?_
      simp [DataW.weights, ht]
    have h2 : ∀ d ∈ (List.range len).map D, Wt e d := wt_all fun n hn => hw n (by simp only [DataW.weights, ht]; simp [hn])
    refine ⟨some a, len, cap, rfl, hl, hm, Nat.le_trans (Nat.mul_le_mul_right _ (by omega)) h1, fun i hi => ?_⟩
    obtain ⟨cs', hcs, htr⟩ := hx i (by omega)
    have hbl := World.cells?_block hcs hc
    obtain ⟨_, hlen, hat⟩ := World.cells?_some hcs
    refine ⟨a, cs', _, n, rfl, by rwa [addr_block] at hbl, hlen, fun j u hu => ?_, htr, h2 _ (by simp; exact ⟨i, hi, rfl⟩)⟩
    have := hat j (by have := (List.getElem?_eq_some_iff.1 hu).1; omega)
    rw [addr_add] at this
    rw [this, hu]
theorem cellsU8 : Try.prog.cellsOf 5 = 1 := by kernel_rfl
theorem bytesU8 : Try.prog.bytesOf 5 = 1 := by kernel_rfl
theorem cellsKey : Try.prog.cellsOf 41 = 32 := by kernel_rfl
theorem bytesKey : Try.prog.bytesOf 41 = 32 := by kernel_rfl
theorem cellsHash : Try.prog.cellsOf 27 = 32 := by kernel_rfl
theorem cellsIn : Try.prog.cellsOf 47 = 3 := by kernel_rfl
theorem bytesIn : Try.prog.bytesOf 47 = 56 := by kernel_rfl
theorem cellsLook : Try.prog.cellsOf 44 = 34 := by kernel_rfl
theorem bytesLook : Try.prog.bytesOf 44 = 80 := by kernel_rfl
theorem cellsBs : Try.prog.cellsOf 42 = 1 := by kernel_rfl
theorem reach47 : reachBytes ≤ 140737488355328 := by decide
theorem open_bytes {fuel : Nat} {v : Value} {x : DataW H × List MemPlace} (h : DataW.trod enc Try.prog w base (fun _ => true) held fuel 42 [v] = some x) (hw : Wt 42 x.1) :
    ∃ l, BytesIn w w.heap.size v l ∧ AllBytes l ∧ l.length ≤ 140737488355328 := by
  obtain ⟨A, n, c, hcs, h1, h2, h3, h4⟩ := open_sl Try.underlying42 (by rw [cellsU8]; omega) h hw
  obtain rfl : v = .slice A n c := by simpa using hcs
  rw [bytesU8] at h3
  have := reach47
  obtain ⟨l, hl, hp⟩ := list_of (α := Int) (p := fun i z => IsByte z ∧ ∃ a, A = some a ∧ a.block < w.heap.size ∧ w.cell? (a.add i) = some (.int .u8 z)) n fun i hi => by
    obtain ⟨a, cs', y, m, e1, e2, e3, e4, e5, _⟩ := h4 i hi
    obtain ⟨z, rfl, _, hz⟩ := DataW.trod_int Try.underlying5 e5
    have := e4 0 _ rfl
    rw [cellsU8, Nat.mul_one, Nat.add_zero] at this
    exact ⟨z, byte_wf hz, a, e1, e2, this⟩
  subst hl
  refine ⟨l, ⟨A, c, rfl, ⟨bv_length _, fun i u hu => ?_⟩, h1, h2⟩, fun z hz => ?_, by omega⟩
  · rw [bv_getElem?] at hu
    cases hq : l[i]? with
    | none => rw [hq] at hu; simp at hu
    | some z =>
      rw [hq] at hu
      obtain ⟨_, a, e1, e2, e3⟩ := hp i z hq
      obtain rfl : Value.int .u8 z = u := by simpa using hu
      exact ⟨a, e1, e2, e3⟩
  · obtain ⟨i, hi, rfl⟩ := List.getElem_of_mem hz
    exact (hp i _ (List.getElem?_eq_getElem hi)).1
theorem open_32 {t : TypeId} {fuel : Nat} {cs : List Value} {x : DataW H × List MemPlace} (ht : Try.prog.underlying t = some (.array 32 5)) (hc : Try.prog.cellsOf t = 32) (h : DataW.trod enc Try.prog w base (fun _ => true) held fuel t cs = some x) :
    ∃ l : List Int, cs = bv l ∧ l.length = 32 ∧ AllBytes l := by
  obtain ⟨xs, m, _, _, hl, hxs, hat⟩ := DataW.trod_array ht h
  obtain ⟨l, hll, hp⟩ := list_of (α := Int) (p := fun i z => IsByte z ∧ cs[i]? = some (.int .u8 z)) 32 fun i hi => by
    have h1 := hat i hi
    have hx : xs[i]? = some xs[i] := List.getElem?_eq_getElem (by omega)
    rw [cellsU8, hx] at h1
    obtain ⟨z, hz, _, hwz⟩ := DataW.trod_int Try.underlying5 h1
    refine ⟨z, byte_wf hwz, ?_⟩
    have := congrArg List.head? hz
    simpa [List.head?_take] using this
  rw [hc] at hl
  refine ⟨l, List.ext_getElem? fun i => ?_, hll, fun z hz => ?_⟩
  · by_cases hi : i < 32
    · have e := List.getElem?_eq_getElem (l := l) (i := i) (by omega)
      rw [bv_getElem?, e, (hp i _ e).2]
      rfl
    · rw [List.getElem?_eq_none (by omega), List.getElem?_eq_none (by rw [bv_length]; omega)]
  · obtain ⟨i, hi, rfl⟩ := List.getElem_of_mem hz
    exact (hp i _ (List.getElem?_eq_getElem hi)).1
end
open Go.ChangeShapes Go.WideShapes Go.RowKit
theorem three_of {cs : List Value} (h : cs.length = 3) : ∃ a b c, cs = [a, b, c] := by
  match cs, h with
  | [a, b, c], _ => exact ⟨a, b, c, rfl⟩
theorem two_of {cs : List Value} (h : cs.length = 2) : ∃ a b, cs = [a, b] := by
  match cs, h with
  | [a, b], _ => exact ⟨a, b, rfl⟩
section
variable {H : Type} {enc : TypeId × Value → H} {w : World} {base : Nat} {held : Bool}
theorem wt_in {y0 y1 y2 : DataW H} (h : Wt 47 (.agg [y0, y1, y2])) : Wt 42 y1 ∧ Wt 42 y2 := by
  refine ⟨fun n hn => h n ?_, fun n hn => h n ?_⟩ <;> simp only [DataW.weights, Try.underlying47] <;> simp [DataW.weightsEach, hn]
theorem wt_look {y0 y1 y2 : DataW H} (h : Wt 44 (.agg [y0, y1, y2])) : Wt 42 y1 ∧ Wt 42 y2 := by
  refine ⟨fun n hn => h n ?_, fun n hn => h n ?_⟩ <;> simp only [DataW.weights, Try.underlying44] <;> simp [DataW.weightsEach, hn]
theorem wt_msg {y0 y1 y2 y3 y4 y5 : DataW H} (h : Wt 31 (.agg [y0, y1, y2, y3, y4, y5])) : Wt 25 y2 ∧ Wt 28 y4 ∧ Wt 29 y5 := by
  refine ⟨fun n hn => h n ?_, fun n hn => h n ?_, fun n hn => h n ?_⟩ <;> simp only [DataW.weights, Try.underlying31] <;> simp [DataW.weightsEach, hn]
theorem open_keys {fuel : Nat} {v : Value} {x : DataW H × List MemPlace} (h : DataW.trod enc Try.prog w base (fun _ => true) held fuel 25 [v] = some x) (hw : Wt 25 x.1) :
    ∃ A n c l, v = .slice A n c ∧ n ≤ c ∧ c ≤ maxLen ∧ KeysIn w w.heap.size A n l ∧ (∀ k ∈ l, k.length = 32 ∧ AllBytes k) ∧ l.length ≤ 140737488355328 := by
  obtain ⟨A, n, c, hcs, h1, h2, h3, h4⟩ := open_sl Try.underlying25 (by rw [cellsKey]; omega) h hw
  obtain rfl : v = .slice A n c := by simpa using hcs
  rw [bytesKey] at h3
  have := reach47
  obtain ⟨l, hl, hp⟩ := list_of (α := List Int) (p := fun i z => (z.length = 32 ∧ AllBytes z) ∧ ∃ a, A = some a ∧ a.block < w.heap.size ∧ ∀ j u, (bv z)[j]? = some u → w.cell? (a.add (i * 32 + j)) = some u) n fun i hi => by
    obtain ⟨a, cs', y, m, e1, e2, e3, e4, e5, _⟩ := h4 i hi
    obtain ⟨z, rfl, hz, hz'⟩ := open_32 Try.underlying41 cellsKey e5
    rw [cellsKey] at e4
    exact ⟨z, ⟨hz, hz'⟩, a, e1, e2, e4⟩
  subst hl
  refine ⟨A, l.length, c, l, rfl, h1, h2, KeysIn.of_at rfl fun i x hx => ⟨(hp i x hx).1.1, (hp i x hx).2⟩, fun k hk => ?_, by omega⟩
  obtain ⟨i, hi, rfl⟩ := List.getElem_of_mem hk
  exact (hp i _ (List.getElem?_eq_getElem hi)).1
theorem open_ins {fuel : Nat} {v : Value} {x : DataW H × List MemPlace} (h : DataW.trod enc Try.prog w base (fun _ => true) held fuel 28 [v] = some x) (hw : Wt 28 x.1) :
    ∃ A n c l, v = .slice A n c ∧ n ≤ c ∧ c ≤ maxLen ∧ InsIn w w.heap.size A n l ∧ (∀ i ∈ l, (IsByte i.p ∧ AllBytes i.acc ∧ AllBytes i.dat) ∧ i.acc.length ≤ 140737488355328 ∧ i.dat.length ≤ 140737488355328) ∧ l.length ≤ 140737488355328 := by
  obtain ⟨A, n, c, hcs, h1, h2, h3, h4⟩ := open_sl Try.underlying28 (by rw [cellsIn]; omega) h hw
  obtain rfl : v = .slice A n c := by simpa using hcs
  rw [bytesIn] at h3
  have := reach47
  obtain ⟨l, hl, hp⟩ := list_of (α := LIn) (p := fun i z => ((IsByte z.p ∧ AllBytes z.acc ∧ AllBytes z.dat) ∧ z.acc.length ≤ 140737488355328 ∧ z.dat.length ≤ 140737488355328) ∧
      ∃ a va vd, A = some a ∧ a.block < w.heap.size ∧ w.cell? (a.add (i * 3)) = some (.int .u8 z.p) ∧ w.cell? (a.add (i * 3 + 1)) = some va ∧ w.cell? (a.add (i * 3 + 2)) = some vd ∧ BytesIn w w.heap.size va z.acc ∧ BytesIn w w.heap.size vd z.dat) n fun i hi => by
    obtain ⟨a, cs', y, m, e1, e2, e3, e4, e5, e6⟩ := h4 i hi
    obtain ⟨y0, y1, y2, k, rfl, hl, t0, t1, t2⟩ := Go.Deep.trod_struct3 Try.underlying47 e5
    rw [cellsIn] at e3 e4
    obtain ⟨c0, c1, c2, rfl⟩ : ∃ c0 c1 c2, cs' = [c0, c1, c2] := three_of e3
    obtain ⟨w1, w2⟩ := wt_in e6
    have t0' : DataW.trod enc Try.prog w base (fun _ => true) held k 5 [c0] = some y0 := by simpa [cellsU8] using t0
    have t1' : DataW.trod enc Try.prog w base (fun _ => true) held k 42 [c1] = some y1 := by simpa [cellsBs] using t1
    have t2' : DataW.trod enc Try.prog w base (fun _ => true) held k 42 [c2] = some y2 := by simpa [cellsBs] using t2
    obtain ⟨z, hz, _, hz'⟩ := DataW.trod_int Try.underlying5 t0'
    obtain rfl : c0 = .int .u8 z := by simpa using hz
    obtain ⟨la, a1, a2, a3⟩ := open_bytes t1' w1
    obtain ⟨ld, d1, d2, d3⟩ := open_bytes t2' w2
    exact ⟨⟨z, la, ld⟩, ⟨⟨byte_wf hz', a2, d2⟩, a3, d3⟩, a, c1, c2, e1, e2, e4 0 _ rfl, e4 1 _ rfl, e4 2 _ rfl, a1, d1⟩
  subst hl
  refine ⟨A, l.length, c, l, rfl, h1, h2, ⟨rfl, fun i x hx => (hp i x hx).2⟩, fun k hk => ?_, by omega⟩
  obtain ⟨i, hi, rfl⟩ := List.getElem_of_mem hk
  exact (hp i _ (List.getElem?_eq_getElem hi)).1
theorem open_looks {fuel : Nat} {v : Value} {x : DataW H × List MemPlace} (h : DataW.trod enc Try.prog w base (fun _ => true) held fuel 29 [v] = some x) (hw : Wt 29 x.1) :
    ∃ A n c l, v = .slice A n c ∧ n ≤ c ∧ c ≤ maxLen ∧ LooksIn w w.heap.size A n l ∧ (∀ i ∈ l, ((i.tab.length = 32 ∧ AllBytes i.tab) ∧ AllBytes i.wr ∧ AllBytes i.rd) ∧ i.wr.length ≤ 140737488355328 ∧ i.rd.length ≤ 140737488355328) ∧ l.length ≤ 140737488355328 := by
  obtain ⟨A, n, c, hcs, h1, h2, h3, h4⟩ := open_sl Try.underlying29 (by rw [cellsLook]; omega) h hw
  obtain rfl : v = .slice A n c := by simpa using hcs
  rw [bytesLook] at h3
  have := reach47
  obtain ⟨l, hl, hp⟩ := list_of (α := LLook) (p := fun i z => (((z.tab.length = 32 ∧ AllBytes z.tab) ∧ AllBytes z.wr ∧ AllBytes z.rd) ∧ z.wr.length ≤ 140737488355328 ∧ z.rd.length ≤ 140737488355328) ∧
      ∃ a va vd, A = some a ∧ a.block < w.heap.size ∧ (∀ j u, (bv z.tab ++ [va, vd])[j]? = some u → w.cell? (a.add (i * 34 + j)) = some u) ∧ z.tab.length = 32 ∧ BytesIn w w.heap.size va z.wr ∧ BytesIn w w.heap.size vd z.rd) n fun i hi => by
    obtain ⟨a, cs', y, m, e1, e2, e3, e4, e5, e6⟩ := h4 i hi
    obtain ⟨y0, y1, y2, k, rfl, hl, t0, t1, t2⟩ := Go.Deep.trod_struct3 Try.underlying44 e5
    rw [cellsLook] at e3 e4
    obtain ⟨w1, w2⟩ := wt_look e6
    have t0' : DataW.trod enc Try.prog w base (fun _ => true) held k 41 (cs'.take 32) = some y0 := by simpa [cellsKey] using t0
    obtain ⟨z, hz, hz1, hz2⟩ := open_32 Try.underlying41 cellsKey t0'
    obtain ⟨c1, c2, hc12⟩ : ∃ c1 c2, cs'.drop 32 = [c1, c2] := two_of (by rw [List.length_drop, e3])
    obtain rfl : cs' = bv z ++ [c1, c2] := by rw [← hz, ← hc12, List.take_append_drop]
    have t1' : DataW.trod enc Try.prog w base (fun _ => true) held k 42 [c1] = some y1 := by
      have := t1
      simp only [cellsBs] at this
      rw [hc12] at this
      exact this
    have t2' : DataW.trod enc Try.prog w base (fun _ => true) held k 42 [c2] = some y2 := by
      have := t2
      simp only [cellsBs] at this
      rw [show (33 : Nat) = 32 + 1 from rfl, ← List.drop_drop, hc12] at this
      exact this
    obtain ⟨la, a1, a2, a3⟩ := open_bytes t1' w1
    obtain ⟨ld, d1, d2, d3⟩ := open_bytes t2' w2
    exact ⟨⟨z, la, ld⟩, ⟨⟨⟨hz1, hz2⟩, a2, d2⟩, a3, d3⟩, a, c1, c2, e1, e2, e4, hz1, a1, d1⟩
  subst hl
  refine ⟨A, l.length, c, l, rfl, h1, h2, ⟨rfl, fun i x hx => (hp i x hx).2⟩, fun k hk => ?_, by omega⟩
  obtain ⟨i, hi, rfl⟩ := List.getElem_of_mem hk
  exact (hp i _ (List.getElem?_eq_getElem hi)).1
end
open Go.ChangeShapes Go.WideShapes Go.RowKit
theorem six_of {α : Type} {xs : List α} (h : xs.length = 6) : ∃ a b c d e f, xs = [a, b, c, d, e, f] := by
  match xs, h with
  | [a, b, c, d, e, f], _ => exact ⟨a, b, c, d, e, f, rfl⟩
theorem one_of {cs : List Value} (h : cs.length = 1) : ∃ a, cs = [a] := by
  match cs, h with
  | [a], _ => exact ⟨a, rfl⟩
theorem cellsBool : Try.prog.cellsOf 4 = 1 := by kernel_rfl
theorem cellsHead : Try.prog.cellsOf 24 = 3 := by kernel_rfl
theorem cellsKeys : Try.prog.cellsOf 25 = 1 := by kernel_rfl
theorem cellsIns : Try.prog.cellsOf 28 = 1 := by kernel_rfl
theorem cellsLooks : Try.prog.cellsOf 29 = 1 := by kernel_rfl
theorem cellsMsg : Try.prog.cellsOf 31 = 39 := by kernel_rfl
theorem cut {α : Type} (cs : List α) (a k b : Nat) (h : a + k = b) : cs.drop a = (cs.drop a).take k ++ cs.drop b := by
  subst h
  rw [← List.drop_drop, List.take_append_drop]
section
variable {H : Type} {enc : TypeId × Value → H} {w : World} {base b0 : Nat} {held : Bool}
theorem open_msg_cells {fuel : Nat} {cs : List Value} {x : DataW H × List MemPlace} (hf : DataW.trod enc Try.prog w base (fun _ => true) held fuel 31 cs = some x) (hw : Wt 31 x.1) :
    ∃ q m, cs = Raw.cells q m ∧ MsgIn w w.heap.size q m ∧ m.Wf ∧ Sized m := by
  obtain ⟨xs, n, _, hx, hl, hlen, ht⟩ := DataW.trod_struct Try.underlying31 hf
  rw [cellsMsg] at hl
  obtain ⟨y0, y1, y2, y3, y4, y5, rfl⟩ := six_of hlen
  have hx1 : x.1 = .agg [y0.1, y1.1, y2.1, y3.1, y4.1, y5.1] := by simpa using congrArg Prod.fst hx
  rw [hx1] at hw
  obtain ⟨w2, w4, w5⟩ := wt_msg hw
  have t0 : DataW.trod enc Try.prog w base (fun _ => true) held n 4 ((cs.drop 0).take 1) = some y0 := by rw [← cellsBool]; exact ht 0 _ rfl
  have t1 : DataW.trod enc Try.prog w base (fun _ => true) held n 24 ((cs.drop 1).take 3) = some y1 := by rw [← cellsHead]; exact ht 1 _ rfl
  have t2 : DataW.trod enc Try.prog w base (fun _ => true) held n 25 ((cs.drop 4).take 1) = some y2 := by rw [← cellsKeys]; exact ht 2 _ rfl
  have t3 : DataW.trod enc Try.prog w base (fun _ => true) held n 27 ((cs.drop 5).take 32) = some y3 := by rw [← cellsHash]; exact ht 3 _ rfl
  have t4 : DataW.trod enc Try.prog w base (fun _ => true) held n 28 ((cs.drop 37).take 1) = some y4 := by rw [← cellsIns]; exact ht 4 _ rfl
  have t5 : DataW.trod enc Try.prog w base (fun _ => true) held n 29 ((cs.drop 38).take 1) = some y5 := by rw [← cellsLooks]; exact ht 5 _ rfl
  have hsplit : cs = (cs.drop 0).take 1 ++ ((cs.drop 1).take 3 ++ ((cs.drop 4).take 1 ++ ((cs.drop 5).take 32 ++ ((cs.drop 37).take 1 ++ (cs.drop 38).take 1)))) := by
    have e5 : cs.drop 38 = (cs.drop 38).take 1 := (List.take_of_length_le (by rw [List.length_drop]; omega)).symm
    rw [← e5, ← cut cs 37 1 38 rfl, ← cut cs 5 32 37 rfl, ← cut cs 4 1 5 rfl, ← cut cs 1 3 4 rfl, ← cut cs 0 1 1 rfl]
    rfl
  obtain ⟨b, hb, _⟩ := DataW.trod_bool Try.underlying4 t0
  obtain ⟨z0, z1, z2, k, _, _, s0, s1, s2⟩ := Go.Deep.trod_struct3 Try.underlying24 t1
  obtain ⟨c0, c1, c2, hc⟩ := three_of (cs := (cs.drop 1).take 3) (by simp; omega)
  rw [hc] at s0 s1 s2
  have s0' : DataW.trod enc Try.prog w base (fun _ => true) held k 5 [c0] = some z0 := by simpa [cellsU8] using s0
  have s1' : DataW.trod enc Try.prog w base (fun _ => true) held k 5 [c1] = some z1 := by simpa [cellsU8] using s1
  have s2' : DataW.trod enc Try.prog w base (fun _ => true) held k 5 [c2] = some z2 := by simpa [cellsU8] using s2
  obtain ⟨i0, hi0, _, wi0⟩ := DataW.trod_int Try.underlying5 s0'
  obtain ⟨i1, hi1, _, wi1⟩ := DataW.trod_int Try.underlying5 s1'
  obtain ⟨i2, hi2, _, wi2⟩ := DataW.trod_int Try.underlying5 s2'
  obtain ⟨v2, hv2⟩ := one_of (cs := (cs.drop 4).take 1) (by simp; omega)
  obtain ⟨v4, hv4⟩ := one_of (cs := (cs.drop 37).take 1) (by simp; omega)
  obtain ⟨v5, hv5⟩ := one_of (cs := (cs.drop 38).take 1) (by simp; omega)
  rw [hv2] at t2
  rw [hv4] at t4
  rw [hv5] at t5
  obtain ⟨KA, kn, kc, ks, rfl, k1, k2, k3, k4, k5⟩ := open_keys t2 w2
  obtain ⟨hh, hh1, hh2, hh3⟩ := open_32 Try.underlying27 cellsHash t3
  obtain ⟨IA, ni, ic, is, rfl, n1, n2, n3, n4, n5⟩ := open_ins t4 w4
  obtain ⟨LA, ln, lc, ls, rfl, l1, l2, l3, l4, l5⟩ := open_looks t5 w5
  obtain rfl : c0 = .int .u8 i0 := by simpa using hi0
  obtain rfl : c1 = .int .u8 i1 := by simpa using hi1
  obtain rfl : c2 = .int .u8 i2 := by simpa using hi2
  refine ⟨⟨KA, kn, kc, IA, ni, ic, LA, ln, lc⟩, ⟨b, i0, i1, i2, ks, hh, is, ls⟩, ?_, ⟨hh2, k3, n3, l3, ⟨k1, k2⟩, ⟨n1, n2⟩, ⟨l1, l2⟩⟩,
    ⟨byte_wf wi0, byte_wf wi1, byte_wf wi2, k4, ⟨hh2, hh3⟩, fun i hi => (n4 i hi).1, fun l hl => (l4 l hl).1⟩, ⟨k5, n5, l5, fun i hi => (n4 i hi).2, fun l hl => (l4 l hl).2⟩⟩
  rw [hsplit, hb, hc, hv2, hh1, hv4, hv5]
  rfl
end
end Go.Proofs.Ytgdikmgmpleolaa

/-
  Of part OpenTx: what is needed here.
-/
namespace Go.Proofs.Ytgdikmgmpleolaa
open Go.ChangeShapes Go.WideShapes Go.RowKit
set_option linter.unusedVariables false
theorem SigsIn.of_at {w : World} {B : Nat} {A : Option Addr} {n : Nat} {l : List (List Int)} (hn : l.length = n) (h : ∀ (i : Nat) x, l[i]? = some x → x.length = 64 ∧ ∃ a, A = some a ∧ a.block < B ∧ ∀ j u, (bv x)[j]? = some u → w.cell? (a.add (i * 64 + j)) = some u) : SigsIn w B A n l := by
  have he : ∀ k ∈ l, k.length = 64 := fun k hk => by
    obtain ⟨i, hi, rfl⟩ := List.getElem_of_mem hk
    exact (h i _ (List.getElem?_eq_getElem hi)).1
  have hf : l.flatten.length = n * 64 := by
    rw [← hn]
    clear hn h
    induction l with
    | nil => rfl
    | cons y r ih =>
      have h1 := ih (fun k hk => he k (by simp [hk]))
      have h2 := he y (by simp)
      simp only [List.flatten_cons, List.length_append, List.length_cons, h1, h2]
      omega
  refine ⟨hn, he, ⟨by rw [bv_length]; exact hf, fun i u hu => ?_⟩⟩
  have hi := (List.getElem?_eq_some_iff.1 hu).1
  rw [bv_length, hf] at hi
  have hk : i / 64 < l.length := by omega
  obtain ⟨h1, a, rfl, h2, h3⟩ := h (i / 64) _ (List.getElem?_eq_getElem hk)
  refine ⟨_, rfl, h2, ?_⟩
  have hlt : i % 64 < (bv l[i / 64]).length := by rw [bv_length, h1]; omega
  obtain ⟨u', hu'⟩ : ∃ u', (bv l[i / 64])[i % 64]? = some u' := ⟨_, List.getElem?_eq_getElem hlt⟩
  have h4 := h3 _ _ hu'
  rw [show i / 64 * 64 + i % 64 = i by omega] at h4
  rw [h4]
  rw [bv_getElem?] at hu hu'
  obtain ⟨z', hz', rfl⟩ : ∃ z, (l[i / 64])[i % 64]? = some z ∧ u' = .int .u8 z := by
    cases hq : (l[i / 64])[i % 64]? with
    | none => rw [hq] at hu'; simp at hu'
    | some z => rw [hq] at hu'; exact ⟨z, rfl, by simpa using hu'.symm⟩
  have h5 := flatten_at 64 l (i / 64) _ (fun i y hy => he y (List.mem_of_getElem? hy)) (List.getElem?_eq_getElem hk) (i % 64) z' hz'
  rw [show i / 64 * 64 + i % 64 = i by omega] at h5
  rw [h5] at hu
  exact hu
section
variable {H : Type} {enc : TypeId × Value → H} {w : World} {base b0 : Nat} {held : Bool}
theorem cellsSig : Try.prog.cellsOf 49 = 64 := by kernel_rfl
theorem bytesSig : Try.prog.bytesOf 49 = 64 := by kernel_rfl
theorem cellsSigs : Try.prog.cellsOf 22 = 1 := by kernel_rfl
theorem cellsTx : Try.prog.cellsOf 33 = 40 := by kernel_rfl
theorem open_64 {t : TypeId} {fuel : Nat} {cs : List Value} {x : DataW H × List MemPlace} (ht : Try.prog.underlying t = some (.array 64 5)) (hc : Try.prog.cellsOf t = 64) (h : DataW.trod enc Try.prog w base (fun _ => true) held fuel t cs = some x) :
    ∃ l : List Int, cs = bv l ∧ l.length = 64 ∧ AllBytes l := by
  obtain ⟨xs, m, _, _, hl, hxs, hat⟩ := DataW.trod_array ht h
  obtain ⟨l, hll, hp⟩ := list_of (α := Int) (p := fun i z => IsByte z ∧ cs[i]? = some (.int .u8 z)) 64 fun i hi => by
    have h1 := hat i hi
    have hx : xs[i]? = some xs[i] := List.getElem?_eq_getElem (by omega)
    rw [cellsU8, hx] at h1
    obtain ⟨z, hz, _, hwz⟩ := DataW.trod_int Try.underlying5 h1
    refine ⟨z, byte_wf hwz, ?_⟩
    have := congrArg List.head? hz
    simpa [List.head?_take] using this
  rw [hc] at hl
  refine ⟨l, List.ext_getElem? fun i => ?_, hll, fun z hz => ?_⟩
  · by_cases hi : i < 64
    · have e := List.getElem?_eq_getElem (l := l) (i := i) (by omega)
      rw [bv_getElem?, e, (hp i _ e).2]
      rfl
    · rw [List.getElem?_eq_none (by omega), List.getElem?_eq_none (by rw [bv_length]; omega)]
  · obtain ⟨i, hi, rfl⟩ := List.getElem_of_mem hz
    exact (hp i _ (List.getElem?_eq_getElem hi)).1
theorem open_sigs {fuel : Nat} {v : Value} {x : DataW H × List MemPlace} (h : DataW.trod enc Try.prog w base (fun _ => true) held fuel 22 [v] = some x) (hw : Wt 22 x.1) :
    ∃ A n c l, v = .slice A n c ∧ n ≤ c ∧ c ≤ maxLen ∧ SigsIn w w.heap.size A n l ∧ (∀ k ∈ l, k.length = 64 ∧ AllBytes k) ∧ l.length ≤ 140737488355328 := by
  obtain ⟨A, n, c, hcs, h1, h2, h3, h4⟩ := open_sl Try.underlying22 (by rw [cellsSig]; omega) h hw
  obtain rfl : v = .slice A n c := by simpa using hcs
  rw [bytesSig] at h3
  have := reach47
  obtain ⟨l, hl, hp⟩ := list_of (α := List Int) (p := fun i z => (z.length = 64 ∧ AllBytes z) ∧ ∃ a, A = some a ∧ a.block < w.heap.size ∧ ∀ j u, (bv z)[j]? = some u → w.cell? (a.add (i * 64 + j)) = some u) n fun i hi => by
    obtain ⟨a, cs', y, m, e1, e2, e3, e4, e5, _⟩ := h4 i hi
    obtain ⟨z, rfl, hz, hz'⟩ := open_64 Try.underlying49 cellsSig e5
    rw [cellsSig] at e4
    exact ⟨z, ⟨hz, hz'⟩, a, e1, e2, e4⟩
  subst hl
  refine ⟨A, l.length, c, l, rfl, h1, h2, SigsIn.of_at rfl fun i x hx => ⟨(hp i x hx).1.1, (hp i x hx).2⟩, fun k hk => ?_, by omega⟩
  obtain ⟨i, hi, rfl⟩ := List.getElem_of_mem hk
  exact (hp i _ (List.getElem?_eq_getElem hi)).1
theorem wt_tx {y0 y1 : DataW H} (h : Wt 33 (.agg [y0, y1])) : Wt 22 y0 ∧ Wt 31 y1 := by
  refine ⟨fun n hn => h n ?_, fun n hn => h n ?_⟩ <;> simp only [DataW.weights, Try.underlying33] <;> simp [DataW.weightsEach, hn]
theorem open_tx_cells {fuel : Nat} {cs : List Value} {x : DataW H × List MemPlace} (hf : DataW.trod enc Try.prog w base (fun _ => true) held fuel 33 cs = some x) (hw : Wt 33 x.1) :
    ∃ s t, cs = TRaw.cells s t ∧ TxIn w w.heap.size s t ∧ t.Wf ∧ Sized t.m ∧ t.sigs.length ≤ 140737488355328 := by
  obtain ⟨xs, n, _, hx, hl, hlen, ht⟩ := DataW.trod_struct Try.underlying33 hf
  rw [cellsTx] at hl
  obtain ⟨y0, y1, rfl⟩ : ∃ a b, xs = [a, b] := by
    match xs, hlen with
    | [a, b], _ => exact ⟨a, b, rfl⟩
  have hx1 : x.1 = .agg [y0.1, y1.1] := by simpa using congrArg Prod.fst hx
  rw [hx1] at hw
  obtain ⟨w0, w1⟩ := wt_tx hw
  have t0 : DataW.trod enc Try.prog w base (fun _ => true) held n 22 ((cs.drop 0).take 1) = some y0 := by rw [← cellsSigs]; exact ht 0 _ rfl
  have t1 : DataW.trod enc Try.prog w base (fun _ => true) held n 31 ((cs.drop 1).take 39) = some y1 := by rw [← cellsMsg]; exact ht 1 _ rfl
  have hsplit : cs = (cs.drop 0).take 1 ++ (cs.drop 1).take 39 := by
    have e5 : cs.drop 1 = (cs.drop 1).take 39 := (List.take_of_length_le (by rw [List.length_drop]; omega)).symm
    rw [← e5, ← cut cs 0 1 1 rfl]
    rfl
  obtain ⟨v0, hv0⟩ := one_of (cs := (cs.drop 0).take 1) (by simp; omega)
  rw [hv0] at t0
  obtain ⟨SA, sn, sc, ss, rfl, k1, k2, k3, k4, k5⟩ := open_sigs t0 w0
  obtain ⟨q, m, e1, e2, e3, e4⟩ := open_msg_cells t1 w1
  refine ⟨⟨SA, sn, sc, q⟩, ⟨ss, m⟩, ?_, ⟨k3, ⟨k1, k2⟩, e2⟩, ⟨k4, e3⟩, e4, k5⟩
  rw [hsplit, hv0, e1]
  rfl
set_option maxRecDepth 100000 in
theorem open_tx {r : Reach} {v : Value} {d : DataW H} {p : List MemPlace} (hv : Value.okWide Try.prog w r b0 33 v) (h : DataW.Trod enc Try.prog w base (fun _ => true) held 33 v d p) (hw : Wt 33 d) :
    ∃ s t, v = .agg (TRaw.cells s t).toArray ∧ TxIn w w.heap.size s t ∧ t.Wf ∧ Sized t.m ∧ t.sigs.length ≤ 140737488355328 := by
  simp only [Value.okWide, Try.underlying33] at hv
  obtain ⟨arr, rfl, h2, _⟩ := hv
  obtain ⟨fuel, hf⟩ := h
  obtain ⟨s, t, h3, h4⟩ := open_tx_cells hf hw
  refine ⟨s, t, ?_, h4⟩
  have : arr.toList = TRaw.cells s t := h3
  rw [← this]
end
end Go.Proofs.Ytgdikmgmpleolaa

/-
  Of part Rules: what is needed here.
-/
namespace Go.Proofs.Ytgdikmgmpleolaa
open Go.RowKit
set_option linter.unusedVariables false
/-- a lookup's indices -/
def ixs (l : LLook) : Nat := l.wr.length + l.rd.length
/-- all keys -/
def tot (m : LMsg) : Nat := m.keys.length + lookSize m.looks
/-- an instruction that names a key that there is not -/
def astray (tt : Nat) (a : Int) : Bool := decide ((tt : Int) ≤ a)
def pstray (own : Nat) (p : Int) : Bool := decide (p = 0 ∨ (own : Int) ≤ p)
def stray (own tt : Nat) (i : LIn) : Bool := pstray own i.p || i.acc.any (astray tt)
def noix (l : LLook) : Bool := decide (ixs l = 0)
/-- the rules, broken -/
def b1 (x : LTx) : Bool := decide (x.m.s = 0 ∨ (x.sigs.length : Int) ≠ x.m.s)
def b2 (m : LMsg) : Bool := decide (m.s ≤ m.r ∨ (m.keys.length : Int) < m.s + m.o)
def b3 (m : LMsg) : Bool := m.looks.any noix
def b4 (m : LMsg) : Bool := decide (64 < tot m)
def b5 (m : LMsg) : Bool := m.ins.any (stray m.keys.length (tot m))
def b6 (m : LMsg) : Bool := decide (¬ m.keys.Nodup)
/-- the rule that is broken first -/
def chk (x : LTx) : Int := if b1 x then 6 else if b2 x.m then 7 else if b3 x.m then 10 else if b4 x.m then 3 else if b5 x.m then 8 else if b6 x.m then 9 else 0
/-- of what the rules look at there is not much -/
structure Small (m : LMsg) : Prop where
  keys : m.keys.length ≤ 4000
  ins : m.ins.length ≤ 4000
  looks : m.looks.length ≤ 4000
  sum : lookSize m.looks ≤ 4000
  acc : ∀ i ∈ m.ins, i.acc.length ≤ 4000
theorem Small.of {m : LMsg} (h : total m < 3000) : Small m := by
  unfold total at h
  refine ⟨by omega, by omega, by omega, by omega, fun i hi => ?_⟩
  have := size_mem hi
  omega
theorem Small.wr {m : LMsg} (h : Small m) {l : LLook} (hl : l ∈ m.looks) : l.wr.length ≤ 4000 ∧ l.rd.length ≤ 4000 := by
  have := lsize_mem hl
  have := h.sum
  omega
theorem Small.tot {m : LMsg} (h : Small m) : tot m ≤ 8000 := by
  have := h.keys
  have := h.sum
  unfold Proofs.Ytgdikmgmpleolaa.tot
  omega
theorem lookSize_take {l : List LLook} (k : Nat) : lookSize (l.take k) ≤ lookSize l := by
  have e : lookSize l = lookSize (l.take k) + lookSize (l.drop k) := by
    unfold lookSize
    rw [← List.sum_append, ← List.map_append, List.take_append_drop]
  omega
set_option maxRecDepth 100000 in
set_option maxHeartbeats 400000 in
theorem indices_ (x : LLook) (A1 A2 : Option Addr) (c1 c2 : Nat) (w : World) (ht : x.tab.length = 32) (h1 : x.wr.length ≤ 4000) (h2 : x.rd.length ≤ 4000) :
    Calls Try.prog 20 #[.agg (bv x.tab ++ [Value.slice A1 x.wr.length c1, Value.slice A2 x.rd.length c2]).toArray] w fun e w' => e = .returned (.int .i64 (ixs x : Nat)) ∧ Below w.heap.size w w' := by
  have hr := Row.new w 44 (bv x.tab ++ [Value.slice A1 x.wr.length c1, Value.slice A2 x.rd.length c2])
  obtain ⟨e32, e33⟩ := look_cells hr ht
  have hb0 := (Below.refl w.heap.size w).alloc (Nat.le_refl _) (.cells (bv x.tab ++ [Value.slice A1 x.wr.length c1, Value.slice A2 x.rd.length c2]).toArray 44)
  have HX : Hid (((x.wr.length : Nat) : Int) + ((x.rd.length : Nat) : Int) = ((ixs x : Nat) : Int)) := Lib.hid (by unfold ixs; omega)
  generalize (bv x.tab ++ [Value.slice A1 x.wr.length c1, Value.slice A2 x.rd.length c2]) = cs at *
  have HB := Lib.hid hb0
  clear hr hb0 ht
  generalize x.wr.length = n1 at *
  generalize x.rd.length = n2 at *
  go_enter Try.func20, Try.ntmps20
  go_wp2
  go_ret
  exact ⟨by rw [← HX.out]; rfl, HB.out⟩
/-- the tx's cells in a block -/
structure TxRow (w : World) (g : Nat) (s : TRaw) (x : LTx) : Prop where
  c0 : w.cell? ⟨g, 0, none⟩ = some (.slice s.SA s.sn s.sc)
  c2 : w.cell? ⟨g, 2, none⟩ = some (.int .u8 x.m.s)
  c3 : w.cell? ⟨g, 3, none⟩ = some (.int .u8 x.m.r)
  c4 : w.cell? ⟨g, 4, none⟩ = some (.int .u8 x.m.o)
  c5 : w.cell? ⟨g, 5, none⟩ = some (.slice s.q.KA s.q.kn s.q.kc)
  c38 : w.cell? ⟨g, 38, none⟩ = some (.slice s.q.IA s.q.n s.q.ic)
  c39 : w.cell? ⟨g, 39, none⟩ = some (.slice s.q.LA s.q.ln s.q.lc)
theorem TxRow.of {w : World} {g t : Nat} {s : TRaw} {x : LTx} (hr : Row w g t (s.cells x)) (h : x.m.recent.length = 32) : TxRow w g s x :=
  ⟨(hr.cell 0).trans rfl, (hr.cell 2).trans rfl, (hr.cell 3).trans rfl, (hr.cell 4).trans rfl, (hr.cell 5).trans rfl,
    (hr.cell 38).trans ((tcells_m 37).trans (cells_37 h)), (hr.cell 39).trans ((tcells_m 38).trans (cells_38 h))⟩
theorem TxRow.keep {w w' : World} {g B : Nat} {s : TRaw} {x : LTx} (h : TxRow w g s x) (hg : g < B) (hb : Below B w w') : TxRow w' g s x :=
  ⟨(hb.cell (p := ⟨g, 0, none⟩) hg).trans h.c0, (hb.cell (p := ⟨g, 2, none⟩) hg).trans h.c2, (hb.cell (p := ⟨g, 3, none⟩) hg).trans h.c3, (hb.cell (p := ⟨g, 4, none⟩) hg).trans h.c4,
    (hb.cell (p := ⟨g, 5, none⟩) hg).trans h.c5, (hb.cell (p := ⟨g, 38, none⟩) hg).trans h.c38, (hb.cell (p := ⟨g, 39, none⟩) hg).trans h.c39⟩
set_option maxRecDepth 100000 in
set_option maxHeartbeats 1000000 in
theorem total_ (s : TRaw) (x : LTx) (B : Nat) (w : World) (hm : TxIn w B s x) (hB : B ≤ w.heap.size) (hs : Small x.m) :
    Calls Try.prog 10 #[.agg (s.cells x).toArray] w fun e w' => e = .returned (.int .i64 (tot x.m : Nat)) ∧ Below w.heap.size w w' := by
  have rb := TxRow.of (Row.new w 33 (s.cells x)) hm.m.recent
  have hb0 := (Below.refl w.heap.size w).alloc (Nat.le_refl _) (.cells (s.cells x).toArray 33)
  generalize s.cells x = cs at *
  obtain ⟨d0, d2, d3, d4, d5, d38, d39⟩ := rb
  obtain ⟨SA, sn, sc, KA, kn, kc, IA, n, ic, LA, ln, lc⟩ := s
  dsimp only at d0 d5 d38 d39
  have lk := hm.m.keys.len
  have ll := hm.m.looks.len
  dsimp only at lk ll
  have k1 := hs.keys
  have k2 := hs.looks
  rw [lk] at k1
  rw [ll] at k2
  have HM := Lib.hid (hm.below (hb0.mono hB))
  have HB0 := Lib.hid hb0
  have HT : Hid (tot x.m = kn + lookSize x.m.looks) := Lib.hid (by unfold tot; rw [lk])
  have HS := Lib.hid hs
  have HLL := Lib.hid ll
  clear d0 d2 d3 d4 d38 hm hb0 lk ll hs
  go_enter Try.func10, Try.ntmps10
  go_wp2
  generalize (w.alloc (Obj.cells cs.toArray 33)) = W0 at *
  go_loopw [3, 14] (fun nn i wr => ∃ (k s : Nat), k ≤ ln ∧ i = .int .i64 k ∧ nn = .int .i64 s ∧ s = kn + lookSize (x.m.looks.take k) ∧ s ≤ 8000 ∧ Below W0.heap.size W0 wr) (fun nn i _ => ln - (intOf i).toNat)
  case atStart => exact ⟨0, kn, Nat.zero_le _, rfl, rfl, by simp [lookSize], by omega, Below.refl _ _⟩
  case round =>
    obtain ⟨k, s, hk, rfl, rfl, hsum, hs9, hbw⟩ := hrel
    have HSU := Lib.hid hsum
    have HBW := Lib.hid hbw
    clear hsum hbw
    by_cases hlt : k < ln
    · obtain ⟨a, y, va, vd, rfl, hab, hx, hat⟩ := (HM.out.below (HBW.out.mono (Nat.le_trans hB HB0.out.size))).m.looks.get hlt
      have hx2 := HS.out.wr (List.mem_of_getElem? hx)
      have hz := lookSize_succ hx
      have hz2 := lookSize_take (l := x.m.looks) (k + 1)
      have hz3 := HS.out.sum
      obtain ⟨A1, c1, rfl, _, _, _⟩ := hat.wr.is
      obtain ⟨A2, c2, rfl, _, _, _⟩ := hat.rd.is
      have HI := Lib.hid (fun w => indices_ y A1 A2 c1 c2 w hat.len hx2.1 hx2.2)
      have HL := Lib.hid (size_lk hat.len (Value.slice A1 y.wr.length c1) (Value.slice A2 y.rd.length c2))
      have H1 := Lib.hid (lookCells_one (tab := y.tab) hat.wr hat.rd)
      have HSZ := Lib.hid hat.size
      have HAT := Lib.hid hat.cells
      have HZ : Hid (s + ixs y = kn + lookSize (x.m.looks.take (k + 1))) := Lib.hid (by have := HSU.out; unfold ixs; omega)
      have hz4 : s + ixs y ≤ 8000 := by have := HZ.out; omega
      generalize (bv y.tab ++ [Value.slice A1 y.wr.length c1, Value.slice A2 y.rd.length c2]) = lc' at *
      clear hx hat hx2 hz hz2 hz3
      go_wp2_with (first
        | ((with_reducible show wpList _ _ _ ({ dst := some 17, op := Op.load _ _, type := _, pos := _, after := _, guard := _ } :: _) _ _); go_must (refine wpList_load_at rfl 44 (.tmp 16) rfl (a.add (k * 34)) lc' _ Try.underlying44 rfl HL.out HAT.out ?_ ?_; go_simp))
        | ((with_reducible show wpList _ _ _ ({ dst := none, op := Op.store 44 _ _, type := _, pos := _, after := _, guard := _ } :: _) _ _); go_must (refine wpList_store_new rfl 44 (.tmp 5) (.tmp 17) rfl lc' HL.out H1.out (by rw [HSZ.out]; rfl) ?_ ?_ ?_; go_simp; go_simp; intro w1 hr1 hb1 hz1; have R1 := Lib.hid hr1; have B1 := Lib.hid hb1; clear hr1 hb1 hz1))
        | ((with_reducible show wpList _ _ _ ({ dst := some 19, op := Op.load _ _, type := _, pos := _, after := _, guard := _ } :: _) _ _); go_must (refine wpList_load_whole rfl 44 (.tmp 5) rfl _ 44 lc' _ Try.underlying44 rfl HL.out R1.out ?_ ?_; go_simp)))
      refine (HI.out _).mono ?_
      rintro e w2 ⟨rfl, hb2⟩
      have HB2 := Lib.hid (HBW.out.trans ((B1.out.trans (hb2.mono B1.out.size)).mono HBW.out.size))
      clear hb2 B1 R1
      go_wp2_with fail
      go_roundw
      case rel => exact ⟨k + 1, s + ixs y, by omega, by go_num, by go_num, HZ.out, hz4, HB2.out⟩
      case measure => simp [intOf]; omega
    · have hkn : k = ln := by omega
      have HE : Hid (tot x.m = s) := Lib.hid (by
        have h1 := HSU.out
        rw [hkn, List.take_of_length_le (by rw [HLL.out]; exact Nat.le_refl _)] at h1
        rw [HT.out, h1])
      clear hkn HSU
      go_wp2
      go_ret
      exact ⟨by simp [HE.out], HB0.out.trans (HBW.out.mono HB0.out.size)⟩
end Go.Proofs.Ytgdikmgmpleolaa
