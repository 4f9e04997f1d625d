/-
  PacketsGet: for every input the call returns true, and each argument reads behind it as it read before. No condition.
  PacketsGet: the walk.
  ferryhouselaw04.lives: the chapter's example.
  'append(v, x...)' onto a row of the call's own: what v shows stays.
  ferryhouseref04.Whole.
  ferryhouseref04.Get.
  What Get and Whole leave, in one form: the zero transaction where they fail.
  packets.Whole.
  Book.Tx: a transaction's lists, page by page.
  A transaction of the call's own: its lists' pages.
-/
import Derived.Test.YtolijdbdpnbchaaBookMsg
import Derived.Test.YtolijdbdpnbchaaGetTx
import Derived.Test.YtolijdbdpnbchaaSameTx
import Derived.Test.YtolijdbdpnbchaaRefGetMsg
import Derived.Test.YtolijdbdpnbchaaRefGet
import Derived.Test.YtolijdbdpnbchaaMany
import Derived.Laws.Append
import Derived.Laws.AppendOwn
import Derived.Test.YtolijdbdpnbchaaPutTx
import Derived.Test.YtolijdbdpnbchaaBookK
import Derived.Test.YtolijdbdpnbchaaSame
import Derived.Test.YtolijdbdpnbchaaLonger
import Derived.Test.YtolijdbdpnbchaaCameIn

namespace Go.Proofs.Ytolijdbdpnbchaa
open Go.RowKit
set_option linter.unusedVariables false

set_option maxRecDepth 100000 in
set_option maxHeartbeats 2000000 in
theorem bookTx (p base B : Nat) (ks : List (Sl × Kd)) (C ms : List Value) (S K I L : Sl) (iv lv : Nat → Sl × Sl) (w0 w : World) (h : Bk w0 p base ks w)
    (h0 : C[0]? = some S.val) (hm : ∀ j, C[1 + j]? = ms[j]?) (hl : ms.length = 39)
    (h4 : ms[4]? = some K.val) (h37 : ms[37]? = some I.val) (h38 : ms[38]? = some L.val) (hI : TwoAt w B 3 1 I iv) (hL : TwoAt w B 34 32 L lv) (hB : B ≤ base) (hp : B ≤ p) (hn : ks.length + 4 + 2 * I.n + 2 * L.n ≤ 1000000) :
    Calls Try.prog 15 #[.pointer (some ⟨p, 0, none⟩), .agg C.toArray] w fun e w' => e = .returned (.tuple #[]) ∧ Bk w0 p base (ks ++ ([(S, Kd.s)] ++ pagesOf K iv I.n lv L.n)) w' := by
  have HW := Lib.hid h
  have hplt := h.plt
  have H1 := Lib.hid ((h.alloc (.cells C.toArray 33)).start)
  have RM := Lib.hid (Row.new w 33 C)
  have hBs : B ≤ w.heap.size := by
    obtain ⟨P, A, c, _, _, h3⟩ := h
    have := h3.lt
    omega
  have HI := Lib.hid (hI.keep ((Below.refl B w).alloc hBs (.cells C.toArray 33)))
  have HL := Lib.hid (hL.keep ((Below.refl B w).alloc hBs (.cells C.toArray 33)))
  have HM := Lib.hid hm
  have H4 := Lib.hid (And.intro h4 (And.intro h37 h38))
  have HB := Lib.hid (And.intro hB hp)
  have HN := Lib.hid hn
  have HSM := Lib.hid (show (Try.prog.info? 31).map (·.size) = some ms.length by rw [size_msg, hl])
  have c0 : (w.alloc (.cells C.toArray 33)).cell? ⟨w.heap.size, 0, none⟩ = some S.val := by rw [RM.out.cell]; exact h0
  have hkn : ks.length ≤ 1000000 := by omega
  have HTR : Hid (∀ ks' w', Bk (w.alloc (.cells C.toArray 33)) p base ks' w' → Bk w0 p base ks' w') := Lib.hid fun ks' w' h' => (HW.out.alloc _).trans h'
  clear h hI hL h4 h37 h38 hB hp hm hn h0 hl
  go_enter Try.func15, Try.ntmps15
  unfold Sl.val at c0
  go_wp2_with fail
  refine (bkSigs p base ks S _ _ H1.out hkn).mono ?_
  rintro e w1 ⟨rfl, hb1⟩
  have HB1 := Lib.hid hb1
  clear hb1 c0 H1
  generalize w.alloc (.cells C.toArray 33) = W at *
  obtain ⟨mb, hmb⟩ : ∃ mb, w.heap.size = mb := ⟨_, rfl⟩
  rw [hmb] at RM ⊢
  have hne : mb ≠ p := by omega
  have R1 := Lib.hid (HB1.out.row RM.out hne (by decide))
  clear hplt hmb
  go_wp2_with (((with_reducible show wpList _ _ _ ({ dst := some 10, op := Op.load _ _, type := _, pos := _, after := _, guard := _ } :: _) _ _); go_must (refine wpList_load_at rfl 31 (.tmp 9) rfl ⟨mb, 1, none⟩ ms _ Try.underlying31 rfl HSM.out (fun j u hu => by rw [addr_row, R1.out.cell, HM.out]; exact hu) ?_ ?_; go_simp)))
  refine (bookMessage p base B (ks ++ [(S, Kd.s)]) ms K I L iv lv W w1 HB1.out H4.out.1 H4.out.2.1 H4.out.2.2 (HI.out.keep (HB1.out.one.below HB.out.1 HB.out.2)) (HL.out.keep (HB1.out.one.below HB.out.1 HB.out.2)) HB.out.1 HB.out.2 (by have := HN.out; rw [List.length_append]; simp; omega)).mono ?_
  rintro e w2 ⟨rfl, hb2⟩
  have HB2 := Lib.hid hb2
  clear hb2
  go_wp2_with fail
  go_end0
  refine ⟨rfl, HTR.out _ _ ?_⟩
  have := HB2.out
  rw [List.append_assoc] at this
  exact this

/-- a transaction's pages -/
def txPages (S K : Sl) (iv : Nat → Sl × Sl) (n : Nat) (lv : Nat → Sl × Sl) (m : Nat) : List (Sl × Kd) := [(S, Kd.s)] ++ pagesOf K iv n lv m

/-- a transaction of the call's own, page by page -/
structure TxPages (w : World) (lo hi : Nat) (s : TRaw) (x : LTx) (S K I L : Sl) (iv lv : Nat → Sl × Sl) : Prop where
  sg : Value.slice s.SA s.sn s.sc = S.val
  k : Value.slice s.q.KA s.q.kn s.q.kc = K.val
  i : Value.slice s.q.IA s.q.n s.q.ic = I.val
  l : Value.slice s.q.LA s.q.ln s.q.lc = L.val
  ti : TwoAt w hi 3 1 I iv
  tl : TwoAt w hi 34 32 L lv
  fits : ∀ y ∈ txPages S K iv I.n lv L.n, SlFit w y
  rise : (blocks (txPages S K iv I.n lv L.n)).Pairwise (· < ·)
  low : ∀ g ∈ blocks (txPages S K iv I.n lv L.n), lo ≤ g ∧ g < hi
  n : I.n = x.m.ins.length ∧ L.n = x.m.looks.length

theorem TxV.pages {w : World} {lo hi : Nat} {s : TRaw} {x : LTx} (h : TxV w lo hi s x) : ∃ S K I L iv lv, TxPages w lo hi s x S K I L iv lv := by
  obtain ⟨mid, h1, h2, h3, h4⟩ := h.is
  obtain ⟨K, I, L, iv, lv, hp⟩ := h4.pages
  obtain ⟨S, hS, _, hx0, hx1⟩ := own_sl h3.own
  have fS : SlFit w (S, Kd.s) := by
    obtain ⟨A, n, c⟩ := S
    cases A with
    | none => exact hx0 rfl
    | some g =>
      obtain ⟨b1, b2, _, b4, b5, cur, b6, b7⟩ := hx1 g rfl
      exact ⟨b4, b5, cur, b6, Nat.le_of_eq b7.symm, fun _ => b7⟩
  have gS : ∀ g, S.A = some g → lo ≤ g ∧ g < mid := fun g hg => ⟨(hx1 g hg).1, h3.lt g (hx1 g hg).2.2.1⟩
  refine ⟨S, K, I, L, iv, lv, hS, hp.k, hp.i, hp.l, hp.ti, hp.tl, fun y hy => ?_, ?_, fun g hg => ?_, hp.n⟩
  · rcases List.mem_append.1 hy with hy | hy
    · rw [List.mem_singleton.1 hy]; exact fS
    · exact hp.fits y hy
  · unfold txPages
    rw [blocks_app]
    exact pair_app (m := mid) (pair_one _) hp.rise (fun g hg => (gS g (blocks_one _ g hg)).2) fun g hg => (hp.low g hg).1
  · unfold txPages at hg
    rw [blocks_app] at hg
    rcases List.mem_append.1 hg with hg | hg
    · have := gS g (blocks_one _ g hg)
      omega
    · have := hp.low g hg
      omega

/-- the zero transaction has no pages to speak of -/
theorem zPages (w : World) (lo hi : Nat) : TxPages w lo hi zRaw zTx ⟨none, 0, 0⟩ ⟨none, 0, 0⟩ ⟨none, 0, 0⟩ ⟨none, 0, 0⟩ (fun _ => (⟨none, 0, 0⟩, ⟨none, 0, 0⟩)) (fun _ => (⟨none, 0, 0⟩, ⟨none, 0, 0⟩)) := by
  refine ⟨rfl, rfl, rfl, rfl, fun i hi => absurd hi (Nat.not_lt_zero i), fun i hi => absurd hi (Nat.not_lt_zero i), fun y hy => ?_, ?_, fun g hg => ?_, rfl, rfl⟩
  · have hy' : y ∈ [((⟨none, 0, 0⟩ : Sl), Kd.s), (⟨none, 0, 0⟩, Kd.k)] := hy
    simp only [List.mem_cons, List.not_mem_nil, or_false] at hy'
    rcases hy' with rfl | rfl <;> exact ⟨rfl, rfl⟩
  · exact List.Pairwise.nil
  · cases hg

theorem TwoAt.stay {w w' : World} {B size o : Nat} {x : Sl} {f : Nat → Sl × Sl} (h : TwoAt w B size o x f) (hk : ∀ a : Addr, a.block < B → w'.cell? a = w.cell? a) : TwoAt w' B size o x f := fun i hi => by
  obtain ⟨g, h1, h2, h3, h4⟩ := h i hi
  exact ⟨g, h1, h2, (hk _ h2).trans h3, (hk _ h2).trans h4⟩
theorem TxPages.below {w w' : World} {lo hi : Nat} {s : TRaw} {x : LTx} {S K I L : Sl} {iv lv : Nat → Sl × Sl} (h : TxPages w lo hi s x S K I L iv lv) (hb : Below hi w w') : TxPages w' lo hi s x S K I L iv lv :=
  ⟨h.sg, h.k, h.i, h.l, h.ti.keep hb, h.tl.keep hb, fun y hy => (h.fits y hy).keep fun g hg => hb.block g (h.low g (List.mem_filterMap.2 ⟨y, hy, hg⟩)).2, h.rise, h.low, h.n⟩

/-- a transaction of the call's own goes into a book -/
theorem bookTxV (p base lo hi : Nat) (ks : List (Sl × Kd)) (s : TRaw) (x : LTx) (S K I L : Sl) (iv lv : Nat → Sl × Sl) (w0 w : World) (h : Bk w0 p base ks w) (hr : x.m.recent.length = 32)
    (hp : TxPages w lo hi s x S K I L iv lv) (hb : hi ≤ base) (hbp : hi ≤ p) (hn : ks.length + 4 + 2 * x.m.ins.length + 2 * x.m.looks.length ≤ 1000000) :
    Calls Try.prog 15 #[.pointer (some ⟨p, 0, none⟩), .agg (s.cells x).toArray] w fun e w' => e = .returned (.tuple #[]) ∧ Bk w0 p base (ks ++ txPages S K iv I.n lv L.n) w' := by
  refine bookTx p base hi ks (s.cells x) (s.q.cells x.m) S K I L iv lv w0 w h ?_ (tcells_m (s := s) (x := x)) (cells_len hr) ?_ ?_ ?_ hp.ti hp.tl hb hbp (by rw [hp.n.1, hp.n.2]; exact hn)
  · rw [tcells_0, hp.sg]
  · rw [cells_4, hp.k]
  · rw [cells_37 hr, hp.i]
  · rw [cells_38 hr, hp.l]
end Go.Proofs.Ytolijdbdpnbchaa

namespace Go.Proofs.Ytolijdbdpnbchaa
open Go.RowKit
set_option linter.unusedVariables false

/-- what Whole leaves -/
def WholeDone (w : World) (zs : List Int) (e : Ending) (w' : World) : Prop :=
  (∃ x s lo, wTx zs = .ok x ∧ e = .returned (.tuple #[.agg (TRaw.cells s x).toArray, .int .i64 0]) ∧ w.heap.size ≤ lo ∧ TxV w' lo w'.heap.size s x ∧ Below w.heap.size w w') ∨
  (∃ c, wTx zs = .error c ∧ e = .returned (.tuple #[.agg tzero.toArray, .int .i64 c]) ∧ Below w.heap.size w w')

set_option maxRecDepth 100000 in
set_option maxHeartbeats 2000000 in
theorem whole_ (A : Option Addr) (n c B : Nat) (zs : List Int) (w : World) (hs : Sees w B A n (bv zs)) (hB : B ≤ w.heap.size) (hnc : n ≤ c) (hc : c ≤ maxLen) (hz : AllBytes zs) :
    Calls Try.prog 21 #[.slice A n c] w (WholeDone w zs) := by
  have hn : zs.length = n := by have := hs.len; rwa [bv_length] at this
  subst hn
  have hmx := hc
  unfold maxLen at hmx
  have r0 := Row.new w 33 tzero
  have b0 : Below w.heap.size w (w.alloc (.cells tzero.toArray 33)) := (Below.refl _ _).alloc (Nat.le_refl _) _
  have z0 : (w.alloc (.cells tzero.toArray 33)).heap.size = w.heap.size + 1 := by simp
  have HG := Lib.hid (gettx_ A zs.length c B zs (w.alloc (.cells tzero.toArray 33)) (hs.below (b0.mono hB)) (Nat.le_trans hB b0.size) hnc hc hz)
  have R0 := Lib.hid r0
  have B0 := Lib.hid b0
  have Z0 := Lib.hid z0
  have HZ := Lib.hid hz
  clear hs r0 b0 z0 hz
  obtain ⟨W, hW⟩ : ∃ W, W = w.alloc (.cells tzero.toArray 33) := ⟨_, rfl⟩
  go_enter Try.func21, Try.ntmps21
  go_upto_region 1 with fail
  have hX : ∀ c, c = tzero.toArray → w.alloc (.cells c 33) = W := by rintro _ rfl; exact hW.symm
  rw [hX]
  rotate_left
  · kernel_rfl
  rw [← hW] at HG R0 B0 Z0
  clear hW hX
  by_cases hbig : 1232 < zs.length
  · have HP : Hid (wTx zs = .error 3) := Lib.hid (by unfold wTx; rw [if_pos hbig])
    have hbig' : (1232 : Int) < zs.length := by omega
    go_wp2_with (((with_reducible show wpList _ _ _ ({ dst := none, op := Op.store 33 _ _, type := _, pos := _, after := _, guard := _ } :: _) _ _); go_must (refine wpList_store_whole rfl 33 (.tmp 2) (.tmp 10) rfl w.heap.size tzero tzero R0.out size_tz rfl tzero_one ?_ ?_ ?_; go_simp; (go_simp; kernel_rfl); intro w3 hr3 ht3; have R3 := Lib.hid hr3; have T3 := Lib.hid ht3; clear hr3 ht3)))
    refine bodyPost_ret (results_cell1 (h := rfl) _ w3 ⟨w.heap.size, 0, none⟩ _ _ (by rfl) (by rfl) (run_loadVar_row w3 w.heap.size 33 33 tzero.toArray (0, 0) _ R3.out.is Try.underlying33 rfl (by rw [List.size_toArray]; exact size_tz))) rfl ?_
    exact .inr ⟨_, HP.out, rfl, B0.out.trans (T3.out.below (Nat.le_refl _))⟩
  have hbig' : ¬ (1232 : Int) < zs.length := by omega
  go_wp2_with fail
  refine HG.out.mono ?_
  rintro e w2 (⟨x, r, s, lo, hp, rfl, hlo, hv, hb⟩ | ⟨x, hp, rfl, hb⟩)
  rotate_left
  · have hx := pTx_err HZ.out hp
    have HP : Hid (wTx zs = .error x) := Lib.hid (by unfold wTx; rw [if_neg hbig, hp])
    have HR2 := Lib.hid (R0.out.below hb R0.out.lt)
    have HB2 := Lib.hid (B0.out.trans (hb.mono B0.out.size))
    have HLT := Lib.hid (show w.heap.size < w2.heap.size by have := HR2.out.lt; exact this)
    clear hp hb HG
    rcases hx with rfl | rfl
    all_goals
      go_wp2_with (first
        | ((with_reducible show wpList _ _ _ ({ dst := none, op := Op.store 33 (.tmp 4) _, type := _, pos := _, after := _, guard := _ } :: _) _ _); go_must (refine wpList_store_new rfl 33 (.tmp 4) (.tmp 14) rfl tzero size_tz tzero_one rfl ?_ ?_ ?_; go_simp; go_simp; intro w3 hr3 hb3 hz3; have B3 := Lib.hid hb3; clear hr3 hb3 hz3))
        | ((with_reducible show wpList _ _ _ ({ dst := none, op := Op.store 33 (.tmp 2) _, type := _, pos := _, after := _, guard := _ } :: _) _ _); go_must (refine wpList_store_whole rfl 33 (.tmp 2) (.tmp 19) rfl w.heap.size tzero tzero (HR2.out.below B3.out HLT.out) size_tz rfl tzero_one ?_ ?_ ?_; go_simp; (go_simp; kernel_rfl); intro w4 hr4 ht4; have R4 := Lib.hid hr4; have T4 := Lib.hid ht4; clear hr4 ht4)))
      refine bodyPost_ret (results_cell1 (h := rfl) _ w4 ⟨w.heap.size, 0, none⟩ _ _ (by rfl) (by rfl) (run_loadVar_row w4 w.heap.size 33 33 tzero.toArray (0, 0) _ R4.out.is Try.underlying33 rfl (by rw [List.size_toArray]; exact size_tz))) rfl ?_
      exact .inr ⟨_, HP.out, rfl, (HB2.out.trans (B3.out.mono HB2.out.size)).trans (T4.out.below (Nat.le_refl _))⟩
  have hle := (front_tx _ _ _ hp).le
  have HR2 := Lib.hid (R0.out.below hb R0.out.lt)
  have HB2 := Lib.hid (B0.out.trans (hb.mono B0.out.size))
  have HLT := Lib.hid HR2.out.lt
  have HTX := Lib.hid hv
  have HSZ := Lib.hid (show (Try.prog.info? 33).map (·.size) = some (TRaw.cells s x).length by rw [size_tx, tcells_len hv.in_.m.recent])
  have HTL := Lib.hid (tcells_len (s := s) (x := x) hv.in_.m.recent)
  have HCO := Lib.hid (tcells_one (s := s) (x := x))
  have HLO := Lib.hid hlo
  have HP2 := Lib.hid hp
  obtain ⟨T, hT⟩ : ∃ T : Int, T = (zs.length : Int) - r.length := ⟨_, rfl⟩
  rw [← hT]
  have HT := Lib.hid hT
  obtain ⟨cs, hcs⟩ : ∃ cs, cs = TRaw.cells s x := ⟨_, rfl⟩
  have HCS := Lib.hid hcs
  rw [← hcs] at HSZ HTL HCO ⊢
  clear hcs hT hp hv hlo hb HG
  by_cases h0 : r.length = 0
  · have hT0 : ¬ T < zs.length := by have := HT.out; omega
    have HP : Hid (wTx zs = .ok x) := Lib.hid (by unfold wTx; rw [if_neg hbig, HP2.out]; dsimp only; rw [if_pos h0])
    go_wp2_with (first
      | ((with_reducible show wpList _ _ _ ({ dst := none, op := Op.store 33 (.tmp 4) _, type := _, pos := _, after := _, guard := _ } :: _) _ _); go_must (refine wpList_store_new rfl 33 (.tmp 4) (.tmp 14) rfl cs HSZ.out HCO.out (by rw [HTL.out]; rfl) ?_ ?_ ?_; go_simp; go_simp; intro w3 hr3 hb3 hz3; have R3 := Lib.hid hr3; have B3 := Lib.hid hb3; clear hr3 hb3 hz3))
      | ((with_reducible show wpList _ _ _ ({ dst := some 26, op := Op.load _ _, type := _, pos := _, after := _, guard := _ } :: _) _ _); go_must (refine wpList_load_whole rfl 33 (.tmp 4) rfl w2.heap.size 33 cs _ Try.underlying33 rfl HSZ.out R3.out ?_ ?_; go_simp))
      | ((with_reducible show wpList _ _ _ ({ dst := none, op := Op.store 33 (.tmp 2) _, type := _, pos := _, after := _, guard := _ } :: _) _ _); go_must (refine wpList_store_whole rfl 33 (.tmp 2) (.tmp 26) rfl w.heap.size tzero cs (HR2.out.below B3.out HLT.out) HSZ.out (by rw [HTL.out]; rfl) HCO.out ?_ ?_ ?_; go_simp; go_simp; intro w4 hr4 ht4; have R4 := Lib.hid hr4; have T4 := Lib.hid ht4; clear hr4 ht4)))
    refine bodyPost_ret (results_cell1 (h := rfl) _ w4 ⟨w.heap.size, 0, none⟩ _ _ (by rfl) (by rfl) (run_loadVar_row w4 w.heap.size 33 33 cs.toArray (0, 0) _ R4.out.is Try.underlying33 rfl (by rw [List.size_toArray]; exact HSZ.out))) rfl ?_
    refine .inl ⟨x, s, lo, HP.out, by rw [HCS.out]; rfl, ?_, ?_, (HB2.out.trans (B3.out.mono HB2.out.size)).trans (T4.out.below (Nat.le_refl _))⟩
    · exact Nat.le_trans B0.out.size HLO.out
    · refine (HTX.out.stay (w' := w4) (by rw [T4.out.size]; exact B3.out.size) fun k a b => (T4.out.block k ?_).trans (B3.out.block k b)).more (by rw [T4.out.size]; exact B3.out.size)
      have := Z0.out
      have := HLO.out
      omega
  · have hT0 : T < zs.length := by have := HT.out; omega
    have HP : Hid (wTx zs = .error 4) := Lib.hid (by unfold wTx; rw [if_neg hbig, HP2.out]; dsimp only; rw [if_neg h0])
    go_wp2_with (first
      | ((with_reducible show wpList _ _ _ ({ dst := none, op := Op.store 33 (.tmp 4) _, type := _, pos := _, after := _, guard := _ } :: _) _ _); go_must (refine wpList_store_new rfl 33 (.tmp 4) (.tmp 14) rfl cs HSZ.out HCO.out (by rw [HTL.out]; rfl) ?_ ?_ ?_; go_simp; go_simp; intro w3 hr3 hb3 hz3; have B3 := Lib.hid hb3; clear hr3 hb3 hz3))
      | ((with_reducible show wpList _ _ _ ({ dst := none, op := Op.store 33 (.tmp 2) _, type := _, pos := _, after := _, guard := _ } :: _) _ _); go_must (refine wpList_store_whole rfl 33 (.tmp 2) (.tmp 25) rfl w.heap.size tzero tzero (HR2.out.below B3.out HLT.out) size_tz rfl tzero_one ?_ ?_ ?_; go_simp; (go_simp; kernel_rfl); intro w4 hr4 ht4; have R4 := Lib.hid hr4; have T4 := Lib.hid ht4; clear hr4 ht4)))
    refine bodyPost_ret (results_cell1 (h := rfl) _ w4 ⟨w.heap.size, 0, none⟩ _ _ (by rfl) (by rfl) (run_loadVar_row w4 w.heap.size 33 33 tzero.toArray (0, 0) _ R4.out.is Try.underlying33 rfl (by rw [List.size_toArray]; exact size_tz))) rfl ?_
    exact .inr ⟨_, HP.out, rfl, (HB2.out.trans (B3.out.mono HB2.out.size)).trans (T4.out.below (Nat.le_refl _))⟩
end Go.Proofs.Ytolijdbdpnbchaa

namespace Go.Proofs.Ytolijdbdpnbchaa
open Go.RowKit
set_option linter.unusedVariables false

def gx (zs : List Int) : LTx := match pTx zs with
  | .ok (x, _) => x
  | .error _ => zTx
def gn (zs : List Int) : Int := match pTx zs with
  | .ok (_, r) => (zs.length : Int) - r.length
  | .error _ => 0
def gc (zs : List Int) : Int := match pTx zs with
  | .ok _ => 0
  | .error c => c
def wx (zs : List Int) : LTx := match wTx zs with
  | .ok x => x
  | .error _ => zTx
def wc (zs : List Int) : Int := match wTx zs with
  | .ok _ => 0
  | .error c => c

/-- a transaction of the call's own, or the zero one, and its cells -/
structure TxGot (w : World) (lo hi : Nat) (x : LTx) (cs : List Value) : Prop where
  le : lo ≤ hi
  short : x.m.ins.length ≤ 65535 ∧ x.m.looks.length ≤ 65535
  is : ∃ s, cs = TRaw.cells s x ∧ TxIn w hi s x ∧ ∃ S K I L iv lv, TxPages w lo hi s x S K I L iv lv

section
variable {w w' : World} {lo hi lo' hi' : Nat} {x : LTx} {cs cs' : List Value}
theorem TxGot.below (h : TxGot w lo hi x cs) (hb : Below hi w w') : TxGot w' lo hi x cs := by
  obtain ⟨s, h1, h2, S, K, I, L, iv, lv, h3⟩ := h.is
  exact ⟨h.le, h.short, s, h1, h2.below hb, S, K, I, L, iv, lv, h3.below hb⟩
theorem TxGot.drewN (h : TxGot w lo hi x cs) (n : Nat) : TxGot (w.drewN n) lo hi x cs := h.below (below_drewN (Below.refl _ _) n)
theorem TxGot.len (h : TxGot w lo hi x cs) : cs.length = 40 := by
  obtain ⟨s, rfl, h2, _⟩ := h.is
  exact tcells_len h2.m.recent
theorem TxGot.size (h : TxGot w lo hi x cs) : (Try.prog.info? 33).map (·.size) = some cs.length := by rw [h.len, size_tx]
theorem TxGot.one (h : TxGot w lo hi x cs) : ∀ u ∈ cs, u.oneCell' = true := by
  obtain ⟨s, rfl, _⟩ := h.is
  exact tcells_one
theorem TxGot.same (h : TxGot w lo hi x cs) (h' : TxGot w lo' hi' x cs') (hz : hi ≤ w.heap.size) (hz' : hi' ≤ w.heap.size) :
    Calls Try.prog 23 #[.agg cs.toArray, .agg cs'.toArray] w fun e w' => e = .returned (.bool true) ∧ Below w.heap.size w w' := by
  obtain ⟨s, rfl, h2, _⟩ := h.is
  obtain ⟨s', rfl, h2', _⟩ := h'.is
  exact same_tx s s' x hi hi' w h2 hz h2' hz'
theorem TxV.got {s : TRaw} (h : TxV w lo hi s x) : TxGot w lo hi x (TRaw.cells s x) := by
  obtain ⟨mid, h1, h2, _, h4⟩ := h.is
  exact ⟨by omega, ⟨h4.short.2.1, h4.short.2.2⟩, s, rfl, h.in_, h.pages⟩
theorem got_zero (w : World) (lo hi : Nat) (h : lo ≤ hi) : TxGot w lo hi zTx tzero :=
  ⟨h, by simp [zTx], zRaw, rfl, zTx_in w hi, _, _, _, _, _, _, zPages w lo hi⟩

theorem flat_len2 (S K : Sl) (iv lv : Nat → Sl × Sl) (n m : Nat) : (txPages S K iv n lv m).length = 2 + 2 * n + 2 * m := by
  unfold txPages pagesOf
  simp only [List.length_append, List.length_cons, List.length_nil, flat_len]
  omega
/-- its pages, and that a book takes them -/
theorem TxGot.pages (h : TxGot w lo hi x cs) : ∃ ps : List (Sl × Kd), (∀ y ∈ ps, SlFit w y) ∧ (blocks ps).Pairwise (· < ·) ∧ (∀ g ∈ blocks ps, lo ≤ g ∧ g < hi) ∧ ps.length ≤ 262142 ∧
    ∀ (p base : Nat) (ks : List (Sl × Kd)) (w0 w1 : World), Below hi w w1 → Bk w0 p base ks w1 → hi ≤ base → hi ≤ p → ks.length ≤ 500000 →
      Calls Try.prog 15 #[.pointer (some ⟨p, 0, none⟩), .agg cs.toArray] w1 fun e w' => e = .returned (.tuple #[]) ∧ Bk w0 p base (ks ++ ps) w' := by
  obtain ⟨s, rfl, h2, S, K, I, L, iv, lv, h3⟩ := h.is
  have hs := h.short
  refine ⟨txPages S K iv I.n lv L.n, h3.fits, h3.rise, h3.low, by rw [flat_len2, h3.n.1, h3.n.2]; omega, fun p base ks w0 w1 hb hk h4 h5 h6 => ?_⟩
  exact bookTxV p base lo hi ks s x S K I L iv lv w0 w1 hk h2.m.recent (h3.below hb) h4 h5 (by omega)
end

theorem GetTxDone.one {w w' : World} {zs : List Int} {e : Ending} (h : GetTxDone w zs e w') :
    ∃ cs lo, e = .returned (.tuple #[.agg cs.toArray, .int .i64 (gn zs), .int .i64 (gc zs)]) ∧ w.heap.size ≤ lo ∧ TxGot w' lo w'.heap.size (gx zs) cs ∧ Below w.heap.size w w' := by
  rcases h with ⟨x, r, s, lo, hp, he, hlo, hv, hb⟩ | ⟨c, hp, he, hb⟩
  · refine ⟨TRaw.cells s x, lo, ?_, hlo, ?_, hb⟩
    · unfold gn gc
      rw [hp]
      exact he
    · unfold gx
      rw [hp]
      exact hv.got
  · refine ⟨tzero, w.heap.size, ?_, Nat.le_refl _, ?_, hb⟩
    · unfold gn gc
      rw [hp]
      exact he
    · unfold gx
      rw [hp]
      exact got_zero _ _ _ hb.size
theorem WholeDone.one {w w' : World} {zs : List Int} {e : Ending} (h : WholeDone w zs e w') :
    ∃ cs lo, e = .returned (.tuple #[.agg cs.toArray, .int .i64 (wc zs)]) ∧ w.heap.size ≤ lo ∧ TxGot w' lo w'.heap.size (wx zs) cs ∧ Below w.heap.size w w' := by
  rcases h with ⟨x, s, lo, hp, he, hlo, hv, hb⟩ | ⟨c, hp, he, hb⟩
  · refine ⟨TRaw.cells s x, lo, ?_, hlo, ?_, hb⟩
    · unfold wc
      rw [hp]
      exact he
    · unfold wx
      rw [hp]
      exact hv.got
  · refine ⟨tzero, w.heap.size, ?_, Nat.le_refl _, ?_, hb⟩
    · unfold wc
      rw [hp]
      exact he
    · unfold wx
      rw [hp]
      exact got_zero _ _ _ hb.size
end Go.Proofs.Ytolijdbdpnbchaa

namespace Go.Proofs.Ytolijdbdpnbchaa
open Go.RowKit
set_option linter.unusedVariables false

theorem run_mid {P : Program} {w : World} {o : Oper} {a : Act} (t e : TypeId) (x i j : Operand) (ho : o.op = .slice t x (some i) (some j) none) (ht : P.underlying t = some (.slice e)) (hsz : (P.info? e).map (·.size) = some 1)
    (A : Option Addr) (n c k l : Nat) (hx : a.eval x = .slice A n c) (hi : a.eval i = .int .i64 k) (hj : a.eval j = .int .i64 l) (hk : k ≤ l) (hl : l ≤ c) (hc : c ≤ maxLen) :
    (execOp a.eval o).run P w = .ok (.value (.slice (tailAt A c k) (l - k) (c - k))) w := by
  unfold maxLen at hc
  obtain ⟨ie, hie, hs1⟩ : ∃ i, P.info? e = some i ∧ i.size = 1 := by
    cases h : P.info? e with
    | none => rw [h] at hsz; cases hsz
    | some i => rw [h] at hsz; exact ⟨i, rfl, by simpa using hsz⟩
  have he : P.elem t = e := by simp [Program.elem, ht]
  have ht' : P.underlying t = some (.slice (P.elem t)) := by rw [he]; exact ht
  have hso : (sizeOf e).run P w = .ok 1 w := by simp [sizeOf, typeInfo, hie, hs1]
  have h0 : (0 : Int) ≤ k := by omega
  have h1 : (k : Int) ≤ l := by omega
  have h2 : (l : Int) ≤ c := by omega
  unfold execOp
  simp only [ho, hx, hi, hj, Option.map_some, Option.map_none]
  simp only [Sem.run_bind, run_sliceAt_slice w t _ _ _ _ ht', run_slice_lh w t A n c ht' .i64 .i64 k l h0 h1 h2, he, hso, Result.andThen_ok, sliced, tailAt, Int.toNat_natCast, Nat.mul_one, Sem.run_pure]

theorem ownN_turned {w w' : World} {base g size n : Nat} {e : TypeId} {v : Value} {xs : List Value} (h : w.ownsRow base e size v n xs) (ht : Turned w w' g) (hg : g < base) : w'.ownsRow base e size v n xs := by
  refine ⟨h.1, ?_⟩
  rcases h.2 with h2 | ⟨k, cap, cur, hv, hk, hh, r⟩
  · exact .inl h2
  · exact .inr ⟨k, cap, cur, hv, hk, (ht.block k (by omega)).trans hh, r⟩

theorem own_part {w w' : World} {base B size n : Nat} {e : TypeId} {v : Value} {xs : List Value} (h : w.ownsRow base e size v n xs) (hl : ∀ g, v.ownBlock = some g → g < B) (hb : Below B w w') : w'.ownsRow base e size v n xs := by
  refine ⟨h.1, ?_⟩
  rcases h.2 with h2 | ⟨k, cap, cur, hv, hk, hh, r⟩
  · exact .inl h2
  · exact .inr ⟨k, cap, cur, hv, hk, (hb.block k (hl k (by rw [hv]; rfl))).trans hh, r⟩

theorem txcells_part {v : Value} {ms ns : List Value} (hm : ms.length = 39) (hn : ns.length = 39) : (v :: ms).take 1 ++ ns ++ (v :: ms).drop (1 + ns.length) = v :: ns := by
  rw [hn, show 1 + 39 = 39 + 1 by omega, List.drop_succ_cons, List.take_succ_cons, List.take_zero, List.drop_of_length_le (by omega)]
  simp
theorem zsz_sig : (Value.agg (zeros 64).toArray).cells.size = 64 := by kernel_rfl

/-- the reference's transaction in the making: its result's block, its own, its signatures so far -/
structure RTx (w0 w : World) (v : Value) (k : Nat) (xs : List Int) : Prop where
  res : Row w w0.heap.size 33 tzero
  tx : Row w (w0.heap.size + 1) 33 (v :: mzero)
  own : w.ownsRow (w0.heap.size + 2) 62 64 v k (bv xs)
  below : Below w0.heap.size w0 w
  size : w0.heap.size + 2 ≤ w.heap.size

theorem RTx.more {w0 w w' : World} {v : Value} {k : Nat} {xs : List Int} (h : RTx w0 w v k xs) (hb : Below w.heap.size w w') : RTx w0 w' v k xs :=
  ⟨h.res.below hb h.res.lt, h.tx.below hb h.tx.lt, own_below h.own hb, h.below.trans (hb.mono h.below.size), Nat.le_trans h.size hb.size⟩

set_option maxRecDepth 100000 in
set_option maxHeartbeats 2000000 in
theorem refgettx_ (A : Option Addr) (n c B : Nat) (zs : List Int) (w : World) (hs : Sees w B A n (bv zs)) (hB : B ≤ w.heap.size) (hnc : n ≤ c) (hA : A = none → c = 0) (hc : c ≤ maxLen) (hz : AllBytes zs) :
    Calls Try.prog 20 #[.slice A n c] w (GetTxDone w zs) := by
  have hn : zs.length = n := by have := hs.len; rwa [bv_length] at this
  subst hn
  have hmx := hc
  unfold maxLen at hmx
  have r0 := Row.new w 33 tzero
  have b0 : Below w.heap.size w (w.alloc (.cells tzero.toArray 33)) := (Below.refl _ _).alloc (Nat.le_refl _) _
  have z0 : (w.alloc (.cells tzero.toArray 33)).heap.size = w.heap.size + 1 := by simp
  have HG := Lib.hid (refGetShort A zs.length c zs (w.alloc (.cells tzero.toArray 33)) B (hs.below (b0.mono hB)) (by omega) hz.bytes)
  have HS := Lib.hid hs
  have R0 := Lib.hid r0
  have B0 := Lib.hid b0
  have Z0 := Lib.hid z0
  have HC := Lib.hid (And.intro hnc (And.intro hA hc))
  have HZ := Lib.hid hz
  clear hs r0 b0 z0 hz hA
  obtain ⟨W, hW⟩ : ∃ W, W = w.alloc (.cells tzero.toArray 33) := ⟨_, rfl⟩
  go_enter Try.func20, Try.ntmps20
  go_upto_region 1 with fail
  have hX : ∀ c, c = tzero.toArray → w.alloc (.cells c 33) = W := by rintro _ rfl; exact hW.symm
  rw [hX]
  rotate_left
  · kernel_rfl
  rw [← hW] at HG R0 B0 Z0
  clear hW hX
  go_wp2_with fail
  refine HG.out.mono ?_
  rintro e w1 ⟨rfl, rfl⟩
  clear HG
  rcases getS_cases zs HZ.out with (he | he) | ⟨n, k0, he, hn, hk1, hk2⟩
  iterate 2
    · have HP : Hid (∃ x, (x = 4 ∨ x = 5) ∧ (getS zs).2.2 = x ∧ pTx zs = .error x) := Lib.hid ⟨(getS zs).2.2, by rw [he]; simp, rfl, by unfold pTx pSigs pList pShort; rw [he]; rfl⟩
      rw [he]
      rw [he] at HP
      clear he
      go_wp2_with (((with_reducible show wpList _ _ _ ({ dst := none, op := Op.store 33 _ _, type := _, pos := _, after := _, guard := _ } :: _) _ _); go_must (refine wpList_store_whole rfl 33 (.tmp 2) (.tmp 21) rfl w.heap.size tzero tzero R0.out size_tz rfl tzero_one ?_ ?_ ?_; go_simp; (go_simp; kernel_rfl); intro w3 hr3 ht3; have R3 := Lib.hid hr3; have T3 := Lib.hid ht3; clear hr3 ht3)))
      refine bodyPost_ret (results_cell2 (h := rfl) _ w3 ⟨w.heap.size, 0, none⟩ _ _ _ (by rfl) (by rfl) (by rfl) (run_loadVar_row w3 w.heap.size 33 33 tzero.toArray (0, 0) _ R3.out.is Try.underlying33 rfl (by rw [List.size_toArray]; exact size_tz))) rfl ?_
      obtain ⟨x, hx, hx2, hp⟩ := HP.out
      refine .inr ⟨x, hp, ?_, B0.out.trans (T3.out.below (Nat.le_refl _))⟩
      rw [← hx2]
      rfl
  have HP : Hid (pSigs zs = pMany (pTake 64) n (zs.drop k0)) := Lib.hid (by unfold pSigs pList pShort; rw [he]; simp)
  rw [he]
  obtain ⟨r, hr⟩ : ∃ r, r = zs.drop k0 := ⟨_, rfl⟩
  have hrl : r.length = zs.length - k0 := by rw [hr, List.length_drop]
  rw [← hr] at HP
  have HR := Lib.hid hr
  have HRL := Lib.hid hrl
  have HRB := Lib.hid (show AllBytes r by rw [hr]; exact HZ.out.drop k0)
  clear he hr hrl
  go_upto_region 5 with (((with_reducible show wpList _ _ _ ({ dst := none, op := Op.store 33 _ _, type := _, pos := _, after := _, guard := _ } :: _) _ _); go_must (refine wpList_store_new rfl 33 (.tmp 8) (.tmp 23) rfl tzero size_tz tzero_one rfl ?_ ?_ ?_; go_simp; (go_simp; kernel_rfl); intro w2 hr2 hb2 hz2)))
  have hW1 : W.heap.size = w.heap.size + 1 := Z0.out
  rw [hW1] at hr2 hb2 hz2 ⊢
  have HX2 : Hid (RTx w w2 (.slice none 0 0) 0 []) := Lib.hid ⟨R0.out.below hb2 (by omega), hr2, World.ownsRow_nil _ _ _ _, B0.out.trans (hb2.mono (by omega)), by omega⟩
  clear hr2 hb2 hz2 R0 hW1
  go_wp2_with fail
  go_loopw [6, 9] (fun p i wr => ∃ (k : Nat) (v : Value), k ≤ n ∧ i = .int .i64 k ∧ p = .int .i64 ((k0 + k * 64 : Nat) : Int) ∧ k * 64 ≤ r.length ∧ RTx w wr v k (r.take (k * 64))) (fun p i _ => n - (intOf i).toNat)
  case atStart => exact ⟨0, _, Nat.zero_le _, rfl, by simp, by omega, by simpa using HX2.out⟩
  case round =>
  clear HX2
  obtain ⟨k, v, hk, rfl, rfl, hkr, hx⟩ := hrel
  have HX := Lib.hid hx
  clear hx
  by_cases hlt : k < n
  · by_cases hsh : zs.length - (k0 + k * 64) < 64
    · -- too short
      have HE : Hid (pTx zs = .error 5) := Lib.hid (by
        unfold pTx
        rw [HP.out, many_short n (by have := HRL.out; omega)])
      have hsh' : ((zs.length : Int) - ((k0 + k * 64 : Nat) : Int)) < 64 := by have := HRL.out; omega
      have hwr2 : IntKind.i64.wrap ((zs.length : Int) - ((k0 + k * 64 : Nat) : Int)) = zs.length - ((k0 + k * 64 : Nat) : Int) := by have := HRL.out; rw [IntKind.wrap_i64]; omega
      generalize k0 + k * 64 = at0 at *
      go_wp2_with (((with_reducible show wpList _ _ _ ({ dst := none, op := Op.store 33 _ _, type := _, pos := _, after := _, guard := _ } :: _) _ _); go_must (refine wpList_store_whole rfl 33 (.tmp 2) (.tmp 34) rfl w.heap.size tzero tzero HX.out.res size_tz rfl tzero_one ?_ ?_ ?_; go_simp; (go_simp; kernel_rfl); intro w3 hr3 ht3; have R3 := Lib.hid hr3; have T3 := Lib.hid ht3; clear hr3 ht3)))
      refine bodyPost_ret (results_cell2 (h := rfl) _ w3 ⟨w.heap.size, 0, none⟩ _ _ _ (by rfl) (by rfl) (by rfl) (run_loadVar_row w3 w.heap.size 33 33 tzero.toArray (0, 0) _ R3.out.is Try.underlying33 rfl (by rw [List.size_toArray]; exact size_tz))) rfl ?_
      exact .inr ⟨5, HE.out, rfl, HX.out.below.trans (T3.out.below (Nat.le_refl _))⟩
    · have hrl := HRL.out
      have hk64 : (k + 1) * 64 ≤ r.length := by omega
      have hsh' : ¬ ((zs.length : Int) - ((k0 + k * 64 : Nat) : Int)) < 64 := by omega
      obtain ⟨at0, hat⟩ : ∃ at0, at0 = k0 + k * 64 := ⟨_, rfl⟩
      have HAT := Lib.hid hat
      have hat1 : at0 + 64 ≤ zs.length := by omega
      rw [← hat] at hsh' ⊢
      have HK := Lib.hid hk64
      obtain ⟨C, hC⟩ : ∃ C, C = (r.drop (k * 64)).take 64 := ⟨_, rfl⟩
      have hCl : C.length = 64 := by rw [hC, List.length_take, List.length_drop]; omega
      have HCZ : Hid (C = (zs.drop at0).take 64) := Lib.hid (by rw [hC, HR.out, List.drop_drop, hat])
      have HTK : Hid (r.take ((k + 1) * 64) = r.take (k * 64) ++ C) := Lib.hid (by rw [hC, show (k + 1) * 64 = k * 64 + 64 by omega, List.take_add])
      have HCL := Lib.hid hCl
      have hzsz := HX.out.size
      have hwr2 : IntKind.i64.wrap ((zs.length : Int) - at0) = zs.length - at0 := by rw [IntKind.wrap_i64]; omega
      have hwr : IntKind.i64.wrap ((at0 : Int) + 64) = at0 + 64 := by rw [IntKind.wrap_i64]; omega
      clear hat hC hCl hsh hk64 hrl
      go_upto_region 11 with fail
      have HX1 := Lib.hid (HX.out.more ((Below.refl wr.heap.size wr).alloc (Nat.le_refl _) (.cells (zeros 64).toArray 62)))
      have RZ := Lib.hid (Row.new wr 62 (zeros 64))
      have HBA := Lib.hid ((Below.refl wr.heap.size wr).alloc (Nat.le_refl _) (.cells (zeros 64).toArray 62))
      obtain ⟨W1, hW1⟩ : ∃ W1, W1 = wr.alloc (.cells (zeros 64).toArray 62) := ⟨_, rfl⟩
      have hZZ : ∀ c, c = (zeros 64).toArray → wr.alloc (.cells c 62) = W1 := by rintro _ rfl; exact hW1.symm
      rw [hZZ]
      rotate_left
      · kernel_rfl
      rw [← hW1] at HX1 RZ HBA
      clear hW1 hZZ
      obtain ⟨V, hV⟩ : ∃ V, V = W1.drew := ⟨_, rfl⟩
      have HXV : Hid (RTx w V v k (r.take (k * 64))) := Lib.hid (by rw [hV]; exact ⟨HX1.out.res.drew, HX1.out.tx.drew, HX1.out.own, HX1.out.below.drew, HX1.out.size⟩)
      have HRZ : Hid (Row V wr.heap.size 62 (zeros 64)) := Lib.hid (by rw [hV]; exact RZ.out.drew)
      have HSV : Hid (Sees V B A zs.length (bv zs)) := Lib.hid (HS.out.below (HXV.out.below.mono hB))
      have HOV : Hid (∀ V2, Below wr.heap.size V V2 → V2.ownsRow (w.heap.size + 2) 62 64 v k (bv (r.take (k * 64)))) := Lib.hid fun V2 hb => own_part HXV.out.own (fun g hg => (HX.out.own.lt g hg).2) hb
      refine wp_region_held_drew (S := fun _ => True) (by kernel_rfl) trivial (fun _ => ?_)
      rw [← hV]
      clear hV HX1 RZ HX
      have HT : Hid (Sees V B (tailAt A c at0) (zs.length - at0) (bv (zs.drop at0))) := Lib.hid (by
        have h1 := HSV.out.tail (k := at0) (by omega) HC.out.1
        have e1 : (bv zs).drop at0 = bv (zs.drop at0) := by simp [bv, cv]
        rwa [e1] at h1)
      refine takeL (i := 0) (v := ?_) rfl (by kernel_rfl) (by kernel_rfl) (by kernel_rfl) (fun _ _ _ h => h) (Or.inl ⟨by rfl, ?_⟩) trivial ?_
      rotate_left
      · intro w hw
        try dsimp only at hw
        go_simp
        try with_reducible rfl
      try simp only [Act.put, List.setIfInBounds_toArray, List.set_cons_zero, List.set_cons_succ]
      refine takeL (i := 1) (v := ?_) rfl (by kernel_rfl) (by kernel_rfl) (by kernel_rfl) (fun _ _ _ h => h) (Or.inl ⟨by rfl, ?_⟩) trivial ?_
      rotate_left
      · intro w hw
        try dsimp only at hw
        go_simp
        try with_reducible rfl
      try simp only [Act.put, List.setIfInBounds_toArray, List.set_cons_zero, List.set_cons_succ]
      refine takeL (i := 2) (v := ?_) rfl (by kernel_rfl) (by kernel_rfl) (by kernel_rfl) (fun _ _ _ h => h) (Or.inl ⟨by rfl, ?_⟩) trivial ?_
      rotate_left
      · intro w hw
        try dsimp only at hw
        go_simp
        try with_reducible rfl
      try simp only [Act.put, List.setIfInBounds_toArray, List.set_cons_zero, List.set_cons_succ]
      refine takeL (i := 3) (v := ?_) rfl (by kernel_rfl) (by kernel_rfl) (by kernel_rfl) (fun _ _ _ h => h) (Or.inl ⟨by rfl, ?_⟩) trivial ?_
      rotate_left
      · intro w hw
        try dsimp only at hw
        go_simp
        try with_reducible rfl
      try simp only [Act.put, List.setIfInBounds_toArray, List.set_cons_zero, List.set_cons_succ]
      refine takeL (i := 4) (v := ?_) rfl (by kernel_rfl) (by kernel_rfl) (by kernel_rfl) (fun _ _ _ h => h) (Or.inl ⟨by rfl, ?_⟩) trivial ?_
      rotate_left
      · intro w hw
        try dsimp only at hw
        go_simp
        try with_reducible rfl
      try simp only [Act.put, List.setIfInBounds_toArray, List.set_cons_zero, List.set_cons_succ]
      refine takeL (i := 5) (v := .slice (tailAt A c at0) (at0 + 64 - at0) (c - at0)) rfl (by kernel_rfl) (by kernel_rfl) (by kernel_rfl) (fun _ _ _ h => h) (Or.inl ⟨by rfl, fun w hw => ?_⟩) trivial ?_
      · exact run_mid 37 5 (.tmp 36) (.tmp 37) (.tmp 39) rfl Try.underlying37 size_u8 A zs.length c at0 (at0 + 64) (by go_simp) (by go_simp) (by go_simp) (by omega) (by have := HC.out.1; omega) HC.out.2.2
      try simp only [Act.put, List.setIfInBounds_toArray, List.set_cons_zero, List.set_cons_succ]
      refine readyL (i := 6) rfl (by kernel_rfl) (by kernel_rfl) fun K hK => ?_
      refine wp_copy_splice rfl (.tmp 35) (.tmp 40) 37 37 rfl 5 Try.underlying37 size_u8 (some ⟨wr.heap.size, 0, none⟩) (tailAt A c at0) 64 64 (at0 + 64 - at0) (c - at0) ?_ ?_ wr.heap.size 0 (zeros 64) 62 HRZ.out.is (bv C) ?_ ?_ ?_ (bv_one _) wr.heap.size V (Below.refl _ _) (Nat.le_refl _) ?_
      · go_simp
      · go_simp
      · rw [bv_length, HCL.out]
        show 64 = min (at0 + 64 - at0) 64
        omega
      · intro hpos
        obtain ⟨a, u, e, _, _, _⟩ := HT.out.at_ (k := 0) (by omega)
        refine ⟨rfl, a, e, fun j v hv => ?_⟩
        have hj := (List.getElem?_eq_some_iff.1 hv).1
        rw [bv_length, HCL.out] at hj
        have hv' : (bv (zs.drop at0))[j]? = some v := by
          rw [HCZ.out] at hv
          rw [bv_getElem?] at hv ⊢
          rwa [List.getElem?_take_of_lt hj] at hv
        obtain ⟨a', e', _, hc'⟩ := HT.out.cell j v hv'
        rw [e] at e'
        obtain rfl := Option.some.inj e'
        exact hc'
      · rw [bv_length, HCL.out]; simp [zeros]
      intro V2 hg2 hb2
      have HC2 : Hid (Row V2 wr.heap.size 62 (bv C)) := Lib.hid ⟨by
        rw [hg2.out]
        have : splice (zeros 64) 0 (bv C) = bv C := by
          unfold splice
          rw [bv_length, HCL.out]
          simp [zeros]
        rw [this]⟩
      have HX2 : Hid (RTx w V2 v k (r.take (k * 64))) := Lib.hid (by
        have h := HXV.out
        refine ⟨h.res.below hb2 (by omega), h.tx.below hb2 (by omega), ?_, h.below.trans (hb2.mono (by omega)), Nat.le_trans h.size hb2.size⟩
        exact HOV.out V2 hb2)
      have HZ2 := Lib.hid (show wr.heap.size < V2.heap.size from HC2.out.lt)
      clear hg2 hb2
      refine hK.out _ _ trivial ?_
      clear hK K
      try simp only [Act.put, List.setIfInBounds_toArray, List.set_cons_zero, List.set_cons_succ]
      refine wpAnyH_done (by kernel_rfl) ?_ _
      have c0 : V2.cell? ⟨w.heap.size + 1, 0, none⟩ = some v := HX2.out.tx.cell 0
      obtain ⟨VA, vc, rfl⟩ := own_formN HX2.out.own
      have HCS := Lib.hid (show (Try.prog.info? 62).map (·.size) = some (bv C).length by rw [size_sig, bv_length, HCL.out])
      go_wp2_with (first
        | ((with_reducible show wpList _ _ _ ({ dst := some 44, op := Op.load _ _, type := _, pos := _, after := _, guard := _ } :: _) _ _); go_must (refine wpList_load_whole rfl 62 (.tmp 10) rfl wr.heap.size 62 (bv C) _ Try.underlying62 rfl HCS.out HC2.out ?_ ?_; go_simp))
        | ((with_reducible show wpList _ _ _ ({ dst := some 45, op := Op.buildSlice _ _ _, type := _, pos := _, after := _, guard := _ } :: _) _ _); go_must (refine wpList_buildOne rfl 22 62 (.tmp 44) rfl (bv C) _ 64 64 Try.underlying22 info_sig zsz_sig (by omega) (by omega) (by rw [bv_length, HCL.out]) ?_ ?_; go_simp))
        | (at_builtin; (with_reducible show wpList _ _ _ ({ dst := some 46, op := _, type := _, pos := _, after := _, guard := _ } :: _) _ _); go_must (refine wpList_addRow rfl (.tmp 43) (.tmp 45) 22 rfl (w.heap.size + 2) 62 _ 64 64 Try.underlying22 info_sig zsz_sig (by omega) (.slice VA k vc) k (bv (r.take (k * 64))) (bv C) 1 (by rw [bv_length, HCL.out]) (bv_one C) rfl ?_ HX2.out.own ?_ HX2.out.size (by unfold maxLen; omega) (by omega) ?_; go_simp; go_simp; intro v4 w4 ho4 hg4; obtain ⟨A4, c4, rfl⟩ := own_formN ho4; have hne : some (w.heap.size + 1) ≠ (Value.slice VA k vc).ownBlock := (fun e => by have := HX2.out.own.lt _ e.symm; omega); have hne0 : some w.heap.size ≠ (Value.slice VA k vc).ownBlock := (fun e => by have := HX2.out.own.lt _ e.symm; omega); have hr4 := hg4.row HX2.out.tx hne; have hr40 := hg4.row HX2.out.res hne0; have d0 : w4.cell? ⟨w.heap.size + 1, 0, none⟩ = some (.slice VA k vc) := hr4.cell 0; have f0 := hr4.frozen 0; have HR4 := Lib.hid hr4; have HR40 := Lib.hid hr40; have HO4 := Lib.hid ho4; have HB4 := Lib.hid (hg4.below HX2.out.own HX2.out.size); have HZ4 := Lib.hid hg4.size; clear hr4 hr40 ho4 hg4 hne hne0 c0)))
      go_roundw
      case rel =>
        have ht := turned_setCell w4 ⟨w.heap.size + 1, 0, none⟩ (.slice A4 (k + 1) c4)
        refine ⟨k + 1, _, by omega, by go_num, ?_, HK.out, ⟨ht.row HR40.out (by simp), HR4.out.set_ 0 _, ?_, ?_, ?_⟩⟩
        · rw [HAT.out]; go_num
        · rw [HTK.out, bv_append]
          exact ownN_turned HO4.out ht (by simp)
        · exact (HX2.out.below.trans (HB4.out.mono (by omega))).trans (ht.below (by simp))
        · have h1 := ht.size
          have h2 := HX2.out.size
          have h3 := HZ4.out
          omega
      case measure => simp [intOf]; omega
  · obtain rfl : k = n := by omega
    obtain ⟨l, hl1, hl2, hl3, hl4⟩ := many_long k hkr
    obtain ⟨VA, vc, rfl⟩ := own_formN HX.out.own
    obtain ⟨at0, hat⟩ : ∃ at0, at0 = k0 + k * 64 := ⟨_, rfl⟩
    rw [← hat]
    have hrl := HRL.out
    have hat1 : at0 ≤ zs.length := by omega
    have hr2 : r.drop (k * 64) = zs.drop at0 := by rw [HR.out, List.drop_drop, hat]
    rw [hr2] at hl1
    obtain ⟨Z2, hZ2⟩ : ∃ Z2, Z2 = zs.drop at0 := ⟨_, rfl⟩
    have hlenr : zs.length - at0 = Z2.length := by rw [hZ2, List.length_drop]
    have HPS : Hid (pSigs zs = .ok (l, Z2)) := Lib.hid (by rw [hZ2]; exact HP.out.trans hl1)
    have HL := Lib.hid (And.intro hl2 (And.intro hl3 hl4))
    have HSR : Hid (Sees wr B (tailAt A c at0) Z2.length (bv Z2)) := Lib.hid (by
      have h1 := (HS.out.below (HX.out.below.mono hB)).tail (k := at0) hat1 HC.out.1
      have e1 : (bv zs).drop at0 = bv Z2 := by rw [hZ2]; simp [bv, cv]
      rwa [e1, hlenr] at h1)
    have hZB : AllBytes Z2 := by rw [hZ2]; exact HZ.out.drop at0
    have HRG := Lib.hid (refGetMsg (tailAt A c at0) (c - at0) Z2 wr B HSR.out (Nat.le_trans hB HX.out.below.size) ⟨by have := HC.out.1; omega, fun h => by
      unfold tailAt at h
      split at h
      · omega
      · cases A with
        | none => have := HC.out.2.1 rfl; omega
        | some a => cases h⟩ (by have := HC.out.2.2; omega) hZB)
    have HLR := Lib.hid hlenr
    have HA1 := Lib.hid hat1
    have HZB := Lib.hid hZB
    clear hl1 hl2 hl3 hl4 hat hr2 hrl HR hkr hlenr hZB hZ2
    go_wp2_with (((with_reducible show wpList _ _ _ ({ dst := some 53, op := Op.slice _ _ _ _ _, type := _, pos := _, after := _, guard := _ } :: _) _ _); go_must (refine wpList_tail rfl 37 5 (.tmp 51) (.tmp 52) rfl Try.underlying37 size_u8 A zs.length c at0 ?_ ?_ hat1 HC.out.1 HC.out.2.2 ?_; go_simp; go_simp; rw [HLR.out])))
    refine HRG.out.mono ?_
    rintro e w4 ⟨hb4, (⟨m, r3, q, hp, rfl, hv⟩ | ⟨x, hp, rfl⟩)⟩
    rotate_left
    · have hx := pMsg_err HZB.out hp
      have HPE : Hid (pTx zs = .error x) := Lib.hid (by unfold pTx; rw [HPS.out]; dsimp only; rw [hp])
      have HX4 := Lib.hid (HX.out.more hb4)
      clear hp hb4 HRG HX
      rcases hx with rfl | rfl
      all_goals
        go_wp2_with (first
          | ((with_reducible show wpList _ _ _ ({ dst := none, op := Op.store 31 _ _, type := _, pos := _, after := _, guard := _ } :: _) _ _); go_must (refine wpList_store_new rfl 31 (.tmp 11) (.tmp 55) rfl mzero size_mz mzero_one rfl ?_ ?_ ?_; go_simp; go_simp; intro w5 hr5 hb5 hz5; have HX5 := Lib.hid (HX4.out.more hb5); clear hr5 hb5 hz5))
          | ((with_reducible show wpList _ _ _ ({ dst := none, op := Op.store 33 _ _, type := _, pos := _, after := _, guard := _ } :: _) _ _); go_must (refine wpList_store_whole rfl 33 (.tmp 2) (.tmp 60) rfl w.heap.size tzero tzero HX5.out.res size_tz rfl tzero_one ?_ ?_ ?_; go_simp; (go_simp; kernel_rfl); intro w6 hr6 ht6; have R6 := Lib.hid hr6; have T6 := Lib.hid ht6; clear hr6 ht6)))
        refine bodyPost_ret (results_cell2 (h := rfl) _ w6 ⟨w.heap.size, 0, none⟩ _ _ _ (by rfl) (by rfl) (by rfl) (run_loadVar_row w6 w.heap.size 33 33 tzero.toArray (0, 0) _ R6.out.is Try.underlying33 rfl (by rw [List.size_toArray]; exact size_tz))) rfl ?_
        exact .inr ⟨_, HPE.out, rfl, HX5.out.below.trans (T6.out.below (Nat.le_refl _))⟩
    have hle := (front_msg _ _ _ hp).le
    have HPO : Hid (pTx zs = .ok (⟨l, m⟩, r3)) := Lib.hid (by unfold pTx; rw [HPS.out]; dsimp only; rw [hp])
    have HSM := Lib.hid (show (Try.prog.info? 31).map (·.size) = some (q.cells m).length by rw [size_msg, cells_len hv.recent])
    have HL39 := Lib.hid (cells_len (q := q) hv.recent)
    have HX4 := Lib.hid (HX.out.more hb4)
    have HV4 := Lib.hid hv
    have HZ4 := Lib.hid hb4.size
    have hK : k = l.length := HL.out.1.symm
    have HWS := Lib.hid HX.out.size
    have HOL := Lib.hid (show ∀ g, (Value.slice VA k vc).ownBlock = some g → g < wr.heap.size from fun g hg => (HX.out.own.lt g hg).2)
    have hsum : ((at0 : Int) + ((Z2.length - r3.length : Nat) : Int)) = (zs.length : Int) - r3.length := by have := HLR.out; have := HA1.out; omega
    obtain ⟨T, hT⟩ : ∃ T : Int, T = ((Z2.length - r3.length : Nat) : Int) := ⟨_, rfl⟩
    have hwr : IntKind.i64.wrap ((at0 : Int) + T) = (zs.length : Int) - r3.length := by rw [hT, hsum, IntKind.wrap_i64]; omega
    rw [← hT]
    clear hle hp hb4 hv HRG HX hsum hT
    go_wp2_with (first
      | ((with_reducible show wpList _ _ _ ({ dst := none, op := Op.store 31 (.tmp 11) _, type := _, pos := _, after := _, guard := _ } :: _) _ _); go_must (refine wpList_store_new rfl 31 (.tmp 11) (.tmp 55) rfl (q.cells m) HSM.out cells_one (by rw [HL39.out]; rfl) ?_ ?_ ?_; go_simp; go_simp; intro w5 hr5 hb5 hz5; have HX5 := Lib.hid (HX4.out.more hb5); have R5 := Lib.hid hr5; have HB5 := Lib.hid hb5; clear hr5 hb5 hz5))
      | ((with_reducible show wpList _ _ _ ({ dst := some 62, op := Op.load _ _, type := _, pos := _, after := _, guard := _ } :: _) _ _); go_must (refine wpList_load_whole rfl 31 (.tmp 11) rfl w4.heap.size 31 (q.cells m) _ Try.underlying31 rfl HSM.out R5.out ?_ ?_; go_simp))
      | ((with_reducible show wpList _ _ _ ({ dst := none, op := Op.store 31 (.tmp 63) _, type := _, pos := _, after := _, guard := _ } :: _) _ _); go_must (refine wpList_store_part rfl 31 (.tmp 63) (.tmp 62) rfl (w.heap.size + 1) 33 1 _ (q.cells m) HX5.out.tx HSM.out (by rw [HL39.out]; simp [mzero_len]) cells_one ?_ ?_ ?_; go_simp; go_simp; intro w6 hr6 ht6; rw [txcells_part mzero_len HL39.out] at hr6; have R6 := Lib.hid hr6; have T6 := Lib.hid ht6; have RR6 := Lib.hid (ht6.row HX5.out.res (by simp)); clear hr6 ht6))
      | ((with_reducible show wpList _ _ _ ({ dst := some 64, op := Op.load _ _, type := _, pos := _, after := _, guard := _ } :: _) _ _); go_must (refine wpList_load_whole rfl 33 (.tmp 8) rfl (w.heap.size + 1) 33 (Value.slice VA k vc :: q.cells m) _ Try.underlying33 rfl (by rw [size_tx, List.length_cons, HL39.out]) R6.out ?_ ?_; go_simp))
      | ((with_reducible show wpList _ _ _ ({ dst := none, op := Op.store 33 (.tmp 2) _, type := _, pos := _, after := _, guard := _ } :: _) _ _); go_must (refine wpList_store_whole rfl 33 (.tmp 2) (.tmp 64) rfl w.heap.size tzero (Value.slice VA k vc :: q.cells m) RR6.out (by rw [size_tx, List.length_cons, HL39.out]) (by rw [List.length_cons, HL39.out]; rfl) (tcells_one (s := ⟨VA, k, vc, q⟩) (x := ⟨l, m⟩)) ?_ ?_ ?_; go_simp; go_simp; intro w7 hr7 ht7; have R7 := Lib.hid hr7; have T7 := Lib.hid ht7; clear hr7 ht7)))
    refine bodyPost_ret (results_cell2 (h := rfl) _ w7 ⟨w.heap.size, 0, none⟩ _ _ _ (by rfl) (by rfl) (by rfl) (run_loadVar_row w7 w.heap.size 33 33 (Value.slice VA k vc :: q.cells m).toArray (0, 0) _ R7.out.is Try.underlying33 rfl (by rw [List.size_toArray, size_tx, List.length_cons, HL39.out]))) rfl ?_
    have hz6 := T6.out.size
    have hz7 := T7.out.size
    have hstay : ∀ g, w.heap.size + 2 ≤ g → g < w4.heap.size → w7.heap[g]? = w4.heap[g]? := fun g h1 h2 => ((T7.out.block g (by omega)).trans (T6.out.block g (by omega))).trans (HB5.out.block g h2)
    have hsx := HX4.out.size
    refine .inl ⟨⟨l, m⟩, r3, ⟨VA, k, vc, q⟩, w.heap.size + 2, HPO.out, by rfl, by omega, ⟨by show l.length ≤ 65535; omega, wr.heap.size, ?_, ?_, ⟨?_, HOL.out, HL.out.2.1⟩, ?_⟩, ?_⟩
    · exact HWS.out
    · have := HB5.out.size; have := HZ4.out; omega
    · have h1 := HX4.out.own
      rw [← HL.out.2.2] at h1
      have h2 : w4.ownsRow (w.heap.size + 2) 62 64 (.slice VA k vc) l.length (bv l.flatten) := by rw [HL.out.1]; exact h1
      refine ⟨h2.1, ?_⟩
      rcases h2.2 with h3 | ⟨g, cap, cur, hv, hg, hh, hrest⟩
      · exact .inl h3
      · exact .inr ⟨g, cap, cur, hv, hg, (hstay g hg (Array.getElem?_eq_some_iff.1 hh).1).trans hh, hrest⟩
    · refine (HV4.out.stay (w' := w7) (by have := HB5.out.size; omega) fun g a b => hstay g (by have := HWS.out; omega) b).more (by have := HB5.out.size; omega)
    · exact ((HX5.out.below.trans (T6.out.below (by simp))).trans (T7.out.below (Nat.le_refl _)))
end Go.Proofs.Ytolijdbdpnbchaa

namespace Go.Proofs.Ytolijdbdpnbchaa
open Go.RowKit
set_option linter.unusedVariables false

set_option maxRecDepth 100000 in
set_option maxHeartbeats 2000000 in
theorem refwhole_ (A : Option Addr) (n c B : Nat) (zs : List Int) (w : World) (hs : Sees w B A n (bv zs)) (hB : B ≤ w.heap.size) (hnc : n ≤ c) (hA : A = none → c = 0) (hc : c ≤ maxLen) (hz : AllBytes zs) :
    Calls Try.prog 22 #[.slice A n c] w (WholeDone w zs) := by
  have hn : zs.length = n := by have := hs.len; rwa [bv_length] at this
  subst hn
  have hmx := hc
  unfold maxLen at hmx
  have r0 := Row.new w 33 tzero
  have b0 : Below w.heap.size w (w.alloc (.cells tzero.toArray 33)) := (Below.refl _ _).alloc (Nat.le_refl _) _
  have z0 : (w.alloc (.cells tzero.toArray 33)).heap.size = w.heap.size + 1 := by simp
  have HG := Lib.hid (refgettx_ A zs.length c B zs (w.alloc (.cells tzero.toArray 33)) (hs.below (b0.mono hB)) (Nat.le_trans hB b0.size) hnc hA hc hz)
  have R0 := Lib.hid r0
  have B0 := Lib.hid b0
  have Z0 := Lib.hid z0
  have HZ := Lib.hid hz
  clear hs r0 b0 z0 hz hA
  obtain ⟨W, hW⟩ : ∃ W, W = w.alloc (.cells tzero.toArray 33) := ⟨_, rfl⟩
  go_enter Try.func22, Try.ntmps22
  go_upto_region 1 with fail
  have hX : ∀ c, c = tzero.toArray → w.alloc (.cells c 33) = W := by rintro _ rfl; exact hW.symm
  rw [hX]
  rotate_left
  · kernel_rfl
  rw [← hW] at HG R0 B0 Z0
  clear hW hX
  by_cases hbig : 1232 < zs.length
  · have HP : Hid (wTx zs = .error 3) := Lib.hid (by unfold wTx; rw [if_pos hbig])
    have hbig' : (1232 : Int) < zs.length := by omega
    go_wp2_with (((with_reducible show wpList _ _ _ ({ dst := none, op := Op.store 33 _ _, type := _, pos := _, after := _, guard := _ } :: _) _ _); go_must (refine wpList_store_whole rfl 33 (.tmp 2) (.tmp 10) rfl w.heap.size tzero tzero R0.out size_tz rfl tzero_one ?_ ?_ ?_; go_simp; (go_simp; kernel_rfl); intro w3 hr3 ht3; have R3 := Lib.hid hr3; have T3 := Lib.hid ht3; clear hr3 ht3)))
    refine bodyPost_ret (results_cell1 (h := rfl) _ w3 ⟨w.heap.size, 0, none⟩ _ _ (by rfl) (by rfl) (run_loadVar_row w3 w.heap.size 33 33 tzero.toArray (0, 0) _ R3.out.is Try.underlying33 rfl (by rw [List.size_toArray]; exact size_tz))) rfl ?_
    exact .inr ⟨_, HP.out, rfl, B0.out.trans (T3.out.below (Nat.le_refl _))⟩
  have hbig' : ¬ (1232 : Int) < zs.length := by omega
  go_wp2_with fail
  refine HG.out.mono ?_
  rintro e w2 (⟨x, r, s, lo, hp, rfl, hlo, hv, hb⟩ | ⟨x, hp, rfl, hb⟩)
  rotate_left
  · have hx := pTx_err HZ.out hp
    have HP : Hid (wTx zs = .error x) := Lib.hid (by unfold wTx; rw [if_neg hbig, hp])
    have HR2 := Lib.hid (R0.out.below hb R0.out.lt)
    have HB2 := Lib.hid (B0.out.trans (hb.mono B0.out.size))
    have HLT := Lib.hid (show w.heap.size < w2.heap.size by have := HR2.out.lt; exact this)
    clear hp hb HG
    rcases hx with rfl | rfl
    all_goals
      go_wp2_with (first
        | ((with_reducible show wpList _ _ _ ({ dst := none, op := Op.store 33 (.tmp 4) _, type := _, pos := _, after := _, guard := _ } :: _) _ _); go_must (refine wpList_store_new rfl 33 (.tmp 4) (.tmp 14) rfl tzero size_tz tzero_one rfl ?_ ?_ ?_; go_simp; go_simp; intro w3 hr3 hb3 hz3; have B3 := Lib.hid hb3; clear hr3 hb3 hz3))
        | ((with_reducible show wpList _ _ _ ({ dst := none, op := Op.store 33 (.tmp 2) _, type := _, pos := _, after := _, guard := _ } :: _) _ _); go_must (refine wpList_store_whole rfl 33 (.tmp 2) (.tmp 19) rfl w.heap.size tzero tzero (HR2.out.below B3.out HLT.out) size_tz rfl tzero_one ?_ ?_ ?_; go_simp; (go_simp; kernel_rfl); intro w4 hr4 ht4; have R4 := Lib.hid hr4; have T4 := Lib.hid ht4; clear hr4 ht4)))
      refine bodyPost_ret (results_cell1 (h := rfl) _ w4 ⟨w.heap.size, 0, none⟩ _ _ (by rfl) (by rfl) (run_loadVar_row w4 w.heap.size 33 33 tzero.toArray (0, 0) _ R4.out.is Try.underlying33 rfl (by rw [List.size_toArray]; exact size_tz))) rfl ?_
      exact .inr ⟨_, HP.out, rfl, (HB2.out.trans (B3.out.mono HB2.out.size)).trans (T4.out.below (Nat.le_refl _))⟩
  have hle := (front_tx _ _ _ hp).le
  have HR2 := Lib.hid (R0.out.below hb R0.out.lt)
  have HB2 := Lib.hid (B0.out.trans (hb.mono B0.out.size))
  have HLT := Lib.hid HR2.out.lt
  have HTX := Lib.hid hv
  have HSZ := Lib.hid (show (Try.prog.info? 33).map (·.size) = some (TRaw.cells s x).length by rw [size_tx, tcells_len hv.in_.m.recent])
  have HTL := Lib.hid (tcells_len (s := s) (x := x) hv.in_.m.recent)
  have HCO := Lib.hid (tcells_one (s := s) (x := x))
  have HLO := Lib.hid hlo
  have HP2 := Lib.hid hp
  obtain ⟨T, hT⟩ : ∃ T : Int, T = (zs.length : Int) - r.length := ⟨_, rfl⟩
  rw [← hT]
  have HT := Lib.hid hT
  obtain ⟨cs, hcs⟩ : ∃ cs, cs = TRaw.cells s x := ⟨_, rfl⟩
  have HCS := Lib.hid hcs
  rw [← hcs] at HSZ HTL HCO ⊢
  clear hcs hT hp hv hlo hb HG
  by_cases h0 : r.length = 0
  · have hT0 : ¬ T < zs.length := by have := HT.out; omega
    have HP : Hid (wTx zs = .ok x) := Lib.hid (by unfold wTx; rw [if_neg hbig, HP2.out]; dsimp only; rw [if_pos h0])
    go_wp2_with (first
      | ((with_reducible show wpList _ _ _ ({ dst := none, op := Op.store 33 (.tmp 4) _, type := _, pos := _, after := _, guard := _ } :: _) _ _); go_must (refine wpList_store_new rfl 33 (.tmp 4) (.tmp 14) rfl cs HSZ.out HCO.out (by rw [HTL.out]; rfl) ?_ ?_ ?_; go_simp; go_simp; intro w3 hr3 hb3 hz3; have R3 := Lib.hid hr3; have B3 := Lib.hid hb3; clear hr3 hb3 hz3))
      | ((with_reducible show wpList _ _ _ ({ dst := some 26, op := Op.load _ _, type := _, pos := _, after := _, guard := _ } :: _) _ _); go_must (refine wpList_load_whole rfl 33 (.tmp 4) rfl w2.heap.size 33 cs _ Try.underlying33 rfl HSZ.out R3.out ?_ ?_; go_simp))
      | ((with_reducible show wpList _ _ _ ({ dst := none, op := Op.store 33 (.tmp 2) _, type := _, pos := _, after := _, guard := _ } :: _) _ _); go_must (refine wpList_store_whole rfl 33 (.tmp 2) (.tmp 26) rfl w.heap.size tzero cs (HR2.out.below B3.out HLT.out) HSZ.out (by rw [HTL.out]; rfl) HCO.out ?_ ?_ ?_; go_simp; go_simp; intro w4 hr4 ht4; have R4 := Lib.hid hr4; have T4 := Lib.hid ht4; clear hr4 ht4)))
    refine bodyPost_ret (results_cell1 (h := rfl) _ w4 ⟨w.heap.size, 0, none⟩ _ _ (by rfl) (by rfl) (run_loadVar_row w4 w.heap.size 33 33 cs.toArray (0, 0) _ R4.out.is Try.underlying33 rfl (by rw [List.size_toArray]; exact HSZ.out))) rfl ?_
    refine .inl ⟨x, s, lo, HP.out, by rw [HCS.out]; rfl, ?_, ?_, (HB2.out.trans (B3.out.mono HB2.out.size)).trans (T4.out.below (Nat.le_refl _))⟩
    · exact Nat.le_trans B0.out.size HLO.out
    · refine (HTX.out.stay (w' := w4) (by rw [T4.out.size]; exact B3.out.size) fun k a b => (T4.out.block k ?_).trans (B3.out.block k b)).more (by rw [T4.out.size]; exact B3.out.size)
      have := Z0.out
      have := HLO.out
      omega
  · have hT0 : T < zs.length := by have := HT.out; omega
    have HP : Hid (wTx zs = .error 4) := Lib.hid (by unfold wTx; rw [if_neg hbig, HP2.out]; dsimp only; rw [if_neg h0])
    go_wp2_with (first
      | ((with_reducible show wpList _ _ _ ({ dst := none, op := Op.store 33 (.tmp 4) _, type := _, pos := _, after := _, guard := _ } :: _) _ _); go_must (refine wpList_store_new rfl 33 (.tmp 4) (.tmp 14) rfl cs HSZ.out HCO.out (by rw [HTL.out]; rfl) ?_ ?_ ?_; go_simp; go_simp; intro w3 hr3 hb3 hz3; have B3 := Lib.hid hb3; clear hr3 hb3 hz3))
      | ((with_reducible show wpList _ _ _ ({ dst := none, op := Op.store 33 (.tmp 2) _, type := _, pos := _, after := _, guard := _ } :: _) _ _); go_must (refine wpList_store_whole rfl 33 (.tmp 2) (.tmp 25) rfl w.heap.size tzero tzero (HR2.out.below B3.out HLT.out) size_tz rfl tzero_one ?_ ?_ ?_; go_simp; (go_simp; kernel_rfl); intro w4 hr4 ht4; have R4 := Lib.hid hr4; have T4 := Lib.hid ht4; clear hr4 ht4)))
    refine bodyPost_ret (results_cell1 (h := rfl) _ w4 ⟨w.heap.size, 0, none⟩ _ _ (by rfl) (by rfl) (run_loadVar_row w4 w.heap.size 33 33 tzero.toArray (0, 0) _ R4.out.is Try.underlying33 rfl (by rw [List.size_toArray]; exact size_tz))) rfl ?_
    exact .inr ⟨_, HP.out, rfl, (HB2.out.trans (B3.out.mono HB2.out.size)).trans (T4.out.below (Nat.le_refl _))⟩
end Go.Proofs.Ytolijdbdpnbchaa

namespace Go.Proofs.Ytolijdbdpnbchaa
open Go.RowKit
set_option linter.unusedVariables false

section
variable {P : Program} {w : World} {base : Nat} {t ty e : TypeId} {i : TypeInfo} {z : Value} {bytes : Nat} {v : Value} {n m c B : Nat} {A : Option Addr} {xs news : List Value}

theorem append_keeps (ht : P.underlying t = some (.slice e)) (hi : P.info? e = some i) (hz : i.zero = some z) (hsize : i.size = 1) (hby : i.bytes = bytes)
    (hown : w.ownsRow base e 1 v n xs) (hr : Sees w B A m news) (h1 : ∀ u ∈ news, u.oneCell' = true) (hnm : n + m ≤ maxLen) (hbytes : (n + m) * bytes ≤ 140737488355328) (c : Nat)
    {v' : Value} {w' : World} (hrun : (Builtin.append_ #[t, t] ty #[v, .slice A m c]).run P w = .ok v' w') (A0 : Option Addr) (c0 : Nat) (hv : v = .slice A0 n c0) : Sees w' w'.heap.size A0 n xs := by
  have hseen : Sees w w.heap.size A0 n xs := by subst hv; exact Sees.of_own hown
  cases A with
  | none =>
    have hn : news = [] := by
      cases news with
      | nil => rfl
      | cons u r =>
        obtain ⟨a, h, _⟩ := hr.cell 0 u rfl
        cases h
    subst hn
    obtain rfl : m = 0 := by simpa using hr.len.symm
    rw [run_append_nothing ht hi hown c] at hrun
    cases hrun
    exact hseen
  | some ad =>
    have hnews : ∀ j u, news[j]? = some u → w.cell? (ad.add j) = some u := fun j u hu => by
      obtain ⟨a, h, _, hc⟩ := hr.cell j u hu
      cases h
      exact hc
    have hml := hr.len
    rcases hown.2 with ⟨h2, rfl⟩ | ⟨g, cap, cur, h2, hg, hh, hnc, hcm, hcs, htk⟩
    · have : xs = [] := by have := hown.1; simpa using this
      subst this
      exact Sees.nil _ _ _
    · rw [hv] at h2
      cases h2
      by_cases hroom : n + m ≤ c0
      · have hrm := run_append_room (P := P) w t ty e i ht hi g n c0 cur hh ad m c news (by rw [hml, hsize]; omega) hnews h1 hroom (by rw [hsize]; omega)
        rw [hv, hrm] at hrun
        cases hrun
        have hcell : ∀ j u, xs[j]? = some u → (w.setRow g (cur.toList.take (n * i.size) ++ news ++ cur.toList.drop (n * i.size + news.length)).toArray).cell? ⟨g, j, none⟩ = some u := fun j u hu => by
          have hj := (List.getElem?_eq_some_iff.1 hu).1
          have hx := hown.1
          rw [cell_of_row _ g j _ e (0, 0) (setRow_heap w g cur _ e _ hh)]
          rw [List.getElem?_toArray, List.append_assoc, List.getElem?_append_left (by rw [List.length_take, Array.length_toList, hsize]; omega)]
          have := htk
          rw [hsize]
          rw [this]
          exact hu
        exact ⟨by rw [hown.1]; omega, fun j u hu => ⟨_, rfl, by have := (Array.getElem?_eq_some_iff.1 hh).1; simpa [World.setRow] using this, by rw [addr_row, Nat.zero_add]; exact hcell j u hu⟩⟩
      · have hgr := run_append_grow (P := P) w t ty e i z ht hi hz ⟨g, 0, none⟩ n c0 xs (by rw [hown.1, hsize]) (fun j u hu => by
            obtain ⟨a, e1, _, hc⟩ := hseen.cell j u hu
            cases e1
            exact hc) ad m c news (by rw [hml, hsize]; omega) hnews (by omega) (by unfold maxLen at hnm; omega) (by rw [hby]; exact growslice_fits (by omega) hbytes)
        rw [hv, hgr] at hrun
        cases hrun
        exact ((hseen.drew).alloc (Nat.le_refl _) _).more (by simp)
end

/-- append of what is seen, onto a row of one's own, that keeps what it shows: the walk's arm -/
theorem wpList_addBK {P : Program} {w : World} {ops : Array Oper} {rest : List Oper} {o : Oper} {a : Act} {Q : Exit → Act → World → Prop} (hgd : o.guard = none) (s x : Operand) (t : TypeId)
    (ho : o.op = .call { callee := .builtin .append, args := #[s, x], argTypes := #[t, t] })
    (base : Nat) (ht : P.underlying t = some (.slice 5)) (hi : (P.info? 5).map (fun i => (i.zero, i.size, i.bytes)) = some (some (.int .u8 0), 1, 1))
    (A0 : Option Addr) (c0 : Nat) (xs : List Int) (hs : a.eval s = .slice A0 xs.length c0) (hown : OwnB w base (.slice A0 xs.length c0) xs) (B : Nat) (A : Option Addr) (m c : Nat) (news : List Int) (hx : a.eval x = .slice A m c) (hr : Sees w B A m (bv news))
    (hbase : base ≤ w.heap.size) (hnm : (xs ++ news).length ≤ 1099511627776)
    (h : ∀ v' w', OwnB w' base v' (xs ++ news) → Grew w w' (.slice A0 xs.length c0) v' → Sees w' w'.heap.size A0 xs.length (bv xs) → wpList P ops Q rest (a.put o.dst v') w') : wpList P ops Q (o :: rest) a w := by
  obtain ⟨i0, hi, hz0, hz1, hz2⟩ := info_parts hi
  have hm : news.length = m := by have := hr.len; rwa [bv_length] at this
  subst hm
  have hl : xs.length + news.length ≤ 1099511627776 := by simpa using hnm
  obtain ⟨v', w', hrun, h2, h3, h4⟩ := run_append_sees (P := P) (ty := o.type) ht hi hz0 hz1 hz2 rfl hown hr (bv_one news) (by unfold maxLen; omega) (by omega) hbase c
  have hk := append_keeps (P := P) ht hi hz0 hz1 hz2 hown hr (bv_one news) (by unfold maxLen; omega) (by omega) c hrun A0 c0 rfl
  refine wpList_plain hgd fun K hK => ?_
  unfold Oper.wp execOp
  simp only [ho, resolve, invoke, builtin, Sem.run_bind, Sem.run_pure, Result.andThen_ok, List.map_toArray, List.map_cons, List.map_nil, hs, hx, hrun]
  refine hK _ _ (h v' w' ?_ ⟨h3, fun k hk => ?_⟩ hk)
  · unfold OwnB
    rw [bv_append]
    simpa using h2
  · rcases h4 with h4 | h4
    · exact .inl (h4 ▸ hk)
    · rw [h4] at hk
      cases hk
      exact .inr (Nat.le_refl _)
end Go.Proofs.Ytolijdbdpnbchaa

namespace Go.Proofs.Ytolijdbdpnbchaa
open Go.RowKit
set_option linter.unusedVariables false

def lKey : List Int := 1 :: List.replicate 31 0
def lMsg : LMsg := ⟨false, 1, 0, 0, [lKey], zero32, [], []⟩
def lRaw (k : Nat) : Raw := ⟨some ⟨k, 0, none⟩, 1, 1, none, 0, 0, none, 0, 0⟩
def lTx : LTx := ⟨[], lMsg⟩
def lWant : List Int := [0, 1, 0, 0, 1] ++ lKey ++ List.replicate 32 0 ++ [0]
theorem l_enc : encTx lTx = lWant := by decide
theorem l_len : lWant.length = 70 := by decide
theorem l_fits : Fits lMsg := by
  unfold Fits lMsg
  exact ⟨.inr ⟨rfl, by show (1 : Int) < 128; omega⟩, by simp, by simp, by simp, by simp, by simp⟩
theorem l_bytes : AllBytes lWant := by unfold AllBytes IsByte; decide
theorem l_wf : lTx.Wf := by
  refine ⟨by simp [lTx], ⟨(by constructor <;> decide), (by constructor <;> decide), (by constructor <;> decide), fun k hk => ?_, ⟨rfl, ?_⟩, by simp [lTx, lMsg], by simp [lTx, lMsg]⟩⟩
  · obtain rfl : k = lKey := by simpa [lTx, lMsg] using hk
    exact ⟨rfl, by unfold AllBytes IsByte; decide⟩
  · unfold AllBytes IsByte; decide
theorem l_tfits : TFits lTx := ⟨by simp [lTx], l_fits⟩
theorem l_whole : wTx lWant = .ok lTx := by
  have h := pTx_put l_tfits l_wf []
  rw [List.append_nil, l_enc] at h
  unfold wTx
  rw [if_neg (by rw [l_len]; omega), h]
  rfl
theorem l_more : wTx (lWant ++ [0]) = .error 4 := by
  have h := pTx_put l_tfits l_wf [0]
  rw [l_enc] at h
  unfold wTx
  rw [if_neg (by rw [List.length_append, l_len]; simp), h]
  rfl
theorem l_big (n : Nat) (h : 1232 < n) : wTx (List.replicate n 0) = .error 3 := by
  unfold wTx
  rw [if_pos (by rw [List.length_replicate]; exact h)]
theorem l_in {w : World} {k t : Nat} (hr : Row w k t (bv lKey)) : MsgIn w w.heap.size (lRaw k) lMsg :=
  ⟨rfl, ⟨rfl, by simp [lMsg, lKey], by
      have := hr.sees0
      simpa [lMsg, lRaw, bv_length, lKey] using this⟩, ⟨rfl, fun i x h => by simp [lMsg] at h⟩, ⟨rfl, fun i x h => by simp [lMsg] at h⟩, by simp [lRaw, maxLen], by simp [lRaw, maxLen], by simp [lRaw, maxLen]⟩
theorem l_tin {w : World} {k t : Nat} (hr : Row w k t (bv lKey)) : TxIn w w.heap.size ⟨none, 0, 0, lRaw k⟩ lTx :=
  ⟨⟨rfl, by simp [lTx], Sees.nil _ _ _⟩, by simp [maxLen], l_in hr⟩

/-- as many signatures as make it too long -/
def lTx19 : LTx := ⟨List.replicate 19 (List.replicate 64 0), lMsg⟩
theorem l_enc19 : (encTx lTx19).length = 1286 := by decide +kernel
theorem l_flat19 : bv lTx19.sigs.flatten = bv (List.replicate 1216 0) := by
  have : lTx19.sigs.flatten = List.replicate 1216 0 := by decide +kernel
  rw [this]
theorem made64 (n : Nat) : (madeCells (Value.agg (zeros 64).toArray).cells (n * 64)).toList = bv (List.replicate (n * 64) 0) := by
  apply List.ext_getElem?
  intro i
  have hz : (Value.agg (zeros 64).toArray).cells.size = 64 := by kernel_rfl
  have hv : ∀ j, j < 64 → (Value.agg (zeros 64).toArray).cells[j]! = .int .u8 0 := fun j hj => by
    rw [show (Value.agg (zeros 64).toArray).cells = (zeros 64).toArray from rfl]
    have hs : j < (zeros 64).toArray.size := by simp only [List.size_toArray, zeros, List.length_replicate]; exact hj
    rw [getElem!_pos (zeros 64).toArray j hs, List.getElem_toArray]
    exact List.eq_of_mem_replicate (List.getElem_mem _)
  simp only [madeCells, hz, bv, cv, List.map_replicate, Array.toList_map, Array.toList_range]
  by_cases h : i < n * 64
  · rw [List.getElem?_map, List.getElem?_range h, List.getElem?_replicate_of_lt h]
    simp [hv (i % 64) (by omega)]
  · rw [List.getElem?_eq_none (by simp; omega), List.getElem?_eq_none (by simp; omega)]
theorem made19 : (madeCells (Value.agg (zeros 64).toArray).cells (19 * 64)).toList = bv (List.replicate 1216 0) := made64 19
theorem l_in19 {w : World} {k t g : Nat} (hr : Row w k t (bv lKey)) (hg : Row w g 62 (bv (List.replicate 1216 0))) : TxIn w w.heap.size ⟨some ⟨g, 0, none⟩, 19, 19, lRaw k⟩ lTx19 := by
  refine ⟨⟨rfl, fun y hy => ?_, ?_⟩, by simp [maxLen], l_in hr⟩
  · obtain rfl : y = List.replicate 64 0 := List.eq_of_mem_replicate hy
    rfl
  · rw [l_flat19]
    have := hg.sees0
    rw [bv_length, List.length_replicate] at this
    exact this

theorem split39 (m : List Value) (h : m.length = 39) : ∃ f : Fin 39 → Value, m = List.ofFn f := ⟨fun i => m.getD i undef, by
    refine List.ext_getElem (by simpa using h) fun i h1 h2 => ?_
    rw [List.getElem_ofFn, List.getD_eq_getElem?_getD, List.getElem?_eq_getElem h1]
    rfl⟩
theorem built_tx1 (m : List Value) (h : m.length = 39) : Try.prog.built 33 [(1, .agg m.toArray)] = some (.slice none 0 0 :: m).toArray := by
  obtain ⟨f, rfl⟩ := split39 m h
  kernel_rfl
theorem built_tx2 (m : List Value) (h : m.length = 39) (A : Option Addr) (n c : Nat) : Try.prog.built 33 [(1, .agg m.toArray), (0, .slice A n c)] = some (.slice A n c :: m).toArray := by
  obtain ⟨f, rfl⟩ := split39 m h
  kernel_rfl

theorem wp_make_full {P : Program} {w : World} {o : Oper} {a : Act} {K : Act → World → Prop} {Q : Exit → Act → World → Prop}
    (l c : Operand) (t : TypeId) (hop : o.op = Op.makeSlice t l c)
    (base : Nat) (e : TypeId) (i : TypeInfo) (z : Value) (size : Nat) (h1 : P.underlying t = some (.slice e)) (h2 : P.info? e = some i) (h3 : i.zero = some z) (h4 : i.size = size)
    (kl kc : IntKind) (n : Nat) (hl : a.eval l = .int kl n) (hc : a.eval c = .int kc n) (b2 : i.bytes * n ≤ 281474976710656) (b3 : n ≤ maxLen) (b4 : base ≤ w.heap.size)
    (hK : ∀ w', w'.ownsRow base e size (.slice (some ⟨w.heap.size, 0, none⟩) n n) n (madeCells z.cells (n * size)).toList → w.grownBy w' none → K (a.put o.dst (.slice (some ⟨w.heap.size, 0, none⟩) n n)) w') : o.wp P a w K Q := by
  obtain ⟨w', hrun, r1, r2⟩ := run_make_full (P := P) w base t e i z size h1 h2 h3 h4 kl kc n b2 b3 b4
  unfold Oper.wp
  simp [execOp, hop, hl, hc, hrun, Result.andThen]
  exact hK w' r1 r2

set_option maxRecDepth 100000 in
set_option maxHeartbeats 4000000 in
theorem lives4 (w : World) : Calls Try.prog 9 #[] w fun e w' => e = .returned (.bool true) ∧ Below w.heap.size w w' := by
  have hk0 := Row.new w 58 (bv lKey)
  have HK0 := Lib.hid hk0
  have ez : (w.alloc (.cells (bv lKey).toArray 58)).heap.size = w.heap.size + 1 := by simp
  obtain ⟨mc, hmc⟩ : ∃ mc, mc = Raw.cells (lRaw w.heap.size) lMsg := ⟨_, rfl⟩
  have HMC := Lib.hid hmc
  have HMO := Lib.hid (show ∀ u ∈ mc, u.oneCell' = true by rw [hmc]; exact cells_one)
  have HML := Lib.hid (show mc.length = 39 by rw [hmc]; exact cells_len rfl)
  have HSM := Lib.hid (show (Try.prog.info? 31).map (·.size) = some mc.length by rw [hmc, size_msg, cells_len rfl])
  clear hk0 hmc
  go_enter Try.func9, Try.ntmps9
  go_upto_region 2 with (first
    | ((with_reducible show wpList _ _ _ ({ dst := some 14, op := Op.buildSlice _ _ _, type := _, pos := _, after := _, guard := _ } :: _) _ _); go_must (refine wpList_buildOne rfl 25 58 (.tmp 13) rfl (bv lKey) _ 32 32 Try.underlying25 info_key (by kernel_rfl) (by omega) (by omega) (by rfl) ?_ ?_; (go_simp; kernel_rfl)))
    | ((with_reducible show wpList _ _ _ ({ dst := none, op := Op.store 31 _ _, type := _, pos := _, after := _, guard := _ } :: _) _ _); go_must (refine wpList_store_new rfl 31 (.tmp 1) (.tmp 15) rfl mc HSM.out HMO.out (by rw [HML.out]; rfl) ?_ ?_ ?_; go_simp; (rw [HMC.out]; go_simp; kernel_rfl); intro w2 hr2 hb2 hz2)))
  rw [ez] at hr2 hb2 hz2
  have K2 : Hid (Row w2 w.heap.size 58 (bv lKey)) := Lib.hid (HK0.out.below hb2 (by omega))
  have R2 := Lib.hid hr2
  have B2 := Lib.hid (((Below.refl w.heap.size w).alloc (Nat.le_refl _) (.cells (bv lKey).toArray 58)).trans (hb2.mono (Nat.le_succ _)))
  have Z2 := Lib.hid hz2
  have HP := Lib.hid (putTx ⟨none, 0, 0, lRaw w.heap.size⟩ lTx w2.heap.size w2 (l_tin K2.out) (Nat.le_refl _) (by simp [lTx]) (by decide))
  rw [show TRaw.cells ⟨none, 0, 0, lRaw w.heap.size⟩ lTx = .slice none 0 0 :: mc by rw [HMC.out]; rfl] at HP
  clear hr2 hb2 ez HK0 hz2
  go_wp2_with (first
    | ((with_reducible show wpList _ _ _ ({ dst := some 17, op := Op.load _ _, type := _, pos := _, after := _, guard := _ } :: _) _ _); go_must (refine wpList_load_whole rfl 31 (.tmp 1) rfl (w.heap.size + 1) 31 mc _ Try.underlying31 rfl HSM.out R2.out ?_ ?_; go_simp))
    | ((with_reducible show wpList _ _ _ ({ dst := some 18, op := Op.build _ _, type := _, pos := _, after := _, guard := _ } :: _) _ _); go_must (refine wpList_plain rfl fun K hK => wp_built _ _ _ rfl (by simp only [List.map_toArray, List.map_cons, List.map_nil]; exact built_tx1 mc HML.out) (hK _ _ ?_))))
  refine HP.out.mono ?_
  rintro e w3 (⟨hf, _⟩ | ⟨_, hlong, _⟩ | ⟨_, _, ⟨v, rfl, ho⟩, hb3⟩)
  · exact absurd l_fits hf
  · rw [l_enc, l_len] at hlong
    omega
  rw [l_enc] at ho
  obtain ⟨A, c, e1⟩ := ho.form
  have e2 : v = .slice A 70 c := e1
  subst e2
  have hcap : 70 ≤ c ∧ c ≤ maxLen := own_caps ho
  have hs3 : Sees w3 w3.heap.size A 70 (bv lWant) := ho.sees
  have O3 := Lib.hid ho
  have HVO := Lib.hid (show ∀ k, (Value.slice A 70 c).ownBlock = some k → w2.heap.size ≤ k ∧ k < w3.heap.size from ho.lt)
  have S3 := Lib.hid hs3
  have K3 := Lib.hid (K2.out.below hb3 K2.out.lt)
  have R3 := Lib.hid (R2.out.below hb3 R2.out.lt)
  have B3 := Lib.hid (B2.out.trans (hb3.mono B2.out.size))
  have Z3 := Lib.hid (show w2.heap.size ≤ w3.heap.size from hb3.size)
  have HW := Lib.hid (whole_ A 70 c w3.heap.size lWant w3 hs3 (Nat.le_refl _) hcap.1 hcap.2 l_bytes)
  clear ho e1 hs3 hb3 HP K2 R2 B2
  go_wp2_with fail
  refine HW.out.mono ?_
  rintro e w4 (⟨x, s, lo, hp, rfl, hlo, hv, hb4⟩ | ⟨x, hp, rfl, hb4⟩)
  rotate_left
  · rw [l_whole] at hp; cases hp
  obtain rfl : lTx = x := by rw [l_whole] at hp; cases hp; rfl
  obtain ⟨SA, sn, sc, q⟩ := s
  obtain rfl : sn = 0 := hv.in_.sigs.len.symm
  have htl : (TRaw.cells ⟨SA, 0, sc, q⟩ lTx).length = 40 := tcells_len rfl
  have HTSZ := Lib.hid (show (Try.prog.info? 33).map (·.size) = some (TRaw.cells ⟨SA, 0, sc, q⟩ lTx).length by rw [size_tx, htl])
  have HTL := Lib.hid htl
  have HTO := Lib.hid (tcells_one (s := ⟨SA, 0, sc, q⟩) (x := lTx))
  have HT0 := Lib.hid (show (TRaw.cells ⟨SA, 0, sc, q⟩ lTx)[0]? = some (.slice SA 0 sc) from rfl)
  have HTM := Lib.hid (tcells_m (s := ⟨SA, 0, sc, q⟩) (x := lTx))
  have HSQ := Lib.hid (show (Try.prog.info? 31).map (·.size) = some (q.cells lMsg).length by rw [size_msg, cells_len rfl])
  have HV4 := Lib.hid hv
  have O4 := Lib.hid (O3.out.below hb4)
  have S4 := Lib.hid (S3.out.below hb4)
  have K4 := Lib.hid (K3.out.below hb4 K3.out.lt)
  have R4 := Lib.hid (R3.out.below hb4 R3.out.lt)
  have B4 := Lib.hid (B3.out.trans (hb4.mono B3.out.size))
  have Z4 := Lib.hid (show w3.heap.size ≤ w4.heap.size from hb4.size)
  generalize TRaw.cells ⟨SA, 0, sc, q⟩ lTx = tc at *
  have HLO := Lib.hid hlo
  clear hp hv hlo hb4 htl HW O3 S3 K3 R3 B3
  go_upto_region 4 with (((with_reducible show wpList _ _ _ ({ dst := none, op := Op.store 33 _ _, type := _, pos := _, after := _, guard := _ } :: _) _ _); go_must (refine wpList_store_new rfl 33 (.tmp 4) (.tmp 25) rfl tc HTSZ.out HTO.out (by rw [HTL.out]; rfl) ?_ ?_ ?_; go_simp; go_simp; intro w5 hr5 hb5 hz5)))
  have R5x := Lib.hid hr5
  have HX5 : Hid (TxV w5 lo w4.heap.size ⟨SA, 0, sc, q⟩ lTx) := Lib.hid (HV4.out.stay hb5.size fun k a b => hb5.block k b)
  have O5 := Lib.hid (O4.out.below hb5)
  have S5 := Lib.hid (S4.out.below (hb5.mono Z4.out))
  have K5 := Lib.hid (K4.out.below hb5 K4.out.lt)
  have R5 := Lib.hid (R4.out.below hb5 R4.out.lt)
  have B5 := Lib.hid (B4.out.trans (hb5.mono B4.out.size))
  have Z5 := Lib.hid (show w4.heap.size < w5.heap.size by omega)
  have hl1 := Row.new w5 5 (bv [0])
  have HL1 := Lib.hid (show Sees (w5.alloc (.cells (bv [0]).toArray 5)) (w5.heap.size + 1) (some ⟨w5.heap.size, 0, none⟩) 1 (bv [0]) from hl1.sees0.more (by simp))
  have hba := (Below.refl w5.heap.size w5).alloc (Nat.le_refl _) (.cells (bv [0]).toArray 5)
  have HBA := Lib.hid hba
  have O5a := Lib.hid (O5.out.below hba)
  have HL70 := Lib.hid l_len
  clear hr5 hb5 hz5 hl1 hba O4 S4 K4 R4 B4 HV4 O5
  go_wp2_with (first
    | (at_builtin; (with_reducible show wpList _ _ _ ({ dst := some 30, op := _, type := _, pos := _, after := _, guard := _ } :: _) _ _); go_must (refine wpList_addBK (w := w5.alloc (.cells (bv [0]).toArray 5)) rfl (.tmp 28) (.tmp 29) 37 rfl w2.heap.size Try.underlying37 info_u8 A c lWant ?_ O5a.out (w5.heap.size + 1) (some ⟨w5.heap.size, 0, none⟩) 1 1 [0] ?_ HL1.out ?_ ?_ ?_; (go_simp; rfl); go_simp; (have := HBA.out.size; have := Z5.out; have := Z4.out; have := Z3.out; omega); (rw [List.length_append, HL70.out]; simp); intro v6 w6 ho6 hg6 hk6; have O6 := Lib.hid ho6; have S6 := Lib.hid hk6; have G6 := Lib.hid hg6; obtain ⟨A6, c6, e6⟩ := ho6.form; clear ho6 hg6 hk6)))
  have e7 : v6 = .slice A6 71 c6 := e6
  subst e7
  have hzs : w2.heap.size ≤ w5.heap.size := by have := Z5.out; have := Z4.out; have := Z3.out; omega
  have hgb : Below w2.heap.size w5 w6 := (HBA.out.mono hzs).trans (G6.out.belowB O5a.out (Nat.le_trans hzs HBA.out.size))
  have K6 := Lib.hid (K5.out.below hgb (by have := Z2.out; omega))
  have R6 := Lib.hid (R5.out.below hgb (by have := Z2.out; omega))
  have B6 := Lib.hid (B5.out.trans (hgb.mono (by have := Z2.out; omega)))
  have R6x := Lib.hid (G6.out.row (R5x.out.alloc (.cells (bv [0]).toArray 5)) (fun e => by have := HVO.out _ e.symm; have := Z4.out; omega))
  have HX6 : Hid (TxV w6 lo w4.heap.size ⟨SA, 0, sc, q⟩ lTx) := Lib.hid (HX5.out.stay (Nat.le_trans HBA.out.size G6.out.size) fun k a b => by
    have h1 := Z5.out
    have h2 := HLO.out
    exact (G6.out.grown.block k (by have := HBA.out.size; omega) (fun e => by have := HVO.out _ e.symm; omega)).trans (HBA.out.block k (by omega)))
  have hcap6 := own_caps O6.out
  have hs6 : Sees w6 w6.heap.size A6 71 (bv (lWant ++ [0])) := O6.out.sees
  have Z6 := Lib.hid (show w5.heap.size < w6.heap.size by have := G6.out.size; simp at this; omega)
  have HW := Lib.hid (whole_ A6 71 c6 w6.heap.size (lWant ++ [0]) w6 hs6 (Nat.le_refl _) hcap6.1 hcap6.2 (l_bytes.app (by intro z hz; simp at hz; subst hz; constructor <;> decide)))
  clear e6 hcap6 hs6 G6 O6 O5a HBA HL1 K5 R5 B5 R5x HX5 hgb S5
  refine HW.out.mono ?_
  rintro e w7 (⟨x, s, lo7, hp, rfl, hlo, hv, hb7⟩ | ⟨x, hp, rfl, hb7⟩)
  · rw [l_more] at hp; cases hp
  obtain rfl : x = 4 := by rw [l_more] at hp; cases hp; rfl
  have S7 := Lib.hid (S6.out.below hb7)
  have K7 := Lib.hid (K6.out.below hb7 K6.out.lt)
  have R7 := Lib.hid (R6.out.below hb7 R6.out.lt)
  have B7 := Lib.hid (B6.out.trans (hb7.mono B6.out.size))
  have R7x := Lib.hid (R6x.out.below hb7 R6x.out.lt)
  have HX7 : Hid (TxV w7 lo w4.heap.size ⟨SA, 0, sc, q⟩ lTx) := Lib.hid (HX6.out.stay hb7.size fun k a b => hb7.block k (by have := Z6.out; have := Z5.out; omega))
  have Z7 := Lib.hid (show w6.heap.size ≤ w7.heap.size from hb7.size)
  clear hp hb7 HW S6 K6 R6 B6 R6x HX6
  obtain ⟨i0, hi, hz0, hz1, hz2⟩ := info_parts info_u8
  go_wp2_with (first
    | ((with_reducible show wpList _ _ _ ({ dst := none, op := Op.store 33 (.tmp 6) _, type := _, pos := _, after := _, guard := _ } :: _) _ _); go_must (refine wpList_store_new rfl 33 (.tmp 6) (.tmp 32) rfl tzero size_tz tzero_one rfl ?_ ?_ ?_; go_simp; go_simp; intro w8 hr8 hb8 hz8))
    | (at_make; (with_reducible show wpList _ _ _ ({ dst := some 35, op := _, type := _, pos := _, after := _, guard := _ } :: _) _ _); go_must (refine wpList_make_full _ rfl (.const (.int .i64 1233)) (.const (.int .i64 1233)) 37 rfl w8.heap.size 5 i0 _ 1 Try.underlying37 hi hz0 hz1 .i64 .i64 1233 1233 1233 rfl rfl rfl rfl (by rw [hz2]; omega) (by unfold maxLen; omega) (Nat.le_refl _) ?_; intro w9 hown hgrow; rw [made_bytes] at hown; have hrow := Row.of_own hown; have hb9 := (Below.refl w8.heap.size w8).grown hgrow (Nat.le_refl _) (fun k hk => by cases hk); clear hown hgrow)))
  have hs9 := hrow.sees0
  rw [bv_length, List.length_replicate] at hs9
  have e8 : w8.heap.size = w7.heap.size + 1 := hz8
  have hbw := hb8.trans (hb9.mono (by omega))
  rw [e8] at hs9
  have HW := Lib.hid (whole_ (some ⟨w7.heap.size + 1, 0, none⟩) 1233 1233 w9.heap.size (List.replicate 1233 0) w9 hs9 (Nat.le_refl _) (Nat.le_refl _) (by unfold maxLen; omega) (fun z hz => by rw [List.eq_of_mem_replicate hz]; constructor <;> decide))
  have S9 := Lib.hid (S7.out.below (hbw.mono Z7.out))
  have K9 := Lib.hid (K7.out.below hbw K7.out.lt)
  have R9 := Lib.hid (R7.out.below hbw R7.out.lt)
  have B9 := Lib.hid (B7.out.trans (hbw.mono B7.out.size))
  have R9x := Lib.hid (R7x.out.below hbw R7x.out.lt)
  have HX9 : Hid (TxV w9 lo w4.heap.size ⟨SA, 0, sc, q⟩ lTx) := Lib.hid (HX7.out.stay hbw.size fun k a b => hbw.block k (by have := Z7.out; have := Z6.out; have := Z5.out; omega))
  have Z9 := Lib.hid (show w7.heap.size ≤ w9.heap.size from hbw.size)
  clear hs9 hrow hb8 hb9 hr8 hbw S7 K7 R7 B7 R7x HX7 hz8 e8 hi hz0 hz1 hz2
  refine HW.out.mono ?_
  rintro e w10 (⟨x, s, lo7, hp, rfl, hlo, hv, hb10⟩ | ⟨x, hp, rfl, hb10⟩)
  · rw [l_big 1233 (by omega)] at hp; cases hp
  obtain rfl : x = 3 := by rw [l_big 1233 (by omega)] at hp; cases hp; rfl
  have S10 := Lib.hid (S9.out.below (hb10.mono (by have := Z9.out; have := Z7.out; omega)))
  have K10 := Lib.hid (K9.out.below hb10 K9.out.lt)
  have R10 := Lib.hid (R9.out.below hb10 R9.out.lt)
  have B10 := Lib.hid (B9.out.trans (hb10.mono B9.out.size))
  have R10x := Lib.hid (R9x.out.below hb10 R9x.out.lt)
  have Z10 := Lib.hid (show w9.heap.size ≤ w10.heap.size from hb10.size)
  have HX10 : Hid (TxV w10 lo w4.heap.size ⟨SA, 0, sc, q⟩ lTx) := Lib.hid (HX9.out.stay hb10.size fun k a b => hb10.block k (by have := Z9.out; have := Z7.out; have := Z6.out; have := Z5.out; omega))
  clear hp hb10 HW S9 K9 R9 B9 R9x HX9
  go_upto_region 6 with (first
    | ((with_reducible show wpList _ _ _ ({ dst := none, op := Op.store 33 (.tmp 8) _, type := _, pos := _, after := _, guard := _ } :: _) _ _); go_must (refine wpList_store_new rfl 33 (.tmp 8) (.tmp 37) rfl tzero size_tz tzero_one rfl ?_ ?_ ?_; go_simp; go_simp; intro w11 hr11 hb11 hz11)))
  obtain ⟨V, hV⟩ : ∃ V, V = w11.drew := ⟨_, rfl⟩
  have SV : Hid (Sees V w6.heap.size A 70 (bv lWant)) := Lib.hid (by rw [hV]; exact (S10.out.below (hb11.mono (by have := Z10.out; have := Z9.out; have := Z7.out; omega))).drew)
  have KV : Hid (Row V w.heap.size 58 (bv lKey)) := Lib.hid (by rw [hV]; exact (K10.out.below hb11 K10.out.lt).drew)
  have RV : Hid (Row V (w.heap.size + 1) 31 mc) := Lib.hid (by rw [hV]; exact (R10.out.below hb11 R10.out.lt).drew)
  have BV : Hid (Below w.heap.size w V) := Lib.hid (by rw [hV]; exact (B10.out.trans (hb11.mono B10.out.size)).drew)
  have RVx : Hid (Row V w4.heap.size 33 tc) := Lib.hid (by rw [hV]; exact (R10x.out.below hb11 R10x.out.lt).drew)
  have HXV : Hid (TxV V lo w4.heap.size ⟨SA, 0, sc, q⟩ lTx) := Lib.hid (by rw [hV]; exact HX10.out.stay hb11.size fun k a b => hb11.block k (by have := Z10.out; have := Z9.out; have := Z7.out; have := Z6.out; have := Z5.out; omega))
  have ZV : Hid (w10.heap.size ≤ V.heap.size) := Lib.hid (by rw [hV]; exact hb11.size)
  have HS : Hid (V.rangeAt (w.heap.size + 1) 0 mc) := Lib.hid fun j u hu => by rw [RV.out.cell, Nat.zero_add]; exact hu
  refine wp_region_held_drew (S := fun V => V.rangeAt (w.heap.size + 1) 0 mc) (by kernel_rfl) (by rw [← hV]; exact HS.out) (fun _ => ?_)
  rw [← hV]
  clear hV hr11 hb11 hz11 S10 K10 R10 B10 R10x HX10
  obtain ⟨i1, hi, hz0, hz1, hz2⟩ := info_parts info_sig
  refine takeL (i := 0) (v := .agg mc.toArray) rfl (by kernel_rfl) (by kernel_rfl) (by kernel_rfl) (fun _ _ _ h => h) (yieldsIf_load_mid (by rfl) 31 (.tmp 1) rfl (w.heap.size + 1) 0 (by go_simp) mc _ (fun w hw => hw) Try.underlying31 rfl HSM.out) HS.out ?_
  try simp only [Act.put, List.setIfInBounds_toArray, List.set_cons_zero, List.set_cons_succ]
  refine readyL (i := 1) rfl (by kernel_rfl) (by kernel_rfl) fun K hK => ?_
  refine wp_make_full (.const (.int .i64 19)) (.const (.int .i64 19)) 22 rfl V.heap.size 62 i1 _ 64 Try.underlying22 hi hz0 hz1 .i64 .i64 19 rfl rfl (by rw [hz2]; omega) (by unfold maxLen; omega) (Nat.le_refl _) ?_
  intro w12 hown hgrow
  rw [made19] at hown
  have hrow := Row.of_ownN hown
  have hb12 := (Below.refl V.heap.size V).grown hgrow (Nat.le_refl _) (fun k hk => by cases hk)
  have K12 := Lib.hid (KV.out.below hb12 KV.out.lt)
  have R12 := Lib.hid (RV.out.below hb12 RV.out.lt)
  have G12 := Lib.hid hrow
  have B12 := Lib.hid hb12
  have HS12 : Hid (w12.rangeAt (w.heap.size + 1) 0 mc) := Lib.hid fun j u hu => by rw [R12.out.cell, Nat.zero_add]; exact hu
  clear hown hgrow hrow hb12 hi hz0 hz1 hz2
  refine hK.out _ _ HS12.out ?_
  clear hK K
  try simp only [Act.put, List.setIfInBounds_toArray, List.set_cons_zero, List.set_cons_succ]
  refine takeL (i := 2) (v := .agg (Value.slice (some ⟨V.heap.size, 0, none⟩) 19 19 :: mc).toArray) rfl (by kernel_rfl) (by kernel_rfl) (by kernel_rfl) (fun _ _ _ h => h) (Or.inl ⟨by rfl, fun w _ => ?_⟩) HS12.out ?_
  · exact exec_built w _ _ _ rfl (by simp only [List.map_toArray, List.map_cons, List.map_nil]; exact built_tx2 mc HML.out _ _ _)
  try simp only [Act.put, List.setIfInBounds_toArray, List.set_cons_zero, List.set_cons_succ]
  have HP := Lib.hid (putTx ⟨some ⟨V.heap.size, 0, none⟩, 19, 19, lRaw w.heap.size⟩ lTx19 w12.heap.size w12 (l_in19 K12.out G12.out) (Nat.le_refl _) (by simp [lTx19]) (by decide))
  rw [show TRaw.cells ⟨some ⟨V.heap.size, 0, none⟩, 19, 19, lRaw w.heap.size⟩ lTx19 = .slice (some ⟨V.heap.size, 0, none⟩) 19 19 :: mc by rw [HMC.out]; rfl] at HP
  refine readyL (i := 3) rfl (by kernel_rfl) (by kernel_rfl) fun K hK => ?_
  go_simp
  refine HP.out.mono ?_
  rintro e w13 (⟨hf, _⟩ | ⟨_, _, rfl, hb13⟩ | ⟨_, hlong, _⟩)
  · exact absurd l_fits hf
  rotate_left
  · rw [l_enc19] at hlong
    omega
  simp only []
  have bV13 := B12.out.trans (hb13.mono B12.out.size)
  have R13 := Lib.hid (R12.out.below hb13 R12.out.lt)
  have HS13 : Hid (w13.rangeAt (w.heap.size + 1) 0 mc) := Lib.hid fun j u hu => by rw [R13.out.cell, Nat.zero_add]; exact hu
  have K13 := Lib.hid (K12.out.below hb13 K12.out.lt)
  have S13 := Lib.hid (SV.out.below (bV13.mono (by have := ZV.out; have := Z10.out; have := Z9.out; have := Z7.out; omega)))
  have B13 := Lib.hid (BV.out.trans (bV13.mono BV.out.size))
  have R13x := Lib.hid (RVx.out.below bV13 RVx.out.lt)
  have HX13 : Hid (TxV w13 lo w4.heap.size ⟨SA, 0, sc, q⟩ lTx) := Lib.hid (HXV.out.stay bV13.size fun k a b => bV13.block k (by have := ZV.out; have := Z10.out; have := Z9.out; have := Z7.out; have := Z6.out; have := Z5.out; omega))
  have Z13 := Lib.hid (show V.heap.size ≤ w13.heap.size from bV13.size)
  clear bV13 hb13 HP
  refine hK.out _ _ HS13.out ?_
  clear hK K
  try simp only [Act.put, List.setIfInBounds_toArray, List.set_cons_zero, List.set_cons_succ]
  refine takeL (i := 4) (v := ?_) rfl (by kernel_rfl) (by kernel_rfl) (by kernel_rfl) (fun _ _ _ h => h) (Or.inl ⟨by rfl, ?_⟩) HS13.out ?_
  rotate_left
  · intro w hw
    try dsimp only at hw
    go_simp
    try with_reducible rfl
  try simp only [Act.put, List.setIfInBounds_toArray, List.set_cons_zero, List.set_cons_succ]
  refine takeL (i := 5) (v := ?_) rfl (by kernel_rfl) (by kernel_rfl) (by kernel_rfl) (fun _ _ _ h => h) (Or.inl ⟨by rfl, ?_⟩) HS13.out ?_
  rotate_left
  · intro w hw
    try dsimp only at hw
    go_simp
    try with_reducible rfl
  try simp only [Act.put, List.setIfInBounds_toArray, List.set_cons_zero, List.set_cons_succ]
  refine takeL (i := 6) (v := ?_) rfl (by kernel_rfl) (by kernel_rfl) (by kernel_rfl) (fun _ _ _ h => h) (Or.inl ⟨by rfl, ?_⟩) HS13.out ?_
  rotate_left
  · intro w hw
    try dsimp only at hw
    go_simp
    try with_reducible rfl
  try simp only [Act.put, List.setIfInBounds_toArray, List.set_cons_zero, List.set_cons_succ]
  refine takeL (i := 7) (v := ?_) rfl (by kernel_rfl) (by kernel_rfl) (by kernel_rfl) (fun _ _ _ h => h) (Or.inl ⟨by rfl, ?_⟩) HS13.out ?_
  rotate_left
  · intro w hw
    try dsimp only at hw
    go_simp
    try with_reducible rfl
  try simp only [Act.put, List.setIfInBounds_toArray, List.set_cons_zero, List.set_cons_succ]
  refine takeL (i := 8) (v := ?_) rfl (by kernel_rfl) (by kernel_rfl) (by kernel_rfl) (fun _ _ _ h => h) (Or.inl ⟨by rfl, ?_⟩) HS13.out ?_
  rotate_left
  · intro w hw
    try dsimp only at hw
    go_simp
    try with_reducible rfl
  try simp only [Act.put, List.setIfInBounds_toArray, List.set_cons_zero, List.set_cons_succ]
  refine wpAnyH_done (by kernel_rfl) ?_ _
  have hz70 : (bv lWant)[0]? = some (.int .u8 0) := rfl
  obtain ⟨ad, rfl, hadb, hadc⟩ := S13.out.cell 0 _ hz70
  rw [show ad.add 0 = ad by simp [Addr.add]] at hadc
  have x0 : w13.cell? ⟨w4.heap.size, 0, none⟩ = some (.slice SA 0 sc) := (R13x.out.cell 0).trans HT0.out
  have HSA := Lib.hid (same_msg q (lRaw w.heap.size) lMsg w4.heap.size w13.heap.size w13 HX13.out.in_.m (by have := R13x.out.lt; omega) (l_in K13.out) (Nat.le_refl _))
  rw [show (lRaw w.heap.size).cells lMsg = mc from HMC.out.symm] at HSA
  go_wp2_with (first
    | ((with_reducible show wpList _ _ _ ({ dst := some 65, op := Op.load _ _, type := _, pos := _, after := _, guard := _ } :: _) _ _); go_must (refine wpList_load_atg (by kernel_rfl) 31 (.tmp 64) rfl ⟨w4.heap.size, 1, none⟩ (q.cells lMsg) _ Try.underlying31 rfl HSQ.out (fun j v hv => by rw [addr_row, R13x.out.cell, HTM.out]; exact hv) ?_ ?_; go_simp))
    | ((with_reducible show wpList _ _ _ ({ dst := some 66, op := Op.load _ _, type := _, pos := _, after := _, guard := _ } :: _) _ _); go_must (refine wpList_load_atg (by kernel_rfl) 31 (.tmp 1) rfl ⟨w.heap.size + 1, 0, none⟩ mc _ Try.underlying31 rfl HSM.out (fun j v hv => by rw [addr_row, R13.out.cell, Nat.zero_add]; exact hv) ?_ ?_; go_simp)))
  refine HSA.out.mono ?_
  rintro e w14 ⟨rfl, hb14⟩
  have x0 : w14.cell? ⟨w4.heap.size, 0, none⟩ = some (.slice SA 0 sc) := ((R13x.out.below hb14 R13x.out.lt).cell 0).trans HT0.out
  have B14 := Lib.hid (B13.out.trans (hb14.mono B13.out.size))
  clear hb14
  go_wp2_with fail
  go_ret
  exact ⟨rfl, B14.out⟩
end Go.Proofs.Ytolijdbdpnbchaa

namespace Go.Proofs.Ytolijdbdpnbchaa
open Go.RowKit
set_option linter.unusedVariables false

theorem row_part {w : World} {g t : Nat} {xs ys : List Value} (h : Row w g t (xs ++ ys)) {n : Nat} (hn : xs.length = n) : Sees w w.heap.size (some ⟨g, 0, none⟩) n xs :=
  ⟨hn, fun i u hu => ⟨_, rfl, h.lt, by
    rw [addr_row, h.cell, Nat.zero_add, List.getElem?_append_left (List.getElem?_eq_some_iff.1 hu).1]
    exact hu⟩⟩

theorem row_copy {w1 : World} {g t : Nat} {zs : List Int} {k r : Nat} (hk : k < zs.length) (R : Row w1 g t (bv (zs.take k ++ List.replicate (zs.length - k + r) 0))) :
    Row (w1.setCell ⟨g, k, none⟩ (.int .u8 (zs.getD k 0))) g t (bv (zs.take (k + 1) ++ List.replicate (zs.length - (k + 1) + r) 0)) := by
  have h := R.set_ k (.int .u8 (zs.getD k 0))
  have e : (bv (zs.take k ++ List.replicate (zs.length - k + r) 0)).set k (.int .u8 (zs.getD k 0)) = bv (zs.take (k + 1) ++ List.replicate (zs.length - (k + 1) + r) 0) := by
    rw [show zs.length - k + r = zs.length - (k + 1) + r + 1 by omega, List.replicate_succ, List.take_succ_eq_append_getElem hk, List.getD_eq_getElem?_getD, List.getElem?_eq_getElem hk]
    simp only [bv, cv, List.map_append, List.map_cons]
    rw [List.set_append_right _ _ (by simp; omega)]
    simp [Nat.min_eq_left (Nat.le_of_lt hk)]
  rwa [e] at h

theorem row_mark {w1 : World} {g t : Nat} {zs : List Int} {j : Nat} {m : Int} (hj : j < 3) (R : Row w1 g t (bv (zs ++ (List.replicate j m ++ List.replicate (3 - j) 0)))) :
    Row (w1.setCell ⟨g, zs.length + j, none⟩ (.int .u8 m)) g t (bv (zs ++ (List.replicate (j + 1) m ++ List.replicate (3 - (j + 1)) 0))) := by
  have h := R.set_ (zs.length + j) (.int .u8 m)
  obtain rfl | rfl | rfl : j = 0 ∨ j = 1 ∨ j = 2 := by omega
  all_goals simpa [bv, cv, List.set_append, List.replicate] using h

set_option maxHeartbeats 800000 in
theorem twin_byte (A : Option Addr) (n c : Nat) (zs : List Int) (m : Int) (w : World) (S : Nat)
    (hx : Sees w S A n (bv zs)) (hS : S ≤ w.heap.size) (hn : n ≤ 1099511627776) :
    Calls Try.prog 40 #[.slice A n c, .int .u8 m] w fun e w' => ∃ g, e = .returned (.slice (some ⟨g, 0, none⟩) n (n + 3)) ∧ w.heap.size ≤ g ∧ Row w' g 5 (bv (zs ++ List.replicate 3 m)) ∧ Below w.heap.size w w' := by
  obtain ⟨i0, hi, hz0, hz1, hz2⟩ := info_parts info_u8
  have l0 : zs.length = n := by have := hx.len; rwa [bv_length] at this
  subst l0
  go_enter Try.func40, Try.ntmps40
  go_wp2_with (first
    | (at_make; go_must (refine wpList_make_full _ rfl (.tmp 10) (.tmp 10) 37 rfl w.heap.size 5 i0 _ 1 Try.underlying37 hi hz0 hz1 .i64 .i64 _ _ (zs.length + 3) rfl rfl (by simp) (by simp) (by rw [hz2]; omega) (by unfold maxLen; omega) (Nat.le_refl _) ?_); intro w1 hown hgrow))
  rw [made_bytes] at hown
  have R := Lib.hid (Row.of_own hown)
  have hb1 := (Below.refl w.heap.size w).grown hgrow (Nat.le_refl _) (fun k hk => by cases hk)
  clear hown hgrow hi hz0 hz1 hz2
  go_loopw [6] (fun i wr => ∃ k : Nat, k ≤ zs.length ∧ i = .int .i64 k ∧ Row wr w.heap.size 5 (bv (zs.take k ++ List.replicate (zs.length - k + 3) 0)) ∧ Below w.heap.size w wr) (fun i _ => zs.length - (intOf i).toNat)
  case atStart => exact ⟨0, Nat.zero_le _, rfl, by simpa using R.out, hb1⟩
  case round =>
    obtain ⟨k, hk, rfl, hr, hbr⟩ := hrel
    clear R hb1
    have RR := Lib.hid hr
    by_cases hlt : k < zs.length
    · obtain ⟨a, rfl, ha, hca⟩ := ((hx.below (hbr.mono hS))).byte hlt
      have f0 := hr.frozen k
      have c0 := hr.cell k
      rw [bv_getElem?, List.getElem?_append_right (by simp; omega), List.getElem?_replicate_of_lt (by simp; omega)] at c0
      have c0 : wr.cell? ⟨w.heap.size, k, none⟩ = some (.int .u8 0) := c0
      have HS := Lib.hid (row_copy (r := 3) hlt hr)
      generalize zs.getD k 0 = z at *
      clear hr
      go_wp2
      go_roundw
      case rel => exact ⟨k + 1, by omega, by go_num, HS.out, hbr.setCell (Nat.le_refl _) _⟩
      case measure => simp [intOf]; omega
    · have hk' : k = zs.length := by omega
      have R2 : Hid (Row wr w.heap.size 5 (bv (zs ++ List.replicate 3 0))) := by
        have := hr
        rw [hk'] at this
        simpa using Lib.hid this
      clear hr hk' RR
      go_wp2
      go_loopw [7] (fun i wr => ∃ j : Nat, j ≤ 3 ∧ i = .int .i64 j ∧ Row wr w.heap.size 5 (bv (zs ++ (List.replicate j m ++ List.replicate (3 - j) 0))) ∧ Below w.heap.size w wr) (fun i _ => 3 - (intOf i).toNat)
      case atStart => exact ⟨0, Nat.zero_le _, rfl, by simpa using R2.out, hbr⟩
      case round =>
        obtain ⟨j, hj, rfl, hr, hbr2⟩ := hrel
        clear R2 hbr
        have RR := Lib.hid hr
        by_cases hlt : j < 3
        · have f0 := hr.frozen (zs.length + j)
          have c0 := hr.cell (zs.length + j)
          rw [bv_getElem?, List.getElem?_append_right (by omega), List.getElem?_append_right (by simp), List.getElem?_replicate_of_lt (by simp; omega)] at c0
          have c0 : wr.cell? ⟨w.heap.size, zs.length + j, none⟩ = some (.int .u8 0) := c0
          clear hr
          go_wp2
          go_roundw
          case rel => exact ⟨j + 1, by omega, by go_num, row_mark hlt RR.out, hbr2.setCell (Nat.le_refl _) _⟩
          case measure => simp [intOf]; omega
        · have hj3 : j = 3 := by omega
          have R3 : Hid (Row wr w.heap.size 5 (bv (zs ++ List.replicate 3 m))) := by
            have := hr
            rw [hj3] at this
            simpa using Lib.hid this
          clear hr hj3 RR
          go_wp2
          go_ret
          exact ⟨w.heap.size, rfl, Nat.le_refl _, R3.out, hbr2⟩

set_option maxHeartbeats 400000 in
/-- TwinBytes. -/
theorem twinBytes (A : Option Addr) (n c : Nat) (zs : List Int) (w : World) (S : Nat)
    (hx : Sees w S A n (bv zs)) (hS : S ≤ w.heap.size) (hn : n ≤ 1099511627776) :
    Calls Try.prog 18 #[.slice A n c] w fun e w' => ∃ g, e = .returned (.slice (some ⟨g, 0, none⟩) n (n + 3)) ∧ w.heap.size ≤ g ∧ Row w' g 5 (bv (zs ++ List.replicate 3 165)) ∧ Below w.heap.size w w' := by
  have H := Lib.hid (twin_byte A n c zs 165 w S hx hS hn)
  go_enter Try.func18, Try.ntmps18
  go_wp2_with fail
  refine H.out.mono ?_
  rintro e w1 ⟨g, rfl, hg, hr, hb⟩
  have R := Lib.hid hr
  clear hr
  go_wp2_with fail
  go_ret
  exact ⟨g, rfl, hg, R.out, hb⟩

set_option maxHeartbeats 800000 in
theorem left_byte (g : Nat) (B : Option Addr) (n d : Nat) (zs : List Int) (m : Int) (w : World) (S : Nat)
    (hr : Row w g 5 (bv (zs ++ List.replicate 3 m))) (hy : Sees w S B n (bv zs)) (hn : n ≤ 1099511627776) :
    Calls Try.prog 46 #[.slice (some ⟨g, 0, none⟩) n (n + 3), .slice B n d, .int .u8 m] w fun e w' => e = .returned (.bool true) ∧ ∃ k, w' = w.drewN k := by
  have l0 : zs.length = n := by have := hy.len; rwa [bv_length] at this
  subst l0
  have hs : Sees w w.heap.size (some ⟨g, 0, none⟩) zs.length (bv zs) := ⟨bv_length _, fun i u hu => ⟨_, rfl, hr.lt, by
    rw [addr_row, hr.cell, bv_append, Nat.zero_add, List.getElem?_append_left (List.getElem?_eq_some_iff.1 hu).1]; exact hu⟩⟩
  have SM := Lib.hid (sameBytes (some ⟨g, 0, none⟩) B zs.length zs.length (zs.length + 3) d zs zs w _ _ hs hy (by unfold maxLen; omega) (by unfold maxLen; omega))
  have SB := Lib.hid (same_byte (some ⟨g, 0, none⟩) B zs.length zs.length (zs.length + 3) d zs zs w _ _ hs hy (by unfold maxLen; omega) (by unfold maxLen; omega))
  have R := Lib.hid hr
  clear hs hr SM
  go_enter Try.func46, Try.ntmps46
  go_wp2_with fail
  refine SB.out.mono ?_
  rintro e w1 ⟨rfl, k, rfl⟩
  simp only [decide_true]
  go_wp2_with fail
  go_loop [8] (fun i => ∃ j : Nat, j ≤ 3 ∧ i = .int .i64 j) (fun i => 3 - (intOf i).toNat)
  case atStart => exact ⟨0, Nat.zero_le _, rfl⟩
  case round =>
    obtain ⟨j, hj, rfl⟩ := hrel
    by_cases hlt : j < 3
    · have c0 := R.out.cell (zs.length + j)
      rw [bv_getElem?, List.getElem?_append_right (by omega), List.getElem?_replicate_of_lt (by omega)] at c0
      have c0 : w.cell? ⟨g, zs.length + j, none⟩ = some (.int .u8 m) := c0
      have hm : (m != m) = false := by simp
      go_wp2
      go_round
      case rel => exact ⟨j + 1, by omega, by go_num⟩
      case measure => simp [intOf]; omega
    · go_wp2
      go_ret
      exact ⟨rfl, k, rfl⟩

set_option maxHeartbeats 400000 in
/-- LeftBytes. -/
theorem leftBytes (g : Nat) (B : Option Addr) (n d : Nat) (zs : List Int) (w : World) (S : Nat)
    (hr : Row w g 5 (bv (zs ++ List.replicate 3 165))) (hy : Sees w S B n (bv zs)) (hn : n ≤ 1099511627776) :
    Calls Try.prog 24 #[.slice (some ⟨g, 0, none⟩) n (n + 3), .slice B n d] w fun e w' => e = .returned (.bool true) ∧ ∃ k, w' = w.drewN k := by
  have H := Lib.hid (left_byte g B n d zs 165 w S hr hy hn)
  clear hr
  go_enter Try.func24, Try.ntmps24
  go_wp2_with fail
  refine H.out.mono ?_
  rintro e w1 ⟨rfl, k, rfl⟩
  go_wp2_with fail
  go_ret
  exact ⟨rfl, k, rfl⟩
end Go.Proofs.Ytolijdbdpnbchaa

namespace Go.Proofs.Ytolijdbdpnbchaa
open Go.RowKit
set_option linter.unusedVariables false

set_option maxRecDepth 100000 in
set_option maxHeartbeats 4000000 in
theorem get_walk4 (A : Option Addr) (n c : Nat) (zs : List Int) (w : World) (hs : Sees w w.heap.size A n (bv zs)) (hnc : n ≤ c) (hA : A = none → c = 0) (hc : c ≤ maxLen) (hz : AllBytes zs) :
    Calls Try.prog 4 #[.slice A n c] w fun e w' => e = .returned (.bool true) ∧ Below w.heap.size w w' := by
  have hn : zs.length = n := by have := hs.len; rwa [bv_length] at this
  by_cases h5 : 5000 < (n : Int)
  · clear hA
    unfold maxLen at hc
    go_enter Try.func4, Try.ntmps4
    go_wp2_with fail
    refine (lives4 _).mono ?_
    rintro e w2 ⟨rfl, hb2⟩
    go_wp2_with fail
    go_ret
    exact ⟨rfl, hb2⟩
  · subst hn
    have HS := Lib.hid hs
    have HA := Lib.hid (And.intro (And.intro hnc hA) hc)
    have HZ := Lib.hid hz
    have h5' : zs.length ≤ 5000 := by omega
    clear hs hnc hA hc hz
    go_enter Try.func4, Try.ntmps4
    go_wp2_with fail
    refine (twinBytes A _ c zs w _ HS.out (Nat.le_refl _) (by omega)).mono ?_
    rintro e w1 ⟨g1, rfl, hg1, hr1, hb1⟩
    have s1 : Hid (∀ w', Below w1.heap.size w1 w' → Sees w' w'.heap.size (some ⟨g1, 0, none⟩) zs.length (bv zs)) := Lib.hid fun w' hb' => by
      rw [bv_append] at hr1
      exact ((row_part hr1 (bv_length _)).below hb').more hb'.size
    have R1 := Lib.hid hr1
    have B1 := Lib.hid hb1
    have G1 := Lib.hid (And.intro hg1 hr1.lt)
    clear hr1 hb1 hg1
    go_wp2_with fail
    refine (gettx_ (some ⟨g1, 0, none⟩) zs.length (zs.length + 3) w1.heap.size zs w1 (s1.out w1 (Below.refl _ _)) (Nat.le_refl _) (by omega) (by unfold maxLen; omega) HZ.out).mono ?_
    rintro e w2 hd
    obtain ⟨cs, lo, rfl, hlo, hgot, hb2⟩ := hd.one
    obtain ⟨T, hT⟩ : ∃ T, T = gn zs := ⟨_, rfl⟩
    obtain ⟨C, hC⟩ : ∃ C, C = gc zs := ⟨_, rfl⟩
    rw [← hT, ← hC]
    have HTC := Lib.hid (And.intro hT hC)
    clear hT hC hd
    have HL := Lib.hid hgot.len
    have HO := Lib.hid hgot.one
    have HI := Lib.hid hgot.size
    have HG := Lib.hid hgot
    have HLO := Lib.hid hlo
    have B2 := Lib.hid hb2
    clear hgot hlo hb2
    go_wp2_with (((with_reducible show wpList _ _ _ ({ dst := none, op := Op.store 33 _ _, type := _, pos := _, after := _, guard := _ } :: _) _ _); go_must (refine wpList_store_new rfl 33 (.tmp 4) (.tmp 24) rfl cs HI.out HO.out (by rw [HL.out]; rfl) ?_ ?_ ?_; go_simp; go_simp; intro w3 hr3 hb3 hz3; have R3 := Lib.hid hr3; have B3 := Lib.hid hb3; have Z3 := Lib.hid hz3; clear hr3 hb3 hz3)))
    have B03 : Hid (Below w.heap.size w w3) := Lib.hid ((B1.out.trans (B2.out.mono B1.out.size)).trans (B3.out.mono (by have := B1.out.size; have := B2.out.size; omega)))
    refine (refgettx_ A _ c w.heap.size zs w3 (HS.out.below B03.out) B03.out.size HA.out.1.1 HA.out.1.2 HA.out.2 HZ.out).mono ?_
    rintro e w4 hd
    obtain ⟨cs2, lo2, rfl, hlo2, hgot2, hb4⟩ := hd.one
    rw [← HTC.out.1, ← HTC.out.2]
    clear hd
    have HL2 := Lib.hid hgot2.len
    have HO2 := Lib.hid hgot2.one
    have HI2 := Lib.hid hgot2.size
    have HG2 := Lib.hid hgot2
    have B4 := Lib.hid hb4
    clear hgot2 hlo2 hb4
    go_wp2_with (((with_reducible show wpList _ _ _ ({ dst := none, op := Op.store 33 _ _, type := _, pos := _, after := _, guard := _ } :: _) _ _); go_must (refine wpList_store_new rfl 33 (.tmp 7) (.tmp 30) rfl cs2 HI2.out HO2.out (by rw [HL2.out]; rfl) ?_ ?_ ?_; go_simp; go_simp; intro w5 hr5 hb5 hz5; have R5 := Lib.hid hr5; have B5 := Lib.hid hb5; have Z5 := Lib.hid hz5; clear hr5 hb5 hz5)))
    have B35 : Hid (Below w3.heap.size w3 w5) := Lib.hid (B4.out.trans (B5.out.mono B4.out.size))
    have B15 : Hid (Below w1.heap.size w1 w5) := Lib.hid ((B2.out.trans (B3.out.mono B2.out.size)).trans (B35.out.mono (by have := B2.out.size; have := B3.out.size; omega)))
    refine (whole_ (some ⟨g1, 0, none⟩) zs.length (zs.length + 3) w5.heap.size zs w5 (s1.out w5 B15.out) (Nat.le_refl _) (by omega) (by unfold maxLen; omega) HZ.out).mono ?_
    rintro e w6 hd
    obtain ⟨cs3, lo3, rfl, hlo3, hgot3, hb6⟩ := hd.one
    obtain ⟨D, hD⟩ : ∃ D, D = wc zs := ⟨_, rfl⟩
    rw [← hD]
    have HD := Lib.hid hD
    clear hD hd
    have HL3 := Lib.hid hgot3.len
    have HO3 := Lib.hid hgot3.one
    have HI3 := Lib.hid hgot3.size
    have HG3 := Lib.hid hgot3
    have HLO3 := Lib.hid hlo3
    have B6 := Lib.hid hb6
    clear hgot3 hlo3 hb6
    go_wp2_with (((with_reducible show wpList _ _ _ ({ dst := none, op := Op.store 33 _ _, type := _, pos := _, after := _, guard := _ } :: _) _ _); go_must (refine wpList_store_new rfl 33 (.tmp 10) (.tmp 36) rfl cs3 HI3.out HO3.out (by rw [HL3.out]; rfl) ?_ ?_ ?_; go_simp; go_simp; intro w7 hr7 hb7 hz7; have R7 := Lib.hid hr7; have B7 := Lib.hid hb7; have Z7 := Lib.hid hz7; clear hr7 hb7 hz7)))
    have B57 : Hid (Below w5.heap.size w5 w7) := Lib.hid (B6.out.trans (B7.out.mono B6.out.size))
    have B07 : Hid (Below w.heap.size w w7) := Lib.hid ((B03.out.trans (B35.out.mono B03.out.size)).trans (B57.out.mono (by have := B03.out.size; have := B35.out.size; omega)))
    refine (refwhole_ A _ c w.heap.size zs w7 (HS.out.below B07.out) B07.out.size HA.out.1.1 HA.out.1.2 HA.out.2 HZ.out).mono ?_
    rintro e w8 hd
    obtain ⟨cs4, lo4, rfl, hlo4, hgot4, hb8⟩ := hd.one
    rw [← HD.out]
    clear hd
    have HL4 := Lib.hid hgot4.len
    have HO4 := Lib.hid hgot4.one
    have HI4 := Lib.hid hgot4.size
    have HG4 := Lib.hid hgot4
    have B8 := Lib.hid hb8
    clear hgot4 hlo4 hb8
    go_upto_region 8 with (((with_reducible show wpList _ _ _ ({ dst := none, op := Op.store 33 _ _, type := _, pos := _, after := _, guard := _ } :: _) _ _); go_must (refine wpList_store_new rfl 33 (.tmp 12) (.tmp 41) rfl cs4 HI4.out HO4.out (by rw [HL4.out]; rfl) ?_ ?_ ?_; go_simp; go_simp; intro w9 hr9 hb9 hz9; have R9 := Lib.hid hr9; have B9 := Lib.hid hb9; have Z9 := Lib.hid hz9; clear hr9 hb9 hz9)))
    have B79 : Hid (Below w7.heap.size w7 w9) := Lib.hid (B8.out.trans (B9.out.mono B8.out.size))
    have B59 : Hid (Below w5.heap.size w5 w9) := Lib.hid (B57.out.trans (B79.out.mono B57.out.size))
    have B39 : Hid (Below w3.heap.size w3 w9) := Lib.hid (B35.out.trans (B59.out.mono B35.out.size))
    have B29 : Hid (Below w2.heap.size w2 w9) := Lib.hid (B3.out.trans (B39.out.mono B3.out.size))
    have B49 : Hid (Below w4.heap.size w4 w9) := Lib.hid (B5.out.trans (B59.out.mono B5.out.size))
    have B69 : Hid (Below w6.heap.size w6 w9) := Lib.hid (B7.out.trans (B79.out.mono B7.out.size))
    have B19 : Hid (Below w1.heap.size w1 w9) := Lib.hid (B15.out.trans (B59.out.mono B15.out.size))
    have B09 : Hid (Below w.heap.size w w9) := Lib.hid (B07.out.trans (B79.out.mono B07.out.size))
    have R39 : Hid (Row w9 w2.heap.size 33 cs) := Lib.hid (R3.out.below B39.out R3.out.lt)
    have R59 : Hid (Row w9 w4.heap.size 33 cs2) := Lib.hid (R5.out.below B59.out R5.out.lt)
    have R79 : Hid (Row w9 w6.heap.size 33 cs3) := Lib.hid (R7.out.below B79.out R7.out.lt)
    have R19 : Hid (Row w9 g1 5 (bv (zs ++ List.replicate 3 165))) := Lib.hid (R1.out.below B19.out R1.out.lt)
    have GA := Lib.hid (HG.out.below B29.out)
    have GB := Lib.hid (HG2.out.below B49.out)
    have GC := Lib.hid (HG3.out.below B69.out)
    have GD := Lib.hid (HG4.out.below B9.out)
    have ZZ := Lib.hid (And.intro B29.out.size (And.intro B49.out.size (And.intro B69.out.size B9.out.size)))
    have ZO : Hid (g1 < lo ∧ w.heap.size ≤ g1 ∧ lo ≤ w2.heap.size ∧ w2.heap.size ≤ lo3) := Lib.hid ⟨by have := HLO.out; have := G1.out; omega, G1.out.1, HG.out.le, by have := HLO3.out; have := B3.out.size; have := B35.out.size; omega⟩
    clear R1 R3 R5 R7 B1 B2 B3 B4 B5 B6 B7 B8 B9 B35 B15 B57 B79 B59 B39 B29 B49 B69 B07 B03 HG HG2 HG3 HG4 HLO HLO3 G1 s1 HZ HL HL2 HL3 HL4 HO HO2 HO3 HO4
    go_wp2_with (first
      | ((with_reducible show wpList _ _ _ ({ dst := some 43, op := Op.load _ _, type := _, pos := _, after := _, guard := _ } :: _) _ _); go_must (refine wpList_load_whole rfl 33 (.tmp 4) rfl w2.heap.size 33 cs _ Try.underlying33 rfl HI.out R39.out ?_ ?_; go_simp))
      | ((with_reducible show wpList _ _ _ ({ dst := some 44, op := Op.load _ _, type := _, pos := _, after := _, guard := _ } :: _) _ _); go_must (refine wpList_load_whole rfl 33 (.tmp 7) rfl w4.heap.size 33 cs2 _ Try.underlying33 rfl HI2.out R59.out ?_ ?_; go_simp)))
    refine (GA.out.same GB.out ZZ.out.1 ZZ.out.2.1).mono ?_
    rintro e w10 ⟨rfl, hb10⟩
    have B10 := Lib.hid hb10
    clear hb10
    go_wp2_with (first
      | ((with_reducible show wpList _ _ _ ({ dst := some 58, op := Op.load _ _, type := _, pos := _, after := _, guard := _ } :: _) _ _); go_must (refine wpList_load_atg (by kernel_rfl) 33 (.tmp 10) rfl ⟨w6.heap.size, 0, none⟩ cs3 _ Try.underlying33 rfl HI3.out (fun j v hv => by rw [addr_row, (R79.out.below B10.out R79.out.lt).cell, Nat.zero_add]; exact hv) ?_ ?_; go_simp))
      | ((with_reducible show wpList _ _ _ ({ dst := some 59, op := Op.load _ _, type := _, pos := _, after := _, guard := _ } :: _) _ _); go_must (refine wpList_load_atg (by kernel_rfl) 33 (.tmp 12) rfl ⟨w8.heap.size, 0, none⟩ cs4 _ Try.underlying33 rfl HI4.out (fun j v hv => by rw [addr_row, (R9.out.below B10.out R9.out.lt).cell, Nat.zero_add]; exact hv) ?_ ?_; go_simp)))
    refine ((GC.out.below (B10.out.mono ZZ.out.2.2.1)).same (GD.out.below (B10.out.mono ZZ.out.2.2.2)) (Nat.le_trans ZZ.out.2.2.1 B10.out.size) (Nat.le_trans ZZ.out.2.2.2 B10.out.size)).mono ?_
    rintro e w11 ⟨rfl, hb11⟩
    have B11 : Hid (Below w9.heap.size w9 w11) := Lib.hid (B10.out.trans (hb11.mono B10.out.size))
    have B011 : Hid (Below w.heap.size w w11) := Lib.hid (B09.out.trans (B11.out.mono B09.out.size))
    clear hb11
    go_wp2_with fail
    refine (leftBytes g1 A _ c zs w11 w.heap.size (R19.out.below B11.out R19.out.lt) (HS.out.below B011.out) (by omega)).mono ?_
    rintro e w12 ⟨rfl, k7, rfl⟩
    have R3W : Hid (Row (w11.drewN k7) w2.heap.size 33 cs) := Lib.hid ((R39.out.below B11.out R39.out.lt).drewN k7)
    have R7W : Hid (Row (w11.drewN k7) w6.heap.size 33 cs3) := Lib.hid ((R79.out.below B11.out R79.out.lt).drewN k7)
    have R1W : Hid (Row (w11.drewN k7) g1 5 (bv (zs ++ List.replicate 3 165))) := Lib.hid ((R19.out.below B11.out R19.out.lt).drewN k7)
    have B0W : Hid (Below w.heap.size w (w11.drewN k7)) := Lib.hid (below_drewN B011.out k7)
    have B9W : Hid (Below w9.heap.size w9 (w11.drewN k7)) := Lib.hid (below_drewN B11.out k7)
    clear R39 R79 R19 B011 B11 B10 R59 R9
    generalize w11.drewN k7 = W at *
    go_upto_region 11 with fail
    have HK0 := Lib.hid (Bk.new W)
    have BW0 : Hid (Below W.heap.size W (W.alloc (.cells #[.slice none 0 0] 45))) := Lib.hid ((Below.refl _ _).alloc (Nat.le_refl _) _)
    have B90 : Hid (Below w9.heap.size w9 (W.alloc (.cells #[.slice none 0 0] 45))) := Lib.hid (B9W.out.trans (BW0.out.mono B9W.out.size))
    have R30 : Hid (Row (W.alloc (.cells #[.slice none 0 0] 45)) w2.heap.size 33 cs) := Lib.hid (R3W.out.alloc _)
    have R70 : Hid (Row (W.alloc (.cells #[.slice none 0 0] 45)) w6.heap.size 33 cs3) := Lib.hid (R7W.out.alloc _)
    have R10 : Hid (Row (W.alloc (.cells #[.slice none 0 0] 45)) g1 5 (bv (zs ++ List.replicate 3 165))) := Lib.hid (R1W.out.alloc _)
    have HNE : Hid (w2.heap.size < W.heap.size ∧ w6.heap.size < W.heap.size ∧ g1 < W.heap.size ∧ w.heap.size ≤ W.heap.size) := Lib.hid ⟨R3W.out.lt, R7W.out.lt, R1W.out.lt, B0W.out.size⟩
    obtain ⟨ps, hf, hrise, hlow, hlen, hbook⟩ := (GA.out.below (B90.out.mono ZZ.out.1)).pages
    obtain ⟨ps3, hf3, hrise3, hlow3, hlen3, hbook3⟩ := (GC.out.below (B90.out.mono ZZ.out.2.2.1)).pages
    have HB := Lib.hid hbook
    have HB3 := Lib.hid hbook3
    have HF := Lib.hid (And.intro hf (And.intro hrise hlow))
    have HF3 := Lib.hid (And.intro hf3 (And.intro hrise3 hlow3))
    clear hbook hbook3 hf hf3 hrise hrise3 hlow hlow3 R3W R7W R1W B9W B90 GA GB GC GD
    generalize hW0 : W.alloc (.cells #[.slice none 0 0] 45) = W0 at *
    go_wp2_with fail
    refine (bkBytes W.heap.size W.heap.size [] ⟨some g1, zs.length, zs.length + 3⟩ W0 W0 HK0.out (by simp)).mono ?_
    rintro e w13 ⟨rfl, hb13⟩
    have HK1 := Lib.hid hb13
    have R31 : Hid (Row w13 w2.heap.size 33 cs) := Lib.hid (hb13.row R30.out (by have := HNE.out; omega) (by decide))
    have R71 : Hid (Row w13 w6.heap.size 33 cs3) := Lib.hid (hb13.row R70.out (by have := HNE.out; omega) (by decide))
    clear hb13 HK0
    go_wp2_with (((with_reducible show wpList _ _ _ ({ dst := some 77, op := Op.load 33 _, type := _, pos := _, after := _, guard := _ } :: _) _ _); go_must (refine wpList_load_whole rfl 33 (.tmp 4) rfl w2.heap.size 33 cs _ Try.underlying33 rfl HI.out R31.out ?_ ?_; go_simp)))
    refine (HB.out W.heap.size W.heap.size _ W0 w13 (HK1.out.one.below (by have := HNE.out; omega) (by have := HNE.out; omega)) HK1.out (by have := HNE.out; omega) (by have := HNE.out; omega) (by simp)).mono ?_
    rintro e w14 ⟨rfl, hb14⟩
    have HK2 := Lib.hid hb14
    have R72 : Hid (Row w14 w6.heap.size 33 cs3) := Lib.hid (hb14.row R70.out (by have := HNE.out; omega) (by decide))
    clear hb14 HK1 R31 R71
    go_wp2_with (((with_reducible show wpList _ _ _ ({ dst := some 79, op := Op.load 33 _, type := _, pos := _, after := _, guard := _ } :: _) _ _); go_must (refine wpList_load_whole rfl 33 (.tmp 10) rfl w6.heap.size 33 cs3 _ Try.underlying33 rfl HI3.out R72.out ?_ ?_; go_simp)))
    refine (HB3.out W.heap.size W.heap.size _ W0 w14 (HK2.out.one.below (by have := HNE.out; omega) (by have := HNE.out; omega)) HK2.out (by have := HNE.out; omega) (by have := HNE.out; omega) (by rw [List.length_append]; simp; omega)).mono ?_
    rintro e w15 ⟨rfl, hb15⟩
    have HK3 := Lib.hid hb15
    clear hb15 HK2 R72
    go_wp2_with fail
    refine (apartBk W.heap.size W.heap.size w.heap.size _ W0 w15 HK3.out ?_ ?_ ?_ ?_).mono ?_
    · intro y hy
      rcases List.mem_append.1 hy with hy | hy
      · rcases List.mem_append.1 hy with hy | hy
        · obtain rfl : y = _ := List.mem_singleton.1 hy
          exact ⟨by show zs.length ≤ zs.length + 3; omega, by show zs.length + 3 ≤ _; omega, _, R10.out, by rw [bv_length]; simp [esz], fun h => absurd rfl h⟩
        · exact HF.out.1 y hy
      · exact HF3.out.1 y hy
    · have h1 := ZO.out
      have hone : ∀ g ∈ blocks [((⟨some g1, zs.length, zs.length + 3⟩ : Sl), Kd.b)], g = g1 := fun g hg => by
        have e1 := blocks_one _ g hg
        cases e1
        rfl
      rw [blocks_app, List.nil_append, blocks_app]
      refine pair_app (m := lo3) (pair_app (m := lo) (pair_one _) HF.out.2.1 (fun g hg => ?_) fun g hg => (HF.out.2.2 g hg).1) HF3.out.2.1 (fun g hg => ?_) fun g hg => (HF3.out.2.2 g hg).1
      · have := hone g hg
        omega
      · rcases List.mem_append.1 hg with hg | hg
        · have := hone g hg
          have := HNE.out
          omega
        · have := HF.out.2.2 g hg
          omega
    · intro g hg
      have h1 := ZO.out
      have h2 := HNE.out
      rw [blocks_app, List.nil_append, blocks_app] at hg
      rcases List.mem_append.1 hg with hg | hg
      · rcases List.mem_append.1 hg with hg | hg
        · have e1 := blocks_one _ g hg
          cases e1
          omega
        · have := HF.out.2.2 g hg
          omega
      · have := HF3.out.2.2 g hg
        omega
    · have := HK3.out.one.size
      have := BW0.out.size
      have := HNE.out
      omega
    rintro e w16 ⟨rfl, hb16⟩
    have B016 : Hid (Below w.heap.size w w16) := Lib.hid (((B0W.out.trans (BW0.out.mono HNE.out.2.2.2)).trans (HK3.out.one.below HNE.out.2.2.2 HNE.out.2.2.2)).trans hb16)
    clear hb16
    go_wp2_with fail
    refine (lives4 _).mono ?_
    rintro e w17 ⟨rfl, hb17⟩
    go_wp2_with fail
    go_ret
    exact ⟨rfl, B016.out.trans (hb17.mono B016.out.size)⟩
end Go.Proofs.Ytolijdbdpnbchaa

namespace Go.Proofs.Ytolijdbdpnbchaa.packetsGet
open Go.ChangeShapes Go.WideShapes Go.ChangeAt Go.RowKit
set_option linter.unusedVariables false

theorem own : ownKnob Try.prog.godebug = none := by kernel_rfl
theorem laidOut : laidOutB Try.prog = true := by kernel_rfl

set_option maxRecDepth 100000 in
theorem lifted (os : Os) (started : os.Started) (H : Type) (enc : TypeId × Value → H) :
    ReturnsInHanded {} Try.checked os 4 .any (Rows.packetsGetSpec.pre6 enc Try.prog Try.f4 Rows.packetsGetRow.domain false) (Rows.packetsGetSpec.post enc Try.prog Try.f4 false true false false) := by
  refine returnsInHanded_of_change (C := Try.checked) own started (by kernel_rfl) Try.func4
    (ChangeSpec.witness6 (enc := enc) (C := Try.checked) false ⟨#[], #[.slice none 0 0], []⟩ 8 (by kernel_rfl) (by kernel_rfl) (by kernel_rfl) (by kernel_rfl)) ?_
  intro W base args ds gs before hval0 hW hcnd _
  have hval : ∀ (j : Nat) t v, Try.f4.params[j]? = some t → args[j]? = some v → Value.okWide Try.prog W .any base t v := hval0
  have hW' := hW
  obtain ⟨p, q, hA0, hV, rfl, hfz, hnd⟩ := hW
  have hA : DataW.TrodAll enc Try.prog W 0 (fun _ => true) true Try.f4.params.toList args.toList ds p := hA0
  rw [Try.params4] at hA hval
  obtain ⟨v0, vs0, d0, ds0, p0, q0, hargs, rfl, rfl, h0, r0⟩ := trodAll_cons hA
  obtain ⟨rfl, rfl, rfl⟩ := trodAll_nil r0
  obtain rfl : args = #[v0] := by cases args; simp_all
  obtain ⟨rfl, rfl⟩ := trodVars_none hV
  obtain ⟨A0, l0, c0, rfl⟩ := okWide_slice Try.underlying37 (hval 0 37 v0 rfl rfl)
  have k0 := h0
  have lt0 : ∀ x ∈ p0, x.block < W.heap.size := by obtain ⟨m, hm⟩ := k0; exact DataW.trod_lt m _ _ _ hm
  obtain ⟨z0, row0, hA0'⟩ : ∃ zs, CameIn .u8 W A0 l0 c0 zs ∧ (A0 = none → c0 = 0) := by
    obtain ⟨fuel, hf⟩ := h0
    rcases open_ints Try.underlying37 Try.underlying5 (by kernel_rfl) hf with ⟨hcs, _⟩ | ⟨x, l, c, zs, hcs, _, hl, hm, hz, _, hcell, hwz⟩
    · simp [Value.cells] at hcs
      obtain ⟨rfl, rfl, rfl⟩ := hcs
      exact ⟨[], CameIn.nil _ _, fun _ => rfl⟩
    · simp [Value.cells] at hcs
      obtain ⟨rfl, rfl, rfl⟩ := hcs
      exact ⟨_, CameIn.of hl hm (by simpa using hz) hcell hwz, fun e => by cases e⟩
  clear hA0 hval0
  refine (get_walk4 A0 l0 c0 z0 W row0.sees row0.cap hA0' row0.max (fun z hz => isByte_wf (row0.wf z hz))).mono fun e W' ⟨he, bel⟩ => ?_
  subst he
  exact ⟨_, rfl, _, _, _, [], _, [], hW', trodAll_mk1 (shut_bool Try.underlying4 _), (trodAll_cons_mk (Below.trod laidOut (by kernel_rfl) (of_decide_eq_true (by kernel_rfl)) k0 bel lt0) trodAll_mk0), rfl, bel.frame _, fun h => by cases h⟩

theorem over : Rows.packetsGetRow.holds Try.pinned (OpenSpec.ofChange Rows.packetsGetSpec) :=
  OpenClaim.holds_of_wide 4 Try.f4 rfl rfl rfl rfl rfl rfl rfl ⟨rfl, rfl, rfl, rfl, rfl⟩ rfl rfl rfl rfl rfl (by kernel_rfl) Try.func4 (by kernel_rfl)
    (of_decide_eq_true (by kernel_rfl)) (by unfold Func.isWrapper; first | (rw [if_pos (by decide +kernel)]; kernel_rfl) | (rw [if_neg (by decide +kernel)]; exact ⟨rfl, rfl⟩))
    (fun os started H enc _ => lifted os started H enc)

theorem proved : Rows.PacketsGetSaid := over
#print axioms proved
end Go.Proofs.Ytolijdbdpnbchaa.packetsGet
