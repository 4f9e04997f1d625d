/-
  Parts joined: OtherWalk.
-/
import Derived.Below
import Derived.Laws.OwnMore
import Derived.Deep.AppendLies
import Derived.Deep.Draws
import Derived.Lib.Hide
import Derived.Laws.MakeOwn
import Derived.Laws.CopyOwn
import Derived.Laws.Rows
import Derived.Laws.BitsAllLaws
import Derived.WalkKit
import Derived.Test.YtgdikmgmpleolaaRows
import Derived.WalkSpells
import Derived.WalkLawsBesides
import Derived.IntWalk
import Derived.Deep.MidRow
import Derived.Deep.WholeRow
import Derived.Maps.AppendAt
import Derived.OwnWalk
import Derived.Great.BuildSlice
import Derived.Recover
import Derived.Deep.RegionHeld
import Derived.Deep.QuietTactic
import Derived.BigQuiet
import Derived.ChangeKeysEq
import Derived.Deep.RegionHeld2
import Derived.Deep.CutBlock
import Derived.Laws.Tables
import Derived.ProofKit
import Derived.OpenShut
import Derived.ShutString
import Derived.ChangeOld
import Derived.Lib.SmallJoins
import Derived.Laws.Slices
import Derived.Deep.DeepCutAuto
import Derived.Deep.Slices
import Derived.Deep.Strs
import Derived.SizedLaws
import Derived.Laws.EntriesVeiled
import Derived.Deep.RegionHeld3
import Derived.Maps.OwnSet
import Derived.DeepKeys4
import Derived.WideKeyArr
import Derived.WideKeyEntry
import Derived.Test.YtgdikmgmpleolaaD1
import Derived.Test.YtgdikmgmpleolaaD2
import Derived.Test.YtgdikmgmpleolaaD3
import Derived.Test.YtgdikmgmpleolaaD4
/-
  Of part OtherWalk: what is needed here.
-/
namespace Go.Proofs.Ytgdikmgmpleolaa
open Go.RowKit
set_option linter.unusedVariables false
/-- what the law holds on to: the transaction that came in, a signature, in boxes of their own -/
structure OCtx (w V : World) (cs : List Value) (s : TRaw) (x : LTx) (sc : List Value) : Prop where
  tx : Row V w.heap.size 33 cs
  sig : Row V (w.heap.size + 1) 49 sc
  m : TxIn V w.heap.size s x
  b : Below w.heap.size w V
section
variable {w V V' : World} {cs sc : List Value} {s : TRaw} {x : LTx}
theorem OCtx.low {B : Nat} (h : OCtx w V cs s x sc) (hb : Below B V V') (hB : w.heap.size + 2 ≤ B) : OCtx w V' cs s x sc :=
  ⟨h.tx.below hb (by omega), h.sig.below hb (by omega), h.m.below (hb.mono (by omega)), h.b.trans (hb.mono (by omega))⟩
theorem OCtx.size (h : OCtx w V cs s x sc) : w.heap.size + 2 ≤ V.heap.size := h.sig.lt
theorem OCtx.below (h : OCtx w V cs s x sc) (hb : Below V.heap.size V V') : OCtx w V' cs s x sc := h.low hb h.size
theorem OCtx.drew (h : OCtx w V cs s x sc) : OCtx w V.drew cs s x sc := h.below (Below.refl _ _).drew
theorem OCtx.far (h : OCtx w V cs s x sc) {p : Addr} (hp : w.heap.size + 2 ≤ p.block) (u : Value) : OCtx w (V.setCell p u) cs s x sc :=
  h.low ((Below.refl (w.heap.size + 2) V).setCell hp u) (Nat.le_refl _)
theorem OCtx.turned {g : Nat} (h : OCtx w V cs s x sc) (ht : Turned V V' g) (hp : w.heap.size + 2 ≤ g) : OCtx w V' cs s x sc := h.low (ht.below hp) (Nat.le_refl _)
theorem OCtx.wide (h : OCtx w V cs s x sc) : TxIn V V.heap.size s x := h.m.more h.b.size
end
theorem own_sees {w : World} {base : Nat} {e : TypeId} {size n c : Nat} {A : Option Addr} {xs : List Value} (h : w.ownsRow base e size (.slice A n c) n xs) : Sees w w.heap.size A (n * size) xs ∧ n ≤ c ∧ c ≤ maxLen := by
  obtain ⟨A', c', e, h1, h2, h3, _⟩ := own_form2 h
  injection e with e1 _ e3
  subst e1
  subst e3
  exact ⟨h1, h2, h3⟩
theorem size_u8x : (Try.prog.info? 5).map (·.size) = some 1 := by kernel_rfl
set_option maxRecDepth 100000 in
set_option maxHeartbeats 16000000 in
theorem other_walk (s : TRaw) (x : LTx) (sg : List Int) (DA : Option Addr) (dn dc : Nat) (dz : List Int) (w : World) (hm : TxIn w w.heap.size s x) (hs : Sized x.m) (hwf : x.m.Wf) (hsg : sg.length = 64 ∧ AllBytes sg) (hd : Sees w w.heap.size DA dn (bv dz)) (hdc : dn ≤ dc ∧ dc ≤ maxLen) (hdz : AllBytes dz) :
    Calls Try.prog 5 #[.agg (s.cells x).toArray, .agg (bv sg).toArray, .slice DA dn dc] w fun e w' => e = .returned (.bool true) ∧ Below w.heap.size w w' := by
  have hb0 := ((Below.refl w.heap.size w).alloc (Nat.le_refl _) (.cells (s.cells x).toArray 33)).alloc (by simp) (.cells (bv sg).toArray 49)
  have hc0 : OCtx w ((w.alloc (.cells (s.cells x).toArray 33)).alloc (.cells (bv sg).toArray 49)) (s.cells x) s x (bv sg) :=
    ⟨(Row.new w 33 (s.cells x)).alloc _, Row.new' _ 49 (bv sg) (by simp), hm.below hb0, hb0⟩
  have hdl : dz.length = dn := by have := hd.len; rwa [bv_length] at this
  have HBD : Hid (BytesIn w w.heap.size (.slice DA dn dc) dz) := Lib.hid ⟨⟨DA, dc, by rw [hdl], by rw [hdl]; exact hd, by rw [hdl]; exact hdc.1, hdc.2⟩⟩
  have HG := Lib.hid (great5 s x w.heap.size _ hc0.m hb0.size hs)
  have HTS := Lib.hid (show (Try.prog.info? 33).map (·.size) = some (s.cells x).length by rw [size_tx, tcells_len hm.m.recent])
  have HTO := Lib.hid (tcells_one (s := s) (x := x))
  have HTL := Lib.hid (show (s.cells x).length = 40 from tcells_len hm.m.recent)
  have HTR := Lib.hid (fun (V : World) (h : Row V w.heap.size 33 (s.cells x)) => TxRow.of h hm.m.recent)
  have HTV := Lib.hid (show (s.cells x)[1]? = some (.bool x.m.v0) from rfl)
  have HT38 := Lib.hid (show (s.cells x)[38]? = some (.slice s.q.IA s.q.n s.q.ic) from (tcells_m 37).trans (cells_37 hm.m.recent))
  have HT0 := Lib.hid (show (s.cells x)[0]? = some (.slice s.SA s.sn s.sc) from rfl)
  have HT5 := Lib.hid (show (s.cells x)[5]? = some (.slice s.q.KA s.q.kn s.q.kc) from rfl)
  have HCK := Lib.hid (fun (V : World) (h : TxIn V w.heap.size s x) (hz : w.heap.size ≤ V.heap.size) (hsm : Small x.m) => check_ s x w.heap.size V h hz hsm hwf)
  have HTT := Lib.hid (fun (V : World) (h : TxIn V w.heap.size s x) (hz : w.heap.size ≤ V.heap.size) (hsm : Small x.m) => total_ s x w.heap.size V h hz hsm)
  have HGS := Lib.hid (show (Try.prog.info? 49).map (·.size) = some (bv sg).length by rw [bv_length, hsg.1]; exact size_sig)
  have HG64 := Lib.hid (show (bv sg).length = 64 by rw [bv_length, hsg.1])
  have HGO := Lib.hid (bv_one sg)
  have HCO := Lib.hid (fun A1 n1 c1 A2 n2 c2 l1 l2 => cells_other s x hm.m.recent A1 n1 c1 A2 n2 c2 l1 (sg.take 32) (by rw [List.length_take, hsg.1]; rfl) l2)
  have HR32 := Lib.hid (show (sg.take 32).length = 32 ∧ AllBytes (sg.take 32) from ⟨by rw [List.length_take, hsg.1]; rfl, fun z hz => hsg.2 z (List.mem_of_mem_take hz)⟩)
  have HRC := Lib.hid (show ∀ (V : World), Row V (w.heap.size + 1) 49 (bv sg) → ∀ j u, (bv (sg.take 32))[j]? = some u → V.cell? ((⟨w.heap.size + 1, 0, none⟩ : Addr).add j) = some u from fun V h j u hu => by
    rw [addr_row, h.cell, Nat.zero_add]
    have hj := (List.getElem?_eq_some_iff.1 hu).1
    rw [bv_length, List.length_take] at hj
    rw [bv_getElem?, List.getElem?_take_of_lt (by omega), ← bv_getElem?] at hu
    exact hu)
  have HSK := Lib.hid (fun A n c k => cells_keys s x A n c (x.m.keys ++ [k]))
  have HXC := Lib.hid (fun (V : World) (h : OCtx w V (s.cells x) s x (bv sg)) => show Held V w.heap.size (s.cells x) x from ⟨h.tx, s, rfl, h.wide⟩)
  have lsg := hm.sigs.len
  have lk := hm.m.keys.len
  have li := hm.m.ins.len
  have hsn := hm.sn
  have H64 := Lib.hid hm.sigs.each
  generalize s.cells x = cs at *
  obtain ⟨sc, hsc⟩ : ∃ kc, kc = bv sg := ⟨_, rfl⟩
  rw [← hsc] at HGS HG64 HGO HRC HXC HG hc0 ⊢
  have HSC := Lib.hid hsc
  clear hsc
  obtain ⟨SA, sn, sc0, KA, kn, kc, IA, n, ic, LA, ln, lc⟩ := s
  dsimp only at lsg lk li hsn HT38 HT0 HT5
  unfold maxLen at hsn
  have HLS := Lib.hid lsg
  have HLK := Lib.hid lk
  have HLI := Lib.hid li
  have HC0 := Lib.hid hc0
  have HW := Lib.hid hwf
  have HSG := Lib.hid hsg
  have HDZ := Lib.hid hdz
  clear hb0 hm hs hwf lsg lk li hc0 hsg hd hdc hdz hdl
  go_enter Try.func5, Try.ntmps5
  go_wp2_with ((with_reducible show wpList _ _ _ ({ dst := some 13, op := Op.load _ _, type := _, pos := _, after := _, guard := _ } :: _) _ _); go_must (refine wpList_load_whole rfl 33 (.tmp 3) rfl w.heap.size 33 cs _ Try.underlying33 rfl HTS.out HC0.out.tx ?_ ?_; go_simp))
  refine HG.out.mono ?_
  rintro e w1 ⟨⟨b, rfl, hgr⟩, hb1⟩
  have C1 := Lib.hid (HC0.out.below hb1)
  clear hb1 HG HC0
  cases b
  rotate_left
  · clear hgr
    go_wp2_with fail
    refine (lives5 _).mono ?_
    rintro e w2 ⟨rfl, hb2⟩
    go_wp2_with fail
    go_ret
    exact ⟨rfl, C1.out.b.trans (hb2.mono C1.out.b.size)⟩
  obtain ⟨hsg3, ht⟩ := hgr rfl
  have HSM := Lib.hid (Small.of ht)
  have hkn : kn ≤ 3000 := by have := HLK.out; unfold total at ht; omega
  have hin : n ≤ 3000 := by have := HLI.out; unfold total at ht; omega
  have hsn3 : sn ≤ 300 := by have := HLS.out; omega
  have HCC := Lib.hid (HCK.out w1 C1.out.m C1.out.b.size HSM.out)
  clear hgr hsg3 ht HCK hsn
  go_wp2_with ((with_reducible show wpList _ _ _ ({ dst := some 16, op := Op.load _ _, type := _, pos := _, after := _, guard := _ } :: _) _ _); go_must (refine wpList_load_whole rfl 33 (.tmp 3) rfl w.heap.size 33 cs _ Try.underlying33 rfl HTS.out C1.out.tx ?_ ?_; go_simp))
  refine HCC.out.mono ?_
  rintro e w2 ⟨rfl, hb2⟩
  have C2 := Lib.hid (C1.out.below hb2)
  obtain ⟨cx, hcx⟩ : ∃ c, c = chk x := ⟨_, rfl⟩
  rw [← hcx]
  have HCX := Lib.hid hcx
  clear hb2 C1 HCC hcx
  go_upto_region 5 with (first
    | ((with_reducible show wpList _ _ _ ({ dst := some 18, op := Op.load _ _, type := _, pos := _, after := _, guard := _ } :: _) _ _); go_must (refine wpList_load_whole rfl 33 (.tmp 3) rfl w.heap.size 33 cs _ Try.underlying33 rfl HTS.out C2.out.tx ?_ ?_; go_simp))
    | ((with_reducible show wpList _ _ _ ({ dst := none, op := Op.store 33 _ _, type := _, pos := _, after := _, guard := _ } :: _) _ _); go_must (refine wpList_store_new rfl 33 (.tmp 8) (.tmp 18) rfl cs HTS.out HTO.out (by rw [HTL.out]; rfl) ?_ ?_ ?_; go_simp; go_simp; intro u0 hr6 hb6 hz6; have RY := Lib.hid hr6; have B6 := Lib.hid hb6; clear hr6 hb6 hz6)))
  have C3 := Lib.hid (C2.out.below B6.out)
  obtain ⟨gy, hgy⟩ : ∃ g, g = w2.heap.size := ⟨_, rfl⟩
  have HGY : Hid (w.heap.size + 2 ≤ gy) := Lib.hid (by rw [hgy]; exact C2.out.size)
  rw [← hgy] at RY ⊢
  obtain ⟨b0, hb0⟩ : ∃ b, b = u0.heap.size := ⟨_, rfl⟩
  have HB0 : Hid (gy < b0) := Lib.hid (by rw [hb0]; exact RY.out.lt)
  have HBE : Hid (b0 ≤ u0.heap.size) := Lib.hid (Nat.le_of_eq hb0)
  have d0 : u0.cell? ⟨w.heap.size, 0, none⟩ = some (.slice SA sn sc0) := (HTR.out _ C3.out.tx).c0
  clear C2 B6 hgy hb0
  go_upto_region 6 with ((with_reducible show wpList _ _ _ ({ dst := some 21, op := _, type := _, pos := _, after := _, guard := _ } :: _) _ _); go_must (refine wpList_appendN rfl (.const (.slice none 0 0)) (.tmp 20) 22 49 _ 64 64 rfl Try.underlying22 info_sig (by kernel_rfl) (by omega) (.slice none 0 0) 0 [] b0 w.heap.size SA sn sc0 (bv x.sigs.flatten) rfl (own_nilN _ _ _ _) ?_ C3.out.m.sigs.sees (bv_one _) (by unfold maxLen; omega) (by omega) HBE.out ?_; go_simp; intro v1 u1 ho1 hg1; rw [Nat.zero_add, List.nil_append] at ho1; obtain ⟨A1, c1, rfl, _, _, _, _⟩ := own_form2 ho1; have BU1 : Hid (Below u0.heap.size u0 u1) := Lib.hid ((Below.refl u0.heap.size u0).grown hg1.grown (Nat.le_refl _) (fun k hk => by cases hk)); have O1 := Lib.hid ho1; have RY1 := Lib.hid (RY.out.below BU1.out RY.out.lt); have c0 : u1.cell? ⟨gy, 0, none⟩ = some (.slice SA sn sc0) := (RY1.out.cell 0).trans HT0.out; have f0 := RY1.out.frozen 0; clear ho1 hg1))
  clear d0 c0 f0
  have C4 := Lib.hid ((C3.out.below BU1.out).far (p := ⟨gy, 0, none⟩) HGY.out (.slice A1 sn c1))
  have Y4 := Lib.hid (RY1.out.set_ 0 (.slice A1 sn c1))
  have S4 : Hid ((u1.setCell ⟨gy, 0, none⟩ (.slice A1 sn c1)).ownsRow b0 49 64 (.slice A1 sn c1) sn (bv x.sigs.flatten)) := Lib.hid (own_turned O1.out RY1.out (by decide) (turned_setCell u1 ⟨gy, 0, none⟩ _))
  have Z4 : Hid (b0 ≤ (u1.setCell ⟨gy, 0, none⟩ (.slice A1 sn c1)).heap.size) := Lib.hid (Nat.le_trans HBE.out (Nat.le_trans BU1.out.size (by simp)))
  generalize u1.setCell ⟨gy, 0, none⟩ (.slice A1 sn c1) = V1 at *
  clear C3 RY RY1 BU1 O1 HBE
  have HY38 : Hid ((cs.set 0 (.slice A1 sn c1))[38]? = some (.slice IA n ic)) := Lib.hid (by rw [List.getElem?_set_ne (by omega)]; exact HT38.out)
  have HY1 : Hid ((cs.set 0 (.slice A1 sn c1))[1]? = some (.bool x.m.v0)) := Lib.hid (by rw [List.getElem?_set_ne (by omega)]; exact HTV.out)
  have HY0 : Hid ((cs.set 0 (.slice A1 sn c1))[0]? = some (.slice A1 sn c1)) := Lib.hid (by rw [List.getElem?_set_self (by rw [HTL.out]; omega)])
  have HYL : Hid ((cs.set 0 (.slice A1 sn c1)).length = 40) := Lib.hid (by rw [List.length_set]; exact HTL.out)
  obtain ⟨cur, hcur⟩ : ∃ c, c = cs.set 0 (.slice A1 sn c1) := ⟨_, rfl⟩
  rw [← hcur] at Y4 HY38 HY1 HY0 HYL
  have HCUR := Lib.hid hcur
  clear hcur
  go_wp2_with fail
  go_loopw [9] (fun i wr => ∃ (q : Nat) (l : List (List Int)), q ≤ sn ∧ i = .int .i64 q ∧ l.length = sn ∧ (∀ y ∈ l, y.length = 64) ∧ OCtx w wr cs ⟨SA, sn, sc0, ⟨KA, kn, kc, IA, n, ic, LA, ln, lc⟩⟩ x sc ∧ Row wr gy 33 cur ∧ wr.ownsRow b0 49 64 (.slice A1 sn c1) sn (bv l.flatten) ∧ b0 ≤ wr.heap.size) (fun i _ => sn - (intOf i).toNat)
  case atStart => exact ⟨0, x.sigs, Nat.zero_le _, rfl, HLS.out, H64.out, C4.out, Y4.out, S4.out, Z4.out⟩
  case round =>
    obtain ⟨q, l, hq, rfl, hll, hl64, hc, hy, hso, hbz⟩ := hrel
    have HLL := Lib.hid hll
    have HL64 := Lib.hid hl64
    have C5 := Lib.hid hc
    have Y5 := Lib.hid hy
    have S5 := Lib.hid hso
    have Z5 := Lib.hid hbz
    clear hll hl64 hc hy hso hbz C4 Y4 S4 Z4
    by_cases hlt : q < sn
    · obtain ⟨g, c, rest, hv, hrow, hc1, hc2, hbg, hlen⟩ := own_rows2 S5.out (by rw [bv_length, flat64_len l HL64.out, HLL.out]; omega) (by omega)
      injection hv with hA _ hC
      subst hA
      subst hC
      have c0 : wr.cell? ⟨gy, 0, none⟩ = some (.slice (some ⟨g, 0, none⟩) sn c1) := (Y5.out.cell 0).trans HY0.out
      have HROW := Lib.hid hrow
      have HCC := Lib.hid (And.intro hc1 hc2)
      have HBG := Lib.hid hbg
      have HLEN := Lib.hid hlen
      have HFIT : Hid (q * 64 + sc.length ≤ (bv l.flatten ++ rest).length) := Lib.hid (by rw [HG64.out, List.length_append, bv_length, flat64_len l HL64.out, HLL.out]; omega)
      have hc1m : c1 ≤ 9223372036854775807 := by unfold maxLen at hc2; omega
      clear hrow hc2 hbg hlen
      go_wp2_with (first
        | ((with_reducible show wpList _ _ _ ({ dst := some 33, op := Op.load _ _, type := _, pos := _, after := _, guard := _ } :: _) _ _); go_must (refine wpList_load_whole rfl 49 (.tmp 4) rfl (w.heap.size + 1) 49 sc _ Try.underlying49 rfl HGS.out C5.out.sig ?_ ?_; go_simp))
        | ((with_reducible show wpList _ _ _ ({ dst := none, op := Op.store 49 _ _, type := _, pos := _, after := _, guard := _ } :: _) _ _); go_must (refine wpList_store_part rfl 49 (.tmp 34) (.tmp 33) rfl g 49 (q * 64) _ sc HROW.out HGS.out HFIT.out HGO.out ?_ ?_ ?_; go_simp; go_simp; intro u2 hr2 ht2; have HR2 := Lib.hid hr2; have HT2 := Lib.hid ht2; clear hr2 ht2)))
      go_roundw
      case rel =>
        have hr := HR2.out
        rw [HG64.out, HSC.out, flatten_set64 HL64.out HSG.out.1 (by rw [HLL.out]; exact hlt)] at hr
        have hne : g ≠ gy := by have := HBG.out; have := HB0.out; omega
        refine ⟨q + 1, l.set q sg, by omega, by go_num, by rw [List.length_set]; exact HLL.out, fun y hy => ?_, C5.out.turned HT2.out (by have := HBG.out; have := HB0.out; have := HGY.out; omega), HT2.out.row Y5.out (Ne.symm hne), own_of_row hr ?_ ?_ HCC.out.1 HCC.out.2 HBG.out, by rw [HT2.out.size]; exact Z5.out⟩
        · rcases List.mem_or_eq_of_mem_set hy with hy | rfl
          · exact HL64.out y hy
          · exact HSG.out.1
        · rw [bv_length, flat64_len _ (fun y hy => by
            rcases List.mem_or_eq_of_mem_set hy with hy | rfl
            · exact HL64.out y hy
            · exact HSG.out.1), List.length_set, HLL.out]
        · have e := HLEN.out
          rw [List.length_append, bv_length, flat64_len l HL64.out] at e
          rw [List.length_append, bv_length, flat64_len _ (fun y hy => by
            rcases List.mem_or_eq_of_mem_set hy with hy | rfl
            · exact HL64.out y hy
            · exact HSG.out.1), List.length_set]
          exact e
      case measure => simp [intOf]; omega
    obtain ⟨W5, hW5⟩ : ∃ u : World, u = wr := ⟨_, rfl⟩
    subst hW5
    have e0 : W5.cell? ⟨gy, 0, none⟩ = some (.slice A1 sn c1) := (Y5.out.cell 0).trans HY0.out
    have d38 : W5.cell? ⟨w.heap.size, 38, none⟩ = some (.slice IA n ic) := (HTR.out _ C5.out.tx).c38
    obtain ⟨news, hic, hsees⟩ := C5.out.m.m.ins.cells
    have HIC := Lib.hid hic
    have HSEE := Lib.hid hsees
    clear hic hsees
    go_upto_region 11 with ((with_reducible show wpList _ _ _ ({ dst := some 38, op := _, type := _, pos := _, after := _, guard := _ } :: _) _ _); go_must (refine wpList_appendN rfl (.const (.slice none 0 0)) (.tmp 37) 28 47 _ 3 56 rfl Try.underlying28 info_ins5 (by kernel_rfl) (by omega) (.slice none 0 0) 0 [] b0 w.heap.size IA n ic news rfl (own_nilN _ _ _ _) ?_ HSEE.out HIC.out.one (by unfold maxLen; omega) (by omega) Z5.out ?_; go_simp; intro v1 u1 ho1 hg1; rw [Nat.zero_add, List.nil_append] at ho1; obtain ⟨AI, ci, rfl, _, _, _, _⟩ := own_form2 ho1; have BU1 : Hid (Below W5.heap.size W5 u1) := Lib.hid ((Below.refl W5.heap.size W5).grown hg1.grown (Nat.le_refl _) (fun k hk => by cases hk)); have O1 := Lib.hid ho1; have Y6 := Lib.hid (Y5.out.below BU1.out Y5.out.lt); have c38 : u1.cell? ⟨gy, 38, none⟩ = some (.slice IA n ic) := (Y6.out.cell 38).trans HY38.out; have f38 := Y6.out.frozen 38; clear ho1 hg1))
    clear d38 c38 f38 e0
    have C7 := Lib.hid ((C5.out.below BU1.out).far (p := ⟨gy, 38, none⟩) HGY.out (.slice AI n ci))
    have Y7 := Lib.hid (Y6.out.set_ 38 (.slice AI n ci))
    have S7 : Hid ((u1.setCell ⟨gy, 38, none⟩ (.slice AI n ci)).ownsRow b0 49 64 (.slice A1 sn c1) sn (bv l.flatten)) := Lib.hid (own_turned (own_below2 S5.out BU1.out) Y6.out (by decide) (turned_setCell u1 ⟨gy, 38, none⟩ _))
    have I7 : Hid ((u1.setCell ⟨gy, 38, none⟩ (.slice AI n ci)).ownsRow b0 47 3 (.slice AI n ci) n news) := Lib.hid (own_turned O1.out Y6.out (by decide) (turned_setCell u1 ⟨gy, 38, none⟩ _))
    have Z7 : Hid (b0 ≤ (u1.setCell ⟨gy, 38, none⟩ (.slice AI n ci)).heap.size) := Lib.hid (Nat.le_trans Z5.out (Nat.le_trans BU1.out.size (by simp)))
    have N7 : Hid (InsCells (u1.setCell ⟨gy, 38, none⟩ (.slice AI n ci)) w.heap.size x.m.ins news) := Lib.hid ((HIC.out.below (BU1.out.mono C5.out.b.size)).below ((Below.refl w.heap.size u1).setCell (p := ⟨gy, 38, none⟩) (show w.heap.size ≤ gy by have := HGY.out; omega) _))
    generalize u1.setCell ⟨gy, 38, none⟩ (.slice AI n ci) = V2 at *
    have HX38 : Hid ((cur.set 38 (.slice AI n ci))[38]? = some (.slice AI n ci)) := Lib.hid (by rw [List.getElem?_set_self (by rw [HYL.out]; omega)])
    have HX1 : Hid ((cur.set 38 (.slice AI n ci))[1]? = some (.bool x.m.v0)) := Lib.hid (by rw [List.getElem?_set_ne (by omega)]; exact HY1.out)
    have HXL : Hid ((cur.set 38 (.slice AI n ci)).length = 40) := Lib.hid (by rw [List.length_set]; exact HYL.out)
    obtain ⟨cur2, hcur2⟩ : ∃ c, c = cur.set 38 (.slice AI n ci) := ⟨_, rfl⟩
    rw [← hcur2] at Y7 HX38 HX1 HXL
    have HCUR2 := Lib.hid hcur2
    clear C5 Y5 S5 Z5 BU1 O1 Y6 HIC HSEE hcur2
    go_wp2_with fail
    go_loopw [10] (fun i wr => ∃ (q : Nat) (l2 : List LIn) (ns : List Value), q ≤ n ∧ i = .int .i64 q ∧ l2.map pa = x.m.ins.map pa ∧ (∀ i ∈ l2, IsByte i.p ∧ AllBytes i.acc ∧ AllBytes i.dat) ∧ InsCells wr w.heap.size l2 ns ∧ OCtx w wr cs ⟨SA, sn, sc0, ⟨KA, kn, kc, IA, n, ic, LA, ln, lc⟩⟩ x sc ∧ Row wr gy 33 cur2 ∧ wr.ownsRow b0 49 64 (.slice A1 sn c1) sn (bv l.flatten) ∧ wr.ownsRow b0 47 3 (.slice AI n ci) n ns ∧ b0 ≤ wr.heap.size) (fun i _ => n - (intOf i).toNat)
    case atStart => exact ⟨0, x.m.ins, news, Nat.zero_le _, rfl, rfl, HW.out.ins, N7.out, C7.out, Y7.out, S7.out, I7.out, Z7.out⟩
    case round =>
      obtain ⟨q, l2, ns, hq2, rfl, hpa, hwl, hnc, hc, hy, hso, hio, hbz⟩ := hrel
      have HPA := Lib.hid hpa
      have HWL := Lib.hid hwl
      have N8 := Lib.hid hnc
      have C8 := Lib.hid hc
      have Y8 := Lib.hid hy
      have S8 := Lib.hid hso
      have I8 := Lib.hid hio
      have Z8 := Lib.hid hbz
      have HL2 : Hid (l2.length = n) := Lib.hid (by have := congrArg List.length hpa; rw [List.length_map, List.length_map] at this; rw [this, HLI.out])
      clear hpa hwl hnc hc hy hso hio hbz C7 Y7 S7 I7 Z7 N7
      by_cases hlt2 : q < n
      · obtain ⟨g, c, rest, hv, hrow, hc1, hc2, hbg, hlen⟩ := own_rows2 I8.out (by rw [N8.out.len, HL2.out]; omega) (by omega)
        injection hv with hA _ hC
        subst hA
        subst hC
        obtain ⟨y, hyx⟩ : ∃ y, l2[q]? = some y := ⟨_, List.getElem?_eq_getElem (by rw [HL2.out]; exact hlt2)⟩
        obtain ⟨va, vd, n0, n1, n2, n3, n4⟩ := N8.out.at_ q y hyx
        have c38 : wr.cell? ⟨gy, 38, none⟩ = some (.slice (some ⟨g, 0, none⟩) n ci) := (Y8.out.cell 38).trans HX38.out
        have hcell : wr.cell? ⟨g, q * 3 + 2, none⟩ = some vd := (hrow.cell _).trans (by rw [List.getElem?_append_left (List.getElem?_eq_some_iff.1 n2).1]; exact n2)
        have hfz := hrow.frozen (q * 3 + 2)
        have HROW := Lib.hid hrow
        have HCC := Lib.hid (And.intro hc1 hc2)
        have HBG := Lib.hid hbg
        have HLEN := Lib.hid hlen
        have HYX := Lib.hid hyx
        have HN2 := Lib.hid n2
        have hvd : ∃ A' n' c', vd = .slice A' n' c' := by obtain ⟨A', c', e, _⟩ := n4.is; exact ⟨_, _, _, e⟩
        obtain ⟨A', n', c', rfl⟩ := hvd
        have hc1m : ci ≤ 9223372036854775807 := by unfold maxLen at hc2; omega
        clear hrow hc2 hbg hlen hyx n0 n1 n2 n3 n4
        go_wp2_with fail
        go_roundw
        case rel =>
          have hr := HROW.out.set_ (q * 3 + 2) (.slice DA dn dc)
          have hlt3 := (List.getElem?_eq_some_iff.1 HN2.out).1
          rw [List.set_append_left _ _ hlt3] at hr
          have hne : g ≠ gy := by have := HBG.out; have := HB0.out; omega
          have hgw : w.heap.size + 2 ≤ g := by have := HBG.out; have := HB0.out; have := HGY.out; omega
          have hbd : BytesIn wr w.heap.size (.slice DA dn dc) dz := HBD.out.below C8.out.b
          refine ⟨q + 1, l2.set q { y with dat := dz }, ns.set (q * 3 + 2) (.slice DA dn dc), by omega, by go_num, by rw [map_set_pa HYX.out]; exact HPA.out, fun i hi => ?_, (N8.out.setDat HYX.out hbd).below ((Below.refl w.heap.size wr).setCell (p := ⟨g, q * 3 + 2, none⟩) (show w.heap.size ≤ g by omega) _), C8.out.far (p := ⟨g, q * 3 + 2, none⟩) hgw _, Y8.out.far (p := ⟨g, q * 3 + 2, none⟩) (Ne.symm hne) _, own_turned S8.out HROW.out (by decide) (turned_setCell wr ⟨g, q * 3 + 2, none⟩ _), own_of_row hr ?_ ?_ HCC.out.1 HCC.out.2 HBG.out, Nat.le_trans Z8.out (by simp)⟩
          · rcases List.mem_or_eq_of_mem_set hi with hi | rfl
            · exact HWL.out i hi
            · have := HWL.out y (List.mem_of_getElem? HYX.out)
              exact ⟨this.1, this.2.1, HDZ.out⟩
          · rw [List.length_set]; exact I8.out.1
          · rw [List.length_append, List.length_set, ← List.length_append]; exact HLEN.out
        case measure => simp [intOf]; omega
      obtain ⟨W8, hW8⟩ : ∃ u : World, u = wr := ⟨_, rfl⟩
      subst hW8
      have e38 : W8.cell? ⟨gy, 38, none⟩ = some (.slice AI n ci) := (Y8.out.cell 38).trans HX38.out
      go_upto_region 15 with fail
      clear e38
      have HPS : Hid ((bv (sg.take 32)).length = 32) := Lib.hid (by rw [bv_length, HR32.out.1])
      have C9 := Lib.hid C8.out.drew
      have Y9 := Lib.hid Y8.out.drew
      have S9 : Hid (W8.drew.ownsRow b0 49 64 (.slice A1 sn c1) sn (bv l.flatten)) := Lib.hid S8.out
      have I9 : Hid (W8.drew.ownsRow b0 47 3 (.slice AI n ci) n ns) := Lib.hid I8.out
      have Z9 : Hid (b0 ≤ W8.drew.heap.size) := Z8
      have N9 : Hid (InsCells W8.drew w.heap.size l2 ns) := Lib.hid (N8.out.below (Below.refl w.heap.size W8).drew)
      refine wp_region_held_drew (S := fun _ => True) (by kernel_rfl) trivial (fun _ => ?_)
      generalize W8.drew = V9 at *
      clear C8 Y8 S8 I8 Z8 N8
      refine takeL (i := 0) (v := ?_) rfl (by kernel_rfl) (by kernel_rfl) (by kernel_rfl) (fun _ _ _ h => h) (Or.inl ⟨by rfl, ?_⟩) trivial ?_
      rotate_left
      · intro w hw
        try dsimp only at hw
        go_simp
        try with_reducible rfl
      try simp only [Act.put, List.setIfInBounds_toArray, List.set_cons_zero, List.set_cons_succ]
      refine takeL (i := 1) (v := ?_) rfl (by kernel_rfl) (by kernel_rfl) (by kernel_rfl) (fun _ _ _ h => h) (Or.inl ⟨by rfl, ?_⟩) trivial ?_
      rotate_left
      · intro w hw
        try dsimp only at hw
        go_simp
        try with_reducible rfl
      try simp only [Act.put, List.setIfInBounds_toArray, List.set_cons_zero, List.set_cons_succ]
      refine takeL (i := 2) (v := ?_) rfl (by kernel_rfl) (by kernel_rfl) (by kernel_rfl) (fun _ _ _ h => h) (Or.inl ⟨by rfl, ?_⟩) trivial ?_
      rotate_left
      · intro w hw
        try dsimp only at hw
        go_simp
        try with_reducible rfl
      try simp only [Act.put, List.setIfInBounds_toArray, List.set_cons_zero, List.set_cons_succ]
      refine takeL (i := 3) (v := ?_) rfl (by kernel_rfl) (by kernel_rfl) (by kernel_rfl) (fun _ _ _ h => h) (Or.inl ⟨by rfl, ?_⟩) trivial ?_
      rotate_left
      · intro w hw
        try dsimp only at hw
        go_simp
        try with_reducible rfl
      try simp only [Act.put, List.setIfInBounds_toArray, List.set_cons_zero, List.set_cons_succ]
      refine readyL (i := 4) rfl (by kernel_rfl) (by kernel_rfl) fun K hK => ?_
      refine wp_copy_row (.tmp 58) (.tmp 59) 42 42 5 rfl Try.underlying42 size_u8x gy 6 32 32 ⟨w.heap.size + 1, 0, none⟩ 64 64 (by go_simp) (by go_simp) cur2 33 Y9.out (bv (sg.take 32)) (by rw [HPS.out]; rfl) (HRC.out _ C9.out.sig) (by rw [HPS.out, HXL.out]; omega) (bv_one _) ?_
      intro W10 hr10 ht10
      rw [HPS.out, show 6 + 32 = 38 from rfl] at hr10
      have Y10 := Lib.hid hr10
      have C10 := Lib.hid (C9.out.turned ht10 HGY.out)
      have S10 := Lib.hid (own_turned S9.out Y9.out (by decide) ht10)
      have I10 := Lib.hid (own_turned I9.out Y9.out (by decide) ht10)
      have Z10 : Hid (b0 ≤ W10.heap.size) := Lib.hid (by rw [ht10.size]; exact Z9.out)
      have N10 := Lib.hid (N9.out.below (ht10.below (show w.heap.size ≤ gy by have := HGY.out; omega)))
      clear hr10 ht10 C9 Y9 S9 I9 Z9 N9
      refine hK.out _ _ trivial ?_
      clear hK K
      try simp only [Act.put, List.setIfInBounds_toArray, List.set_cons_zero, List.set_cons_succ]
      refine wpAnyH_done (by kernel_rfl) ?_ _
      have q1 : W10.cell? ⟨w.heap.size, 1, none⟩ = some (.bool x.m.v0) := (C10.out.tx.cell 1).trans HTV.out
      have y1 : W10.cell? ⟨gy, 1, none⟩ = some (.bool x.m.v0) := (Y10.out.cell 1).trans (by rw [List.append_assoc, List.getElem?_append_left (by rw [List.length_take, HXL.out]; omega), List.getElem?_take_of_lt (by omega)]; exact HX1.out)
      have yf := Y10.out.frozen 1
      go_upto_region 17 with fail
      clear q1 y1 yf
      have C11 := Lib.hid (C10.out.far (p := ⟨gy, 1, none⟩) HGY.out (.bool (!x.m.v0)))
      have S11 := Lib.hid (own_turned S10.out Y10.out (by decide) (turned_setCell W10 ⟨gy, 1, none⟩ (.bool (!x.m.v0))))
      have I11 := Lib.hid (own_turned I10.out Y10.out (by decide) (turned_setCell W10 ⟨gy, 1, none⟩ (.bool (!x.m.v0))))
      have N11 := Lib.hid (N10.out.below ((Below.refl w.heap.size W10).setCell (p := ⟨gy, 1, none⟩) (show w.heap.size ≤ gy by have := HGY.out; omega) (.bool (!x.m.v0))))
      have Z11 : Hid (b0 ≤ (W10.setCell ⟨gy, 1, none⟩ (.bool (!x.m.v0))).heap.size) := Lib.hid (Nat.le_trans Z10.out (by simp))
      have hy11 := Y10.out.set_ 1 (.bool (!x.m.v0))
      rw [HCUR2.out, HCUR.out, HCO.out A1 sn c1 AI n ci l l2] at hy11
      have Y11 := Lib.hid hy11
      generalize W10.setCell ⟨gy, 1, none⟩ (.bool (!x.m.v0)) = W11 at *
      clear hy11 C10 S10 I10 N10 Z10 Y10 HCO HCUR HCUR2 HX38 HX1 HXL HY38 HY1 HY0 HYL HRC HPS
      have HTX : Hid (∀ V : World, OCtx w V cs ⟨SA, sn, sc0, ⟨KA, kn, kc, IA, n, ic, LA, ln, lc⟩⟩ x sc → ∀ l' A' n' c', SigsIn V V.heap.size A' n' l' → n' ≤ c' ∧ c' ≤ maxLen → V.ownsRow b0 47 3 (.slice AI n ci) n ns → InsCells V w.heap.size l2 ns → TxIn V V.heap.size (rawOther ⟨SA, sn, sc0, ⟨KA, kn, kc, IA, n, ic, LA, ln, lc⟩⟩ A' n' c' AI n ci) (other x l' (sg.take 32) l2)) := Lib.hid fun V h l' A' n' c' h1 h2 h3 h4 =>
        in_other h.wide HR32.out.1 h1 h2 ((h4.more h.b.size).in_ (own_sees h3).1 HL2.out) (own_sees h3).2
      have HY : Hid (Held W11 gy (TRaw.cells (rawOther ⟨SA, sn, sc0, ⟨KA, kn, kc, IA, n, ic, LA, ln, lc⟩⟩ A1 sn c1 AI n ci) (other x l (sg.take 32) l2)) (other x l (sg.take 32) l2)) := Lib.hid ⟨Y11.out, _, rfl, HTX.out W11 C11.out l A1 sn c1 ⟨HLL.out, HL64.out, (own_sees S11.out).1⟩ (own_sees S11.out).2 I11.out N11.out⟩
      have HSY := Lib.hid (show (Try.prog.info? 33).map (·.size) = some (TRaw.cells (rawOther ⟨SA, sn, sc0, ⟨KA, kn, kc, IA, n, ic, LA, ln, lc⟩⟩ A1 sn c1 AI n ci) (other x l (sg.take 32) l2)).length by rw [size_tx, tcells_len HR32.out.1])
      have HCY := Lib.hid (held_check HY.out (small_other HSM.out HPA.out) (wf_other HW.out HR32.out HWL.out) (show chk (other x l (sg.take 32) l2) = cx by rw [chk_other (HLL.out.trans HLS.out.symm) HPA.out, HCX.out]))
      have HST := Lib.hid (fun A' n' c' l' => show (TRaw.cells (rawOther ⟨SA, sn, sc0, ⟨KA, kn, kc, IA, n, ic, LA, ln, lc⟩⟩ A1 sn c1 AI n ci) (other x l (sg.take 32) l2)).set 0 (.slice A' n' c') = TRaw.cells (rawOther ⟨SA, sn, sc0, ⟨KA, kn, kc, IA, n, ic, LA, ln, lc⟩⟩ A' n' c' AI n ci) (other x l' (sg.take 32) l2) from rfl)
      have HY0 : Hid ((TRaw.cells (rawOther ⟨SA, sn, sc0, ⟨KA, kn, kc, IA, n, ic, LA, ln, lc⟩⟩ A1 sn c1 AI n ci) (other x l (sg.take 32) l2))[0]? = some (.slice A1 sn c1)) := Lib.hid rfl
      generalize TRaw.cells (rawOther ⟨SA, sn, sc0, ⟨KA, kn, kc, IA, n, ic, LA, ln, lc⟩⟩ A1 sn c1 AI n ci) (other x l (sg.take 32) l2) = cy at *
      clear Y11
      go_wp2_with ((with_reducible show wpList _ _ _ ({ dst := some 67, op := Op.load _ _, type := _, pos := _, after := _, guard := _ } :: _) _ _); go_must (refine wpList_load_whole rfl 33 (.tmp 8) rfl gy 33 cy _ Try.underlying33 rfl HSY.out HY.out.row ?_ ?_; go_simp))
      refine HCY.out.mono ?_
      rintro e W12 ⟨rfl, hb12⟩
      have C12 := Lib.hid (C11.out.below hb12)
      have Y12 := Lib.hid (HY.out.row.below hb12 HY.out.row.lt)
      have S12 := Lib.hid (own_below2 S11.out hb12)
      have I12 := Lib.hid (own_below2 I11.out hb12)
      have N12 := Lib.hid (N11.out.below (hb12.mono C11.out.b.size))
      have Z12 : Hid (b0 ≤ W12.heap.size) := Lib.hid (Nat.le_trans Z11.out hb12.size)
      have hnn : (cx != cx) = false := by simp
      clear hb12 C11 HY S11 I11 N11 Z11 HCY
      by_cases hck : cx = 0
      rotate_left
      · have hcb : (cx != 0) = true := by simp [hck]
        clear hck
        go_wp2_with fail
        refine (lives5 _).mono ?_
        rintro e w3 ⟨rfl, hb3⟩
        go_wp2_with fail
        go_ret
        exact ⟨rfl, C12.out.b.trans (hb3.mono C12.out.b.size)⟩
      have HH := Lib.hid (holds_of (HCX.out.symm.trans hck))
      have hcb : (cx != 0) = false := by simp [hck]
      have y0 : W12.cell? ⟨gy, 0, none⟩ = some (.slice A1 sn c1) := (Y12.out.cell 0).trans HY0.out
      clear hck
      go_upto_region 22 with (first
        | ((with_reducible show wpList _ _ _ ({ dst := some 76, op := Op.load _ _, type := _, pos := _, after := _, guard := _ } :: _) _ _); go_must (refine wpList_load_whole rfl 49 (.tmp 4) rfl (w.heap.size + 1) 49 sc _ Try.underlying49 rfl HGS.out C12.out.sig ?_ ?_; go_simp))
        | ((with_reducible show wpList _ _ _ ({ dst := some 77, op := _, type := _, pos := _, after := _, guard := _ } :: _) _ _); go_must (refine wpList_buildOne rfl 22 49 (.tmp 76) rfl sc _ 64 64 Try.underlying22 info_sig (by kernel_rfl) (by omega) (by omega) HG64.out ?_ ?_; go_simp; have hba : Below W12.heap.size W12 (W12.alloc (.cells sc.toArray 49)) := (Below.refl _ _).alloc (Nat.le_refl _) _; have BA := Lib.hid hba; have OA : Hid ((W12.alloc (.cells sc.toArray 49)).ownsRow b0 49 64 (.slice A1 sn c1) sn (bv l.flatten)) := Lib.hid (own_below2 S12.out hba); have IA12 : Hid ((W12.alloc (.cells sc.toArray 49)).ownsRow b0 47 3 (.slice AI n ci) n ns) := Lib.hid (own_below2 I12.out hba); have RB : Hid (Sees (W12.alloc (.cells sc.toArray 49)) (W12.alloc (.cells sc.toArray 49)).heap.size (some ⟨W12.heap.size, 0, none⟩) (1 * 64) sc) := Lib.hid (by have := (Row.new W12 49 sc).sees0; rwa [HG64.out] at this); have ZA : Hid (b0 ≤ (W12.alloc (.cells sc.toArray 49)).heap.size) := Lib.hid (Nat.le_trans Z12.out hba.size); clear hba))
        | ((with_reducible show wpList _ _ _ ({ dst := some 78, op := _, type := _, pos := _, after := _, guard := _ } :: _) _ _); go_must (refine wpList_appendN rfl (.tmp 75) (.tmp 77) 22 49 _ 64 64 rfl Try.underlying22 info_sig (by kernel_rfl) (by omega) (.slice A1 sn c1) sn (bv l.flatten) b0 _ (some ⟨W12.heap.size, 0, none⟩) 1 1 sc ?_ OA.out ?_ RB.out HGO.out (by unfold maxLen; omega) (by omega) ZA.out ?_; go_simp; go_simp; intro v2 u3 ho3 hg3; obtain ⟨A3, c3, rfl, hs3, hc1, hc2, hlt3⟩ := own_form2 ho3; have hne : ∀ g, (Value.slice A1 sn c1).ownBlock = some g → b0 ≤ g := fun g hg => (OA.out.lt g hg).1; have hb3 : Below b0 W12 u3 := (BA.out.mono Z12.out).grown hg3.grown ZA.out (fun k hk => hne k hk); have BU3 := Lib.hid hb3; have SE3 := Lib.hid hs3; have CC := Lib.hid (And.intro hc1 hc2); have LT3 := Lib.hid hlt3; have Y13 := Lib.hid (Y12.out.below hb3 HB0.out); have I13 := Lib.hid (own_grew IA12.out OA.out (by decide) hg3); have c0 : u3.cell? ⟨gy, 0, none⟩ = some (.slice A1 sn c1) := (Y13.out.cell 0).trans HY0.out; have f0 := Y13.out.frozen 0; clear ho3 hg3 hs3 hlt3 hne hb3 hc1 hc2)))
      clear y0 c0 f0
      have C14 := Lib.hid ((C12.out.low BU3.out (by have := HGY.out; have := HB0.out; omega)).far (p := ⟨gy, 0, none⟩) HGY.out (.slice A3 (sn + 1) c3))
      have HL1 : Hid ((l ++ [sg]).length = sn + 1) := Lib.hid (by rw [List.length_append, HLL.out]; rfl)
      have HY2 : Hid (Held (u3.setCell ⟨gy, 0, none⟩ (.slice A3 (sn + 1) c3)) gy (cy.set 0 (.slice A3 (sn + 1) c3)) (other x (l ++ [sg]) (sg.take 32) l2)) := Lib.hid (by
        refine ⟨Y13.out.set_ 0 _, _, HST.out A3 (sn + 1) c3 (l ++ [sg]), HTX.out _ C14.out _ A3 (sn + 1) c3 ⟨HL1.out, fun y hy => ?_, ?_⟩ CC.out (own_turned I13.out Y13.out (by decide) (turned_setCell u3 ⟨gy, 0, none⟩ _)) ((N12.out.below (BU3.out.mono (by have := HGY.out; have := HB0.out; omega))).below ((Below.refl w.heap.size u3).setCell (p := ⟨gy, 0, none⟩) (show w.heap.size ≤ gy by have := HGY.out; omega) _))⟩
        · rcases List.mem_append.1 hy with hy | hy
          · exact HL64.out y hy
          · rw [List.mem_singleton.1 hy]; exact HSG.out.1
        · have h := SE3.out.far (p := ⟨gy, 0, none⟩) (fun a ha => by have := (LT3.out a.block (by rw [ha]; rfl)).1; have := HB0.out; intro e; have e : a.block = gy := e; omega) (.slice A3 (sn + 1) c3)
          have e : bv l.flatten ++ sc = bv (l ++ [sg]).flatten := by rw [HSC.out, ← bv_append, List.flatten_append]; simp
          rw [e] at h
          exact h.more (by simp))
      have HCY2 := Lib.hid (fun (V : World) (h : Held V gy (cy.set 0 (.slice A3 (sn + 1) c3)) (other x (l ++ [sg]) (sg.take 32) l2)) => held_check h (small_other HSM.out HPA.out) (wf_other HW.out HR32.out HWL.out) (chk_sigs HH.out rfl (by show (l ++ [sg]).length = _; rw [HL1.out, HLS.out])))
      have HSY2 := Lib.hid (show (Try.prog.info? 33).map (·.size) = some (cy.set 0 (.slice A3 (sn + 1) c3)).length by rw [List.length_set]; exact HSY.out)
      generalize u3.setCell ⟨gy, 0, none⟩ (.slice A3 (sn + 1) c3) = W14 at *
      generalize cy.set 0 (.slice A3 (sn + 1) c3) = cy2 at *
      generalize other x (l ++ [sg]) (sg.take 32) l2 = y2 at *
      clear C12 Y12 S12 I12 N12 Z12 BA OA IA12 RB ZA BU3 SE3 CC LT3 Y13 I13 HTX HST HY0 HSY
      have hkn1 : 0 < kn := by have h1 := HH.out.s; have h2 := HH.out.o; have h3 := HH.out.r; have h4 := HLK.out; have h5 := HW.out.s.1; have h6 := HW.out.o.1; have h7 := HW.out.r.1; omega
      obtain ⟨a, k0, ha, hab, hx0, _⟩ := C14.out.m.m.keys.get (k := 0) hkn1
      obtain rfl : KA = some a := ha
      have hk0 := HW.out.keys k0 (List.mem_of_getElem? hx0)
      have HK0 : Hid (∀ V : World, OCtx w V cs ⟨SA, sn, sc0, ⟨some a, kn, kc, IA, n, ic, LA, ln, lc⟩⟩ x sc → ∀ j u, (bv k0)[j]? = some u → V.cell? (a.add j) = some u) := Lib.hid fun V h j u hu => by
        have hj := (List.getElem?_eq_some_iff.1 hu).1
        rw [bv_length, hk0.1] at hj
        have e := flatten_get x.m.keys 0 k0 (fun y hy => (HW.out.keys y hy).1) hx0 j hj
        rw [Nat.zero_mul, Nat.zero_add] at e
        obtain ⟨a', e', _, hc⟩ := h.m.m.keys.sees.cell j u (by rw [bv_getElem?, e, ← bv_getElem?]; exact hu)
        obtain rfl := Option.some.inj e'
        exact hc
      have HKE := Lib.hid (List.mem_of_getElem? hx0)
      have HKK := Lib.hid hk0
      have HKS := Lib.hid (show (Try.prog.info? 41).map (·.size) = some (bv k0).length by rw [bv_length, hk0.1]; exact size_key)
      have HK32 := Lib.hid (show (bv k0).length = 32 by rw [bv_length, hk0.1])
      have HKO := Lib.hid (bv_one k0)
      have HFL : Hid (bv x.m.keys.flatten ++ bv k0 = bv (x.m.keys ++ [k0]).flatten) := Lib.hid (by rw [← bv_append, List.flatten_append]; simp)
      have HSET := Lib.hid (fun A n c => HSK.out A n c k0)
      have hk2 : ∀ y ∈ x.m.keys ++ [k0], y.length = 32 := fun y hy => by
        rcases List.mem_append.1 hy with hy | hy
        · exact (HW.out.keys y hy).1
        · rw [List.mem_singleton.1 hy]; exact hk0.1
      have HINK := Lib.hid (fun (V : World) A n' c (h : TxIn V V.heap.size ⟨SA, sn, sc0, ⟨some a, kn, kc, IA, n, ic, LA, ln, lc⟩⟩ x) (hs : Sees V V.heap.size A (n' * 32) (bv (x.m.keys ++ [k0]).flatten)) (hc : n' ≤ c ∧ c ≤ maxLen) (hn : (x.m.keys ++ [k0]).length = n') => in_keys (g := 0) h hk2 hs hn hc)
      have HLN : Hid ((x.m.keys ++ [k0]).length = kn + 1) := Lib.hid (by rw [List.length_append, HLK.out]; rfl)
      generalize bv k0 = kc32 at *
      clear hk0 hx0 hk2 hab
      go_upto_region 23 with (first
        | ((with_reducible show wpList _ _ _ ({ dst := some 80, op := Op.load _ _, type := _, pos := _, after := _, guard := _ } :: _) _ _); go_must (refine wpList_load_whole rfl 33 (.tmp 3) rfl w.heap.size 33 cs _ Try.underlying33 rfl HTS.out C14.out.tx ?_ ?_; go_simp))
        | ((with_reducible show wpList _ _ _ ({ dst := none, op := Op.store 33 _ _, type := _, pos := _, after := _, guard := _ } :: _) _ _); go_must (refine wpList_store_new rfl 33 (.tmp 11) (.tmp 80) rfl cs HTS.out HTO.out (by rw [HTL.out]; rfl) ?_ ?_ ?_; go_simp; go_simp; intro w6 hr6 hb6 hz6; have RY := Lib.hid hr6; have B6 := Lib.hid hb6; clear hr6 hb6 hz6)))
      have C6 := Lib.hid (C14.out.below B6.out)
      obtain ⟨gz, hgz⟩ : ∃ g, g = W14.heap.size := ⟨_, rfl⟩
      have HGZ : Hid (w.heap.size + 2 ≤ gz) := Lib.hid (by rw [hgz]; exact C14.out.size)
      rw [← hgz] at RY ⊢
      have HGV : Hid (W14.heap.size ≤ gz) := Lib.hid (Nat.le_of_eq hgz.symm)
      clear hgz
      have HL0 : Hid (w.heap.size + 2 ≤ w6.drew.heap.size) := Lib.hid C6.out.size
      have HTRG : Hid (cs[5]? = some (.slice (some a) kn kc)) := HT5
      simp only [Act.put]
      go_cut [93] (fun _ wx => ∃ cz, Held wx gz cz (withKeys x (x.m.keys ++ [k0])) ∧ Below W14.heap.size W14 wx)
      case first =>
        have HD5 : Hid (∀ V : World, OCtx w V cs ⟨SA, sn, sc0, ⟨some a, kn, kc, IA, n, ic, LA, ln, lc⟩⟩ x sc → V.cell? ⟨w.heap.size, 5, none⟩ = some (.slice (some a) kn kc) ∧ (∀ j u, kc32[j]? = some u → V.cell? (a.add j) = some u)) := Lib.hid fun V h => ⟨(HTR.out V h.tx).c5, HK0.out V h⟩
        have Y0 := Lib.hid RY.out.drew
        have C0 := Lib.hid C6.out.drew
        have E0 : Hid (Below W14.heap.size W14 w6.drew) := Lib.hid B6.out.drew
        have S0 := Lib.hid (HD5.out _ C0.out)
        refine wp_region_held_drew (S := fun V => V.cell? ⟨w.heap.size, 5, none⟩ = some (.slice (some a) kn kc) ∧ (∀ j u, kc32[j]? = some u → V.cell? (a.add j) = some u)) (by kernel_rfl) S0.out (fun _ => ?_)
        have HG0 : Hid (gz < w6.drew.heap.size ∧ W14.heap.size ≤ w6.drew.heap.size) := Lib.hid ⟨Y0.out.lt, E0.out.size⟩
        generalize w6.drew = V0 at *
        refine takeL (i := 0) (v := ?_) rfl (by kernel_rfl) (by kernel_rfl) (by kernel_rfl) (fun _ _ _ h => h) (Or.inl ⟨by rfl, ?_⟩) S0.out ?_
        rotate_left
        · intro w hw
          try dsimp only at hw
          obtain ⟨q0, q1⟩ := hw
          go_simp
          try with_reducible rfl
        try simp only [Act.put, List.setIfInBounds_toArray, List.set_cons_zero, List.set_cons_succ]
        refine takeL (i := 1) (v := ?_) rfl (by kernel_rfl) (by kernel_rfl) (by kernel_rfl) (fun _ _ _ h => h) (Or.inl ⟨by rfl, ?_⟩) S0.out ?_
        rotate_left
        · intro w hw
          try dsimp only at hw
          obtain ⟨q0, q1⟩ := hw
          go_simp
          try with_reducible rfl
        try simp only [Act.put, List.setIfInBounds_toArray, List.set_cons_zero, List.set_cons_succ]
        refine takeL (i := 2) (v := ?_) rfl (by kernel_rfl) (by kernel_rfl) (by kernel_rfl) (fun _ _ _ h => h) (Or.inl ⟨by rfl, ?_⟩) S0.out ?_
        rotate_left
        · intro w hw
          try dsimp only at hw
          obtain ⟨q0, q1⟩ := hw
          go_simp
          try with_reducible rfl
        try simp only [Act.put, List.setIfInBounds_toArray, List.set_cons_zero, List.set_cons_succ]
        refine takeL (i := 4) (v := ?_) rfl (by kernel_rfl) (by kernel_rfl) (by kernel_rfl) (fun _ _ _ h => h) (Or.inl ⟨by rfl, ?_⟩) S0.out ?_
        rotate_left
        · intro w hw
          try dsimp only at hw
          obtain ⟨q0, q1⟩ := hw
          go_simp
          try with_reducible rfl
        try simp only [Act.put, List.setIfInBounds_toArray, List.set_cons_zero, List.set_cons_succ]
        refine takeL (i := 5) (v := ?_) rfl (by kernel_rfl) (by kernel_rfl) (by kernel_rfl) (fun _ _ _ h => h) (Or.inl ⟨by rfl, ?_⟩) S0.out ?_
        rotate_left
        · intro w hw
          try dsimp only at hw
          obtain ⟨q0, q1⟩ := hw
          go_simp
          try with_reducible rfl
        try simp only [Act.put, List.setIfInBounds_toArray, List.set_cons_zero, List.set_cons_succ]
        refine takeL (i := 6) (v := ?_) rfl (by kernel_rfl) (by kernel_rfl) (by kernel_rfl) (fun _ _ _ h => h) (Or.inl ⟨by rfl, ?_⟩) S0.out ?_
        rotate_left
        · intro w hw
          try dsimp only at hw
          obtain ⟨q0, q1⟩ := hw
          go_simp
          try with_reducible rfl
        try simp only [Act.put, List.setIfInBounds_toArray, List.set_cons_zero, List.set_cons_succ]
        refine takeL (i := 7) (v := ?_) rfl (by kernel_rfl) (by kernel_rfl) (by kernel_rfl) (fun _ _ _ h => h) (Or.inl ⟨by rfl, ?_⟩) S0.out ?_
        rotate_left
        · intro w hw
          try dsimp only at hw
          obtain ⟨q0, q1⟩ := hw
          go_simp
          try with_reducible rfl
        try simp only [Act.put, List.setIfInBounds_toArray, List.set_cons_zero, List.set_cons_succ]
        refine takeL (i := 8) (v := .agg kc32.toArray) rfl (by kernel_rfl) (by kernel_rfl) (by kernel_rfl) (fun _ _ _ h => h) (Or.inl ⟨by kernel_rfl, fun w hw => ?_⟩) S0.out ?_
        · exact exec_load_at w 41 (.tmp 88) rfl a kc32 _ Try.underlying41 rfl HKS.out hw.2 (by go_simp)
        try simp only [Act.put, List.setIfInBounds_toArray, List.set_cons_zero, List.set_cons_succ]
        have HZ0 : Hid (V0.heap.size ≤ V0.heap.size) := Lib.hid (Nat.le_refl _)
        refine readyL2 (i := 3) (j := 9) rfl rfl (by kernel_rfl) (by kernel_rfl) (by kernel_rfl) (fun K hK => ?_) (fun K hK => ?_)
        · refine wp_appendN (.const (.slice none 0 0)) (.tmp 83) 25 41 _ 32 32 rfl Try.underlying25 info_key (by kernel_rfl) (by omega) (.slice none 0 0) 0 [] V0.heap.size w.heap.size (some a) kn kc (bv x.m.keys.flatten) rfl (own_nilN _ _ _ _) (by go_simp) C0.out.m.m.keys.sees (bv_one _) (by unfold maxLen; omega) (by omega) HZ0.out ?_
          intro v1 V1a ho1 hg1
          rw [Nat.zero_add, List.nil_append] at ho1
          obtain ⟨AK, ck, rfl, _, _, _, hlt1⟩ := own_form2 ho1
          have hb1 : Below V0.heap.size V0 V1a := (Below.refl V0.heap.size V0).grown hg1.grown (Nat.le_refl _) (fun k hk => by cases hk)
          have C1 := Lib.hid (C0.out.below hb1)
          have E1 := Lib.hid (E0.out.trans (hb1.mono (Nat.le_trans HG0.out.2 HZ0.out)))
          have Y1 := Lib.hid (Y0.out.below hb1 Y0.out.lt)
          have HZ1 := Lib.hid (Nat.le_trans HZ0.out hb1.size)
          have S1 := Lib.hid (HD5.out _ C1.out)
          have O1 := Lib.hid ho1
          clear hg1 ho1 hb1
          refine hK.out _ _ S1.out ?_
          clear hK K
          try simp only [Act.put, List.setIfInBounds_toArray, List.set_cons_zero, List.set_cons_succ]
          refine readyL (i := 9) rfl (by kernel_rfl) (by kernel_rfl) fun K hK => ?_
          refine wp_buildOne 25 41 (.tmp 89) rfl kc32 _ 32 32 Try.underlying25 info_key (by kernel_rfl) (by omega) (by omega) HK32.out (by go_simp) ?_
          have hb2 := (Below.refl V1a.heap.size V1a).alloc (Nat.le_refl _) (.cells kc32.toArray 41)
          have C2 := Lib.hid (C1.out.below hb2)
          have E2 := Lib.hid (E1.out.trans (hb2.mono (Nat.le_trans HG0.out.2 HZ1.out)))
          have Y2 := Lib.hid (Y1.out.below hb2 Y1.out.lt)
          have HZ2 := Lib.hid (Nat.le_trans HZ1.out hb2.size)
          have S2 := Lib.hid (HD5.out _ C2.out)
          have O2 := Lib.hid (O1.out.alloc (.cells kc32.toArray 41))
          have GB2 := Lib.hid (Row.new V1a 41 kc32)
          clear hb2
          generalize V1a.alloc (.cells kc32.toArray 41) = VB at *
          generalize V1a.heap.size = gb at *
          refine hK.out _ _ S2.out ?_
          clear hK K
          try simp only [Act.put, List.setIfInBounds_toArray, List.set_cons_zero, List.set_cons_succ]
          refine readyL (i := 10) rfl (by kernel_rfl) (by kernel_rfl) fun K hK => ?_
          refine wp_appendN (.tmp 84) (.tmp 90) 25 41 _ 32 32 rfl Try.underlying25 info_key (by kernel_rfl) (by omega) (.slice AK kn ck) kn (bv x.m.keys.flatten) V0.heap.size VB.heap.size (some ⟨gb, 0, none⟩) 1 1 kc32 (by go_simp) O2.out (by go_simp) (by have := GB2.out.sees0; rwa [HK32.out] at this) HKO.out (by unfold maxLen; omega) (by omega) HZ2.out ?_
          intro v2 V3 ho3 hg3
          obtain ⟨A2, c2, rfl, hs3, hc1, hc2, hlt3⟩ := own_form2 ho3
          have hne : ∀ g, (Value.slice AK kn ck).ownBlock = some g → V0.heap.size ≤ g := fun g hg => (O2.out.lt g hg).1
          have hb3 : Below V0.heap.size VB V3 := (Below.refl V0.heap.size VB).grown hg3.grown HZ2.out (fun k hk => hne k hk)
          have C3 := Lib.hid (C2.out.low hb3 HL0.out)
          have E3 := Lib.hid (E2.out.trans (hb3.mono HG0.out.2))
          have Y3 := Lib.hid (Y2.out.below hb3 HG0.out.1)
          have S3 := Lib.hid (HD5.out _ C3.out)
          have A3 := Lib.hid hs3
          have CC := Lib.hid (And.intro hc1 hc2)
          have LT3 := Lib.hid hlt3
          clear ho3 hg3 hs3 hlt3 hne hb3 hc1 hc2
          refine hK.out _ _ S3.out ?_
          clear hK K
          try simp only [Act.put, List.setIfInBounds_toArray, List.set_cons_zero, List.set_cons_succ]
          refine takeL (i := 11) (v := ?_) rfl (by kernel_rfl) (by kernel_rfl) (by kernel_rfl) (fun _ _ _ h => h) (Or.inl ⟨by rfl, ?_⟩) S3.out ?_
          rotate_left
          · intro w hw
            try dsimp only at hw
            obtain ⟨q0, q1⟩ := hw
            go_simp
            try with_reducible rfl
          try simp only [Act.put, List.setIfInBounds_toArray, List.set_cons_zero, List.set_cons_succ]
          refine takeL (i := 12) (v := ?_) rfl (by kernel_rfl) (by kernel_rfl) (by kernel_rfl) (fun _ _ _ h => h) (Or.inl ⟨by rfl, ?_⟩) S3.out ?_
          rotate_left
          · intro w hw
            try dsimp only at hw
            obtain ⟨q0, q1⟩ := hw
            go_simp
            try with_reducible rfl
          try simp only [Act.put, List.setIfInBounds_toArray, List.set_cons_zero, List.set_cons_succ]
          have c5 : V3.cell? ⟨gz, 5, none⟩ = some (.slice (some a) kn kc) := (Y3.out.cell 5).trans HTRG.out
          have f5 := Y3.out.frozen 5
          refine readyL (i := 13) rfl (by kernel_rfl) (by kernel_rfl) fun K hK => ?_
          go_simp
          have hcy := HSET.out A2 (kn + 1) c2
          have C4 := Lib.hid (C3.out.far (p := ⟨gz, 5, none⟩) HGZ.out (.slice A2 (kn + 1) c2))
          have S4 := Lib.hid (HD5.out _ C4.out)
          refine hK.out _ _ S4.out ?_
          clear hK K
          try simp only [Act.put, List.setIfInBounds_toArray, List.set_cons_zero, List.set_cons_succ]
          refine wpAnyH_done (by kernel_rfl) ?_ _
          go_wp2_with fail
          go_meet
          refine ⟨cs.set 5 (.slice A2 (kn + 1) c2), ⟨Y3.out.set_ 5 _, _, hcy, HINK.out _ A2 (kn + 1) c2 C4.out.wide ?_ CC.out HLN.out⟩, E3.out.setCell HGV.out _⟩
          have h := A3.out.far (p := ⟨gz, 5, none⟩) (fun a ha => by have := (LT3.out a.block (by rw [ha]; rfl)).1; have := HG0.out.1; intro e; have e : a.block = gz := e; omega) (.slice A2 (kn + 1) c2)
          exact (HFL.out ▸ h).more (by simp)
        · refine wp_buildOne 25 41 (.tmp 89) rfl kc32 _ 32 32 Try.underlying25 info_key (by kernel_rfl) (by omega) (by omega) HK32.out (by go_simp) ?_
          have hb1 := (Below.refl V0.heap.size V0).alloc (Nat.le_refl _) (.cells kc32.toArray 41)
          have C1 := Lib.hid (C0.out.below hb1)
          have E1 := Lib.hid (E0.out.trans (hb1.mono (Nat.le_trans HG0.out.2 HZ0.out)))
          have Y1 := Lib.hid (Y0.out.below hb1 Y0.out.lt)
          have HZ1 := Lib.hid (Nat.le_trans HZ0.out hb1.size)
          have S1 := Lib.hid (HD5.out _ C1.out)
          have GB1 := Lib.hid (Row.new V0 41 kc32)
          clear hb1
          generalize hgb : V0.heap.size = gb at *
          generalize V0.alloc (.cells kc32.toArray 41) = V1a at *
          refine hK.out _ _ S1.out ?_
          clear hK K
          try simp only [Act.put, List.setIfInBounds_toArray, List.set_cons_zero, List.set_cons_succ]
          refine readyL (i := 3) rfl (by kernel_rfl) (by kernel_rfl) fun K hK => ?_
          refine wp_appendN (.const (.slice none 0 0)) (.tmp 83) 25 41 _ 32 32 rfl Try.underlying25 info_key (by kernel_rfl) (by omega) (.slice none 0 0) 0 [] gb w.heap.size (some a) kn kc (bv x.m.keys.flatten) rfl (own_nilN _ _ _ _) (by go_simp) C1.out.m.m.keys.sees (bv_one _) (by unfold maxLen; omega) (by omega) HZ1.out ?_
          intro v1 VB ho1 hg1
          rw [Nat.zero_add, List.nil_append] at ho1
          obtain ⟨AK, ck, rfl, _, _, _, hlt1⟩ := own_form2 ho1
          have hb2 : Below V1a.heap.size V1a VB := (Below.refl V1a.heap.size V1a).grown hg1.grown (Nat.le_refl _) (fun k hk => by cases hk)
          have C2 := Lib.hid (C1.out.below hb2)
          have E2 := Lib.hid (E1.out.trans (hb2.mono (Nat.le_trans HG0.out.2 HZ1.out)))
          have Y2 := Lib.hid (Y1.out.below hb2 Y1.out.lt)
          have HZ2 := Lib.hid (Nat.le_trans HZ1.out hb2.size)
          have S2 := Lib.hid (HD5.out _ C2.out)
          have O2 := Lib.hid ho1
          have GB2 := Lib.hid (GB1.out.below hb2 GB1.out.lt)
          clear hg1 ho1 hb2
          refine hK.out _ _ S2.out ?_
          clear hK K
          try simp only [Act.put, List.setIfInBounds_toArray, List.set_cons_zero, List.set_cons_succ]
          refine readyL (i := 10) rfl (by kernel_rfl) (by kernel_rfl) fun K hK => ?_
          refine wp_appendN (.tmp 84) (.tmp 90) 25 41 _ 32 32 rfl Try.underlying25 info_key (by kernel_rfl) (by omega) (.slice AK kn ck) kn (bv x.m.keys.flatten) gb VB.heap.size (some ⟨gb, 0, none⟩) 1 1 kc32 (by go_simp) O2.out (by go_simp) (by have := GB2.out.sees0; rwa [HK32.out] at this) HKO.out (by unfold maxLen; omega) (by omega) HZ2.out ?_
          intro v2 V3 ho3 hg3
          obtain ⟨A2, c2, rfl, hs3, hc1, hc2, hlt3⟩ := own_form2 ho3
          have hne : ∀ g, (Value.slice AK kn ck).ownBlock = some g → gb ≤ g := fun g hg => (O2.out.lt g hg).1
          have hb3 : Below gb VB V3 := (Below.refl gb VB).grown hg3.grown HZ2.out (fun k hk => hne k hk)
          have C3 := Lib.hid (C2.out.low hb3 HL0.out)
          have E3 := Lib.hid (E2.out.trans (hb3.mono HG0.out.2))
          have Y3 := Lib.hid (Y2.out.below hb3 HG0.out.1)
          have S3 := Lib.hid (HD5.out _ C3.out)
          have A3 := Lib.hid hs3
          have CC := Lib.hid (And.intro hc1 hc2)
          have LT3 := Lib.hid hlt3
          clear ho3 hg3 hs3 hlt3 hne hb3 hc1 hc2
          refine hK.out _ _ S3.out ?_
          clear hK K
          try simp only [Act.put, List.setIfInBounds_toArray, List.set_cons_zero, List.set_cons_succ]
          refine takeL (i := 11) (v := ?_) rfl (by kernel_rfl) (by kernel_rfl) (by kernel_rfl) (fun _ _ _ h => h) (Or.inl ⟨by rfl, ?_⟩) S3.out ?_
          rotate_left
          · intro w hw
            try dsimp only at hw
            obtain ⟨q0, q1⟩ := hw
            go_simp
            try with_reducible rfl
          try simp only [Act.put, List.setIfInBounds_toArray, List.set_cons_zero, List.set_cons_succ]
          refine takeL (i := 12) (v := ?_) rfl (by kernel_rfl) (by kernel_rfl) (by kernel_rfl) (fun _ _ _ h => h) (Or.inl ⟨by rfl, ?_⟩) S3.out ?_
          rotate_left
          · intro w hw
            try dsimp only at hw
            obtain ⟨q0, q1⟩ := hw
            go_simp
            try with_reducible rfl
          try simp only [Act.put, List.setIfInBounds_toArray, List.set_cons_zero, List.set_cons_succ]
          have c5 : V3.cell? ⟨gz, 5, none⟩ = some (.slice (some a) kn kc) := (Y3.out.cell 5).trans HTRG.out
          have f5 := Y3.out.frozen 5
          refine readyL (i := 13) rfl (by kernel_rfl) (by kernel_rfl) fun K hK => ?_
          go_simp
          have hcy := HSET.out A2 (kn + 1) c2
          have C4 := Lib.hid (C3.out.far (p := ⟨gz, 5, none⟩) HGZ.out (.slice A2 (kn + 1) c2))
          have S4 := Lib.hid (HD5.out _ C4.out)
          refine hK.out _ _ S4.out ?_
          clear hK K
          try simp only [Act.put, List.setIfInBounds_toArray, List.set_cons_zero, List.set_cons_succ]
          refine wpAnyH_done (by kernel_rfl) ?_ _
          go_wp2_with fail
          go_meet
          refine ⟨cs.set 5 (.slice A2 (kn + 1) c2), ⟨Y3.out.set_ 5 _, _, hcy, HINK.out _ A2 (kn + 1) c2 C4.out.wide ?_ CC.out HLN.out⟩, E3.out.setCell HGV.out _⟩
          have h := A3.out.far (p := ⟨gz, 5, none⟩) (fun a ha => by have := (LT3.out a.block (by rw [ha]; rfl)).1; have := HG0.out.1; intro e; have e : a.block = gz := e; omega) (.slice A2 (kn + 1) c2)
          exact (HFL.out ▸ h).more (by simp)
      case rest =>
        obtain ⟨cz, hhz, hbz⟩ := hcut
        have HZ6 := Lib.hid hhz
        have C7 := Lib.hid (C14.out.below hbz)
        have HY7 := Lib.hid (HY2.out.below hbz)
        have HSZ : Hid ((Try.prog.info? 33).map (·.size) = some cz.length) := Lib.hid (by
          obtain ⟨s', e, h⟩ := hhz.tx
          rw [e, size_tx, tcells_len h.m.recent])
        clear hhz hbz C14 HSET HINK RY B6 HGZ HGV HL0 C6 HY2
        obtain ⟨tw, htw⟩ : ∃ tw : Int, tw = if tot x.m = 64 then 3 else 9 := ⟨_, rfl⟩
        have HCZ := Lib.hid (held_check HZ6.out (small_keys HSM.out (by rw [HLN.out]; omega)) (wf_keys HW.out (fun y hy => by
          rcases List.mem_append.1 hy with hy | hy
          · exact HW.out.keys y hy
          · rw [List.mem_singleton.1 hy]; exact HKK.out)) (show chk (withKeys x (x.m.keys ++ [k0])) = tw by rw [chk_key HH.out k0, if_pos HKE.out, htw]))
        have HTW := Lib.hid htw
        have HTX2 := Lib.hid (fun (V : World) (h : Held V w.heap.size cs x) => held_total h HSM.out rfl)
        clear htw
        generalize tot x.m = tt at *
        go_wp2_with ((with_reducible show wpList _ _ _ ({ dst := some 94, op := Op.load _ _, type := _, pos := _, after := _, guard := _ } :: _) _ _); go_must (refine wpList_load_whole rfl 33 (.tmp 11) rfl gz 33 cz _ Try.underlying33 rfl HSZ.out HZ6.out.row ?_ ?_; go_simp))
        refine HCZ.out.mono ?_
        rintro e W15 ⟨rfl, hb15⟩
        have C15 := Lib.hid (C7.out.below hb15)
        have HY15 := Lib.hid (HY7.out.below hb15)
        clear hb15 C7 HY7 HZ6 HCZ
        by_cases h64 : tt = 64
        · obtain rfl : tw = 3 := by rw [HTW.out, if_pos h64]
          have q64 : ((tt : Int) == 64) = true := by simp [h64]
          clear h64 HTW
          go_wp2_with ((with_reducible show wpList _ _ _ ({ dst := some 96, op := Op.load _ _, type := _, pos := _, after := _, guard := _ } :: _) _ _); go_must (refine wpList_load_whole rfl 33 (.tmp 8) rfl gy 33 cy2 _ Try.underlying33 rfl HSY2.out HY15.out.row ?_ ?_; go_simp))
          refine (HCY2.out _ HY15.out).mono ?_
          rintro e W16 ⟨rfl, hb16⟩
          have C16 := Lib.hid (C15.out.below hb16)
          clear hb16
          go_wp2_with ((with_reducible show wpList _ _ _ ({ dst := some 106, op := Op.load _ _, type := _, pos := _, after := _, guard := _ } :: _) _ _); go_must (refine wpList_load_atg (by kernel_rfl) 33 (.tmp 3) rfl ⟨w.heap.size, 0, none⟩ cs _ Try.underlying33 rfl HTS.out (fun j v hv => by rw [addr_row, C16.out.tx.cell, Nat.zero_add]; exact hv) ?_ ?_; go_simp))
          refine (HTX2.out _ (HXC.out _ C16.out)).mono ?_
          rintro e W17 ⟨rfl, hb17⟩
          have C17 := Lib.hid (C16.out.below hb17)
          clear hb17
          go_wp2_with fail
          refine (lives5 _).mono ?_
          rintro e W18 ⟨rfl, hb18⟩
          go_wp2_with fail
          go_ret
          exact ⟨rfl, C17.out.b.trans (hb18.mono C17.out.b.size)⟩
        · obtain rfl : tw = 9 := by rw [HTW.out, if_neg h64]
          clear h64 HTW
          go_wp2_with ((with_reducible show wpList _ _ _ ({ dst := some 96, op := Op.load _ _, type := _, pos := _, after := _, guard := _ } :: _) _ _); go_must (refine wpList_load_whole rfl 33 (.tmp 8) rfl gy 33 cy2 _ Try.underlying33 rfl HSY2.out HY15.out.row ?_ ?_; go_simp))
          refine (HCY2.out _ HY15.out).mono ?_
          rintro e W16 ⟨rfl, hb16⟩
          have C16 := Lib.hid (C15.out.below hb16)
          clear hb16
          go_wp2_with fail
          refine (lives5 _).mono ?_
          rintro e W18 ⟨rfl, hb18⟩
          go_wp2_with fail
          go_ret
          exact ⟨rfl, C16.out.b.trans (hb18.mono C16.out.b.size)⟩
end Go.Proofs.Ytgdikmgmpleolaa
