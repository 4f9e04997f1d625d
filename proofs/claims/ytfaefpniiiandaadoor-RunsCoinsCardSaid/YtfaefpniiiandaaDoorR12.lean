/-
  Parts joined: CoinsWalk15.
-/
import Derived.Below
import Derived.Laws.OwnMore
import Derived.Deep.AppendLies
import Derived.Deep.Draws
import Derived.Lib.Hide
import Derived.Laws.MakeOwn
import Derived.Laws.CopyOwn
import Derived.Laws.Rows
import Derived.Laws.BitsAllLaws
import Derived.WalkKit
import Derived.Test.YtfaefpniiiandaaDoorRows
import Derived.WalkSpells
import Derived.WalkLawsBesides
import Derived.IntWalk
import Derived.Deep.MidRow
import Derived.Deep.WholeRow
import Derived.Maps.AppendAt
import Derived.OwnWalk
import Derived.Great.BuildSlice
import Derived.Recover
import Derived.Deep.RegionHeld
import Derived.Deep.QuietTactic
import Derived.BigQuiet
import Derived.ChangeKeysEq
import Derived.Deep.RegionHeld2
import Derived.Deep.CutBlock
import Derived.Laws.Tables
import Derived.ProofKit
import Derived.OpenShut
import Derived.ShutString
import Derived.ChangeOld
import Derived.Lib.SmallJoins
import Derived.Deep.Slices
import Derived.Deep.Strs
import Derived.SizedLaws
import Derived.Laws.StructEq
import Derived.Laws.Slices
import Derived.Deep.DeepCutAuto
import Derived.Maps.OwnSet
import Derived.DeepKeys4
import Derived.WideKeyArr
import Derived.Laws.EntriesVeiled
import Derived.Deep.RegionHeld3
import Derived.WideKeyEntry
import Derived.WalkMore
import Derived.Maps.RangeWalk
import Derived.Shelf.SlMaps.Clone
import Derived.Laws.Append
import Derived.Laws.AppendOwn
import Derived.LaidMore
import Derived.Maps.OwnOps
import Derived.Laws.BytesArg
import Derived.Laws.Strings
import Derived.Lib.Strings
import Derived.Great.Walk
import Derived.Laws.Bits64b
import Derived.Laws.Externs
import Derived.LaidHandle
import Derived.LaidLaws
import Derived.RangeFuncOwn
import Derived.LaidEql
import Derived.Stop.Asserts
import Derived.RowKitTokens
import Derived.Lib.BitFns
import Derived.Lib.Mul64
import Derived.Laws.NewBlocks
import Derived.RangeFuncNested
import Derived.RangeFuncBound
import Derived.RangeFuncCalls
import Derived.RangeFuncLeaves
import Derived.Shelf.Abstract
import Derived.Shelf.RegionOpen
import Derived.OwnWalkIn
import Derived.TacticsInMore
import Derived.LoopNIn
import Derived.LoopIn
import Derived.Shelf.Small.Bits
import Derived.Scope
import Derived.Test.YtfaefpniiiandaaDoorR1
import Derived.Test.YtfaefpniiiandaaDoorR2
import Derived.Test.YtfaefpniiiandaaDoorR3
import Derived.Test.YtfaefpniiiandaaDoorR4
import Derived.Test.YtfaefpniiiandaaDoorR5
import Derived.Test.YtfaefpniiiandaaDoorR6
import Derived.Test.YtfaefpniiiandaaDoorR7
import Derived.Test.YtfaefpniiiandaaDoorR8
import Derived.Test.YtfaefpniiiandaaDoorR9
import Derived.Test.YtfaefpniiiandaaDoorR10
import Derived.Test.YtfaefpniiiandaaDoorR11
/-
  Of part CoinsWalk15: what is needed here.
-/
namespace Go.Proofs.YtfaefpniiiandaaDoor
open Go.RowKit
set_option linter.unusedVariables false
set_option maxRecDepth 100000
theorem len_take15 {α : Type} {l : List α} {k : Nat} (h : k ≤ l.length) : (l.take k).length = k := by rw [List.length_take]; omega
theorem take_succ15 {l : List LAcc} {k : Nat} {x : LAcc} (h : l[k]? = some x) : l.take (k + 1) = l.take k ++ [x] := by rw [List.take_add_one, h]; rfl
set_option maxHeartbeats 16000000 in
theorem coinsWalk15 (A : Option Addr) (n c : Nat) (l : List LHold) (q : YRaw) (x : LReady) (w : World) (hl : HolsIn16 w w.heap.size A n l) (hnc : n ≤ c ∧ c ≤ maxLen) (h : ReadyIn w w.heap.size q x) (hok : RdOk x) (htw : TypAt w) :
    Calls Tryd.prog 3 #[.slice A n c, .agg (q.cells x).toArray] w fun e w' => e = .returned (.bool true) ∧ Below w.heap.size w w' := by
  have hb0 := (Below.refl w.heap.size w).alloc (Nat.le_refl _) (.cells (q.cells x).toArray 41)
  have X0 : Hid (CW15 w (w.alloc (.cells (q.cells x).toArray 41)) w.heap.size q x) := Lib.hid ⟨hb0, Row.new w 41 (q.cells x), h.below hb0⟩
  have HL := Lib.hid hl
  have HT := Lib.hid htw
  have HOK := Lib.hid (rd_ok15 hok h)
  have HWD := Lib.hid (rd_wide15 hok)
  have H32 := Lib.hid h.tx.m.recent
  have HNI := Lib.hid h.tx.m.ins.len
  have HRL := Lib.hid h.rs.len
  obtain ⟨g2, hg2⟩ : ∃ g, g = w.heap.size := ⟨_, rfl⟩
  have HG2 : Hid (w.heap.size = g2) := Lib.hid hg2.symm
  rw [← hg2] at X0
  clear hb0 hl h hok htw hg2
  generalize hW : w.alloc (.cells (q.cells x).toArray 41) = W at *
  have HW := Lib.hid hW
  clear hW
  go_enter Tryd.func3, Tryd.ntmps3
  go_upto_region 1 with fail
  try rw [HG2.out]
  rw [HW.out]
  clear HG2 HW
  by_cases hlong : 200 < n
  · have hl1 : (200 : Int) < n := by omega
    go_wp2_with fail
    refine (lives15 _ (HT.out.below X0.out.b HT.out.pos)).mono ?_
    rintro e wl ⟨rfl, hbl⟩
    have BL := Lib.hid (X0.out.b.trans (hbl.mono X0.out.b.size))
    clear hbl
    go_wp2_with fail
    go_ret
    exact ⟨rfl, BL.out⟩
  have hl1 : ¬ (200 : Int) < n := by omega
  have HGR := Lib.hid (great15 q x w.heap.size W X0.out.rd X0.out.b.size HWD.out)
  go_wp2_with (first
    | ((with_reducible show wpList _ _ _ ({ dst := some 20, op := Op.load _ _, type := _, pos := _, after := _, guard := _ } :: _) _ _); go_must (refine wpList_load_atg (by kernel_rfl) 41 (.tmp 3) rfl ⟨g2, 0, none⟩ (q.cells x) _ Tryd.underlying41 rfl (size_rd15b H32.out) (fun j v hv => by rw [addr_row, X0.out.r2.cell, Nat.zero_add]; exact hv) ?_ ?_; go_simp))
    | fail)
  refine HGR.out.mono ?_
  rintro e w1 ⟨⟨bg, rfl, hfew⟩, hb1⟩
  have X1 := Lib.hid (X0.out.below hb1)
  clear hb1 X0 HGR HWD
  cases bg with
  | true =>
    clear hfew
    go_wp2_with fail
    refine (lives15 _ (HT.out.below X1.out.b HT.out.pos)).mono ?_
    rintro e wl ⟨rfl, hbl⟩
    have BL := Lib.hid (X1.out.b.trans (hbl.mono X1.out.b.size))
    clear hbl
    go_wp2_with fail
    go_ret
    exact ⟨rfl, BL.out⟩
  | false =>
  have HF := Lib.hid (hfew rfl)
  clear hfew
  have HRN : Hid (q.rn ≤ 300) := Lib.hid (by have h1 := HF.out.r; have h2 := HRL.out; omega)
  have c41 : w1.cell? ⟨g2, 41, none⟩ = some (.slice q.RA q.rn q.rc) := (X1.out.r2.cell 41).trans (ycells_41 H32.out 0)
  have HTW := Lib.hid (twice15 q.RA q.rn q.rc w.heap.size x.roles w1 X1.out.rd.rs X1.out.b.size (by have := HRN.out; omega))
  obtain ⟨rn, hrn⟩ : ∃ n, n = q.rn := ⟨_, rfl⟩
  have HQN : Hid (rn = q.rn) := Lib.hid hrn
  rw [← hrn] at c41 HTW HRN
  clear hrn
  go_wp2_with fail
  refine HTW.out.mono ?_
  rintro e w2 ⟨⟨bt, rfl⟩, hb2⟩
  have X2 := Lib.hid (X1.out.below hb2)
  clear hb2 X1 HTW c41
  cases bt with
  | true =>
    go_wp2_with fail
    refine (lives15 _ (HT.out.below X2.out.b HT.out.pos)).mono ?_
    rintro e wl ⟨rfl, hbl⟩
    have BL := Lib.hid (X2.out.b.trans (hbl.mono X2.out.b.size))
    clear hbl
    go_wp2_with fail
    go_ret
    exact ⟨rfl, BL.out⟩
  | false =>
  go_wp2_with fail
  refine (stores16 A n c w.heap.size l w2 ⟨HL.out.cs.below X2.out.b, HL.out.ok⟩ X2.out.b.size (by omega)).mono ?_
  rintro e w3 ⟨sb, mb, pb, rfl, hs3, hsl, hml, hb3⟩
  generalize commit16 [] l = L at *
  have X3 := Lib.hid (X2.out.below hb3)
  have S3 := Lib.hid hs3
  clear hs3 hsl hml hb3 X2
  go_wp2_with (first
    | ((with_reducible show wpList _ _ _ ({ dst := some 36, op := Op.load _ _, type := _, pos := _, after := _, guard := _ } :: _) _ _); go_must (refine wpList_load_whole rfl 41 (.tmp 3) rfl g2 _ (q.cells x) _ Tryd.underlying41 rfl (size_rd15b H32.out) X3.out.r2 ?_ ?_; go_simp))
    | fail)
  refine (loadC sb mb L q x w.heap.size w3 S3.out X3.out.rd X3.out.b.size (by have h1 := HRN.out; have h2 := HQN.out; omega) HOK.out.kb HOK.out.fee).mono ?_
  rintro e w4 ⟨hb4, hcs⟩
  have X4 := Lib.hid (X3.out.below hb4)
  have S4 := Lib.hid (S3.out.below hb4)
  clear hb4 X3 S3
  rcases hcs with ⟨_, rfl⟩ | ⟨hpay, gl, cap, rest, rfl, hol⟩
  · go_wp2_with fail
    refine (lives15 _ (HT.out.below X4.out.b HT.out.pos)).mono ?_
    rintro e wl ⟨rfl, hbl⟩
    have BL := Lib.hid (X4.out.b.trans (hbl.mono X4.out.b.size))
    clear hbl
    go_wp2_with fail
    go_ret
    exact ⟨rfl, BL.out⟩
  have HPY := Lib.hid hpay
  have HLK := Lib.hid (show x.roles.length = rn from HRL.out.trans HQN.out.symm)
  have HRC := Lib.hid (runC q x w4.heap.size (some ⟨gl, 0, none⟩) x.roles.length x.roles.length (load15 L x) w4 (X4.out.rd.more X4.out.b.size) (acc_in15 hol) ⟨Nat.le_refl _, by have h1 := HLK.out; have h2 := HRN.out; unfold maxLen; omega⟩ (Nat.le_refl _) (by have h1 := HLK.out; have h2 := HRN.out; omega) HOK.out.p HOK.out.ab HOK.out.u ⟨by have h1 := HNI.out; have h2 := HF.out.n; omega, fun a ha => by have := (HF.out.acc ha).1; omega⟩ (HT.out.below X4.out.b HT.out.pos))
  have HRA := Lib.hid (run_ran15 (x := x) hol.ok HOK.out.ab)
  clear hpay hol
  rw [HLK.out] at HRC ⊢
  generalize run15 x (load15 L x) = R at *
  obtain ⟨o, er⟩ := R
  go_wp2_with (first
    | ((with_reducible show wpList _ _ _ ({ dst := some 53, op := Op.load _ _, type := _, pos := _, after := _, guard := _ } :: _) _ _); go_must (refine wpList_load_whole rfl 41 (.tmp 3) rfl g2 _ (q.cells x) _ Tryd.underlying41 rfl (size_rd15b H32.out) X4.out.r2 ?_ ?_; go_simp))
    | fail)
  refine HRC.out.mono ?_
  clear HRC
  rintro e w5 ⟨A5, c5, rfl, ho5, hb5⟩
  have X5 := Lib.hid (X4.out.below hb5)
  have S5 := Lib.hid (S4.out.below hb5)
  have O5 := Lib.hid ho5
  clear ho5 hb5 X4 S4
  go_upto_region 8 with (first
    | ((with_reducible show wpList _ _ _ ({ dst := some 9, op := Op.alloc _, type := _, pos := _, after := _, guard := _ } :: _) _ _); go_must (refine wpList_alloc_zero rfl 54 rfl (out0.cells (.slice none 0 0)) zero_out15 ?_))
    | ((with_reducible show wpList _ _ _ ({ dst := none, op := Op.store 54 (.tmp 9) _, type := _, pos := _, after := _, guard := _ } :: _) _ _); go_must (refine wpList_store_new rfl 54 (.tmp 9) (.tmp 56) rfl (o.cells (.slice A5 o.ch.length o.ch.length)) (size_out15 _ _) (out_one15 _ rfl) rfl ?_ ?_ ?_; go_simp; go_simp; intro w6 hr6 hb6 hz6)))
  have R6 := Lib.hid hr6
  have X6 := Lib.hid (X5.out.below hb6)
  have S6 := Lib.hid (S5.out.below hb6)
  have O6 := Lib.hid (own_below O5.out hb6)
  obtain ⟨g9, hg9⟩ : ∃ g, g = w5.heap.size := ⟨_, rfl⟩
  rw [← hg9] at R6 ⊢
  clear hr6 hb6 hz6 hg9 X5 S5 O5
  by_cases hne : ¬ er = 0
  · obtain rfl : er = 1 := by
      rcases HRA.out with h1 | h1
      · exact congrArg Prod.snd h1
      · exact absurd h1.1 hne
    go_wp2_with fail
    refine (lives15 _ (HT.out.below X6.out.b HT.out.pos)).mono ?_
    rintro e wl ⟨rfl, hbl⟩
    have BL := Lib.hid (X6.out.b.trans (hbl.mono X6.out.b.size))
    clear hbl
    go_wp2_with fail
    go_ret
    exact ⟨rfl, BL.out⟩
  obtain rfl : er = 0 := Classical.not_not.1 hne
  obtain ⟨f, HCH, HRF⟩ : ∃ f, Hid (o.ch = chg15 x.roles f) ∧ Hid (Ran15 x.roles (load15 L x) f) := by
    rcases HRA.out with h1 | ⟨_, _, f, h1, h2⟩
    · exact absurd (congrArg Prod.snd h1) (by show ¬ (0 : Int) = 1; decide)
    · exact ⟨f, Lib.hid h1, Lib.hid h2⟩
  clear HRA hne
  have HFL : Hid (f.length = rn) := Lib.hid (by rw [HRF.out.len, (load_sum15 HPY.out).1]; exact HLK.out)
  have HBL : Hid ((ld15 L x.roles).length = rn) := Lib.hid (by rw [ld_len15]; exact HLK.out)
  have HLR : Hid (f.length = x.roles.length) := Lib.hid (HFL.out.trans HLK.out.symm)
  have HCO := Lib.hid (chg_ok15 x.roles f (fun r hr => (X6.out.rd.rs.ok r hr).1) (fun a ha => (HRF.out.ok a ha).o.1))
  have HBO : Hid (∀ a ∈ ld15 L x.roles, AccOk a) := Lib.hid fun a ha => by
    obtain ⟨r, hr, rfl⟩ := List.mem_map.1 ha
    exact S6.out.sto.get_ok r.key
  obtain ⟨cn, hcn⟩ : ∃ n, n = o.ch.length := ⟨_, rfl⟩
  have HCN := Lib.hid hcn
  have hcle : cn ≤ rn := by rw [hcn, HCH.out, ← HFL.out]; exact chg_len15 _ _
  have o5 : w6.cell? ⟨g9, 5, none⟩ = some (.slice A5 cn cn) := by rw [hcn]; exact R6.out.cell 5
  have c41 : w6.cell? ⟨g2, 41, none⟩ = some (.slice q.RA rn q.rc) := by rw [HQN.out]; exact (X6.out.r2.cell 41).trans (ycells_41 H32.out 0)
  have c45 : w6.cell? ⟨g2, 45, none⟩ = some (.int .u64 x.fee) := (X6.out.r2.cell 45).trans (ycells_41 H32.out 4)
  have hrn3 := HRN.out
  clear hcn
  go_wp2_with fail
  go_loopw [11, 12, 13, 14, 15] (fun va vb at_ i _ wr => ∃ k : Nat, k ≤ rn ∧ i = .int .i64 k ∧ at_ = .int .i64 ((chg15 (x.roles.take k) (f.take k)).length : Nat) ∧ Two15 wr w6.heap.size va vb ((ld15 L x.roles).take k) (f.take k) ∧ Below w6.heap.size w6 wr) (fun _ _ _ i _ _ => rn - (intOf i).toNat)
  case atStart => exact ⟨0, Nat.zero_le _, rfl, by first | rfl | simp [chg15], Two15.nil _ _, Below.refl _ _⟩
  case round =>
    obtain ⟨k, hk, rfl, rfl, htw, hbw⟩ := hrel
    have BW := Lib.hid hbw
    have TW := Lib.hid htw
    clear hbw htw
    rename World => wr
    have c41' : wr.cell? ⟨g2, 41, none⟩ = some (.slice q.RA rn q.rc) := (BW.out.cell (p := ⟨g2, 41, none⟩) X6.out.r2.lt).trans c41
    have o5' : wr.cell? ⟨g9, 5, none⟩ = some (.slice A5 cn cn) := (BW.out.cell (p := ⟨g9, 5, none⟩) R6.out.lt).trans o5
    by_cases hlt : k < rn
    · have hlt' : (k : Int) < rn := by omega
      obtain ⟨ra, y, hra, hrb, hy, hyo, hyc⟩ := X6.out.rd.rs.get (k := k) (by rw [← HQN.out]; exact hlt)
      obtain ⟨z, hz⟩ : ∃ z, f[k]? = some z := ⟨_, List.getElem?_eq_getElem (by rw [HFL.out]; exact hlt)⟩
      have HZO := Lib.hid (HRF.out.ok z (List.mem_of_getElem? hz))
      have HXL : Hid (w.heap.size ≤ w6.heap.size) := Lib.hid X6.out.b.size
      have HYC : Hid (∀ V, Below w6.heap.size w6 V → ∀ j u, y.cells[j]? = some u → V.cell? ((ra.add (k * 34)).add j) = some u) := Lib.hid fun V hV j u hu => (hV.cell (by rw [addr_block, addr_block]; have := HXL.out; omega)).trans (hyc j u hu)
      have HSN := Lib.hid (chg_snoc15 hy hz)
      have HGT := Lib.hid (fun hw => chg_get15 (k := k) HLR.out hy hz hw)
      have HRD := Lib.hid (fun hw => ran_reads15 HPY.out HRF.out hy hw)
      have HT1 := Lib.hid (take_succ15 (ld_at15 (L := L) hy))
      have HT2 := Lib.hid (take_succ15 hz)
      have HY := Lib.hid hy
      have HZ := Lib.hid hz
      have HYO := Lib.hid hyo
      have H41 : Hid (∀ V, Below w6.heap.size w6 V → V.cell? ⟨g2, 41, none⟩ = some (.slice (some ra) rn q.rc)) := Lib.hid fun V hV => ((hV.cell (p := ⟨g2, 41, none⟩) X6.out.r2.lt).trans c41).trans (by rw [hra])
      have H5 : Hid (∀ V, Below w6.heap.size w6 V → V.cell? ⟨g9, 5, none⟩ = some (.slice A5 cn cn)) := Lib.hid fun V hV => (hV.cell (p := ⟨g9, 5, none⟩) R6.out.lt).trans o5
      rw [hra] at c41'
      have HKS : Hid ((Tryd.prog.info? 57).map (·.size) = some (bv y.key).length) := Lib.hid (by rw [bv_length, hyo.1]; exact size_key)
      have HKC : Hid (∀ V, Below w6.heap.size w6 V → ∀ j u, (bv y.key)[j]? = some u → V.cell? ((ra.add (k * 34)).add j) = some u) := Lib.hid fun V hV j u hu => HYC.out V hV j u (role_key hu)
      clear hra hrb hy hyo hyc hz
      obtain ⟨m, hm⟩ : ∃ m, m = (chg15 (x.roles.take k) (f.take k)).length := ⟨_, rfl⟩
      rw [← hm]
      have HMM := Lib.hid hm
      have hmle : m ≤ k := by rw [hm]; exact Nat.le_trans (chg_len15 _ _) (List.length_take_le k f)
      clear hm
      have HLT1 : Hid (((ld15 L x.roles).take k).length = k ∧ (f.take k).length = k) := Lib.hid ⟨len_take15 (by rw [HBL.out]; exact hk), len_take15 (by rw [HFL.out]; exact hk)⟩
      have hk300 : k ≤ 300 := by omega
      have HGO := Lib.hid (S6.out.sto.get_ok y.key)
      go_upto_region 15 with fail
      go_wp2_with (first
        | ((with_reducible show wpList _ _ _ ({ dst := some 78, op := Op.load _ _, type := _, pos := _, after := _, guard := _ } :: _) _ _); go_must (refine wpList_load_at rfl 57 (.tmp 77) rfl (ra.add (k * 34)) (bv y.key) _ Tryd.underlying57 rfl HKS.out (HKC.out wr BW.out) ?_ ?_; go_simp))
        | fail)
      refine (get13 sb mb L y.key wr (S6.out.below BW.out) ⟨HYO.out.1, HYO.out.2⟩).mono ?_
      rintro e w7 ⟨rfl, hb7⟩
      generalize getH L y.key = v at *
      have B7 := Lib.hid (BW.out.trans (hb7.mono BW.out.size))
      have T7 := Lib.hid (TW.out.below hb7)
      clear hb7 TW BW c41' o5'
      go_upto_region 16 with (first
        | ((with_reducible show wpList _ _ _ ({ dst := some 15, op := Op.alloc _, type := _, pos := _, after := _, guard := _ } :: _) _ _); go_must (refine wpList_alloc_zero rfl 59 rfl blank13.cells zero_acc ?_))
        | ((with_reducible show wpList _ _ _ ({ dst := none, op := Op.store 59 (.tmp 15) _, type := _, pos := _, after := _, guard := _ } :: _) _ _); go_must (refine wpList_store_new rfl 59 (.tmp 15) (.tmp 79) rfl v.cells (size_acc HGO.out.o.1) (acc_one _) (by rw [acc_len HGO.out.o.1]; rfl) ?_ ?_ ?_; go_simp; go_simp; intro w8 hr8 hb8 hz8)))
      have R8 := Lib.hid hr8
      have B8 := Lib.hid (B7.out.trans (hb8.mono B7.out.size))
      have HF8 := Lib.hid (two_far15 T7.out (Nat.le_refl _))
      have T8 := Lib.hid (T7.out.below hb8)
      obtain ⟨g8, hg8⟩ : ∃ g, g = w7.heap.size := ⟨_, rfl⟩
      rw [← hg8] at R8 HF8 ⊢
      clear hr8 hb8 hz8 hg8 T7 B7
      have hb9 := (Below.refl w8.heap.size w8).alloc (Nat.le_refl _) (.cells v.cells.toArray 59)
      have R9 := Lib.hid (Row.new w8 59 v.cells)
      have T9 := Lib.hid (T8.out.below hb9)
      have B9 := Lib.hid (B8.out.trans (hb9.mono B8.out.size))
      clear hb9
      have R89 := Lib.hid (R8.out.alloc (.cells v.cells.toArray 59))
      go_upto_region 17 with (first
        | ((with_reducible show wpList _ _ _ ({ dst := some 81, op := Op.load _ _, type := _, pos := _, after := _, guard := _ } :: _) _ _); go_must (refine wpList_load_whole rfl 59 (.tmp 15) rfl g8 59 v.cells _ Tryd.underlying59 rfl (size_acc HGO.out.o.1) R8.out ?_ ?_; go_simp))
        | ((with_reducible show wpList _ _ _ ({ dst := some 82, op := Op.buildSlice _ _ _, type := _, pos := _, after := _, guard := _ } :: _) _ _); go_must (refine wpList_buildOne rfl 49 59 (.tmp 81) rfl v.cells _ 34 48 Tryd.underlying49 info_ac15 (by kernel_rfl) (by omega) (by omega) (acc_len HGO.out.o.1) ?_ ?_; go_simp))
        | ((with_reducible show wpList _ _ _ ({ dst := some 83, op := Op.call _, type := _, pos := _, after := _, guard := _ } :: _) _ _); go_must (refine BigFrame.wpList_want (by kernel_rfl) fun K hK => wp_addA15 (.tmp 80) (.tmp 82) rfl T9.out (by go_simp) (by go_simp) R9.out HGO.out.o.1 (by have h1 := HLT1.out.1; omega) B9.out.size ?_; intro va9 w10 ht10 hb10 hr10; refine hK _ _ ?_)))
      have R10 := Lib.hid (hr10 g8 _ _ HF8.out.1 R89.out)
      have T10 := Lib.hid ht10
      have B10 := Lib.hid (B9.out.trans hb10)
      clear ht10 hb10 hr10 R89 R9 T9 B9 T8 B8 R8
      have cw : w10.cell? ⟨(ra.add (k * 34)).block, (ra.add (k * 34)).off + 33, none⟩ = some (.bool y.wr) := HYC.out w10 B10.out 33 _ (role_wr HYO.out.1)
      have c41b := H41.out w10 B10.out
      cases hw : y.wr with
      | false =>
        rw [hw] at cw HSN
        have HS2 : Hid ((chg15 (x.roles.take (k + 1)) (f.take (k + 1))).length = m) := Lib.hid (by rw [HSN.out, HMM.out]; simp)
        have HFK := HRD.out hw
        obtain rfl : z = v := by
          have h1 := HZ.out
          rw [HFK] at h1
          exact (Option.some.inj h1).symm
        clear HFK
        go_upto_region 18 with fail
        have hb11 := (Below.refl w10.heap.size w10).alloc (Nat.le_refl _) (.cells z.cells.toArray 59)
        have R11 := Lib.hid (Row.new w10 59 z.cells)
        have T11 := Lib.hid (T10.out.below hb11)
        have B11 := Lib.hid (B10.out.trans (hb11.mono B10.out.size))
        clear hb11
        go_wp2_with (first
          | ((with_reducible show wpList _ _ _ ({ dst := some 92, op := Op.load _ _, type := _, pos := _, after := _, guard := _ } :: _) _ _); go_must (refine wpList_load_whole rfl 59 (.tmp 15) rfl g8 59 z.cells _ Tryd.underlying59 rfl (size_acc HZO.out.o.1) R10.out ?_ ?_; go_simp))
          | ((with_reducible show wpList _ _ _ ({ dst := some 93, op := Op.buildSlice _ _ _, type := _, pos := _, after := _, guard := _ } :: _) _ _); go_must (refine wpList_buildOne rfl 49 59 (.tmp 92) rfl z.cells _ 34 48 Tryd.underlying49 info_ac15 (by kernel_rfl) (by omega) (by omega) (acc_len HZO.out.o.1) ?_ ?_; go_simp))
          | ((with_reducible show wpList _ _ _ ({ dst := some 94, op := Op.call _, type := _, pos := _, after := _, guard := _ } :: _) _ _); go_must (refine BigFrame.wpList_want (by kernel_rfl) fun K hK => wp_addB15 (.tmp 91) (.tmp 93) rfl T11.out (by go_simp) (by go_simp) R11.out HZO.out.o.1 (by have h1 := HLT1.out.2; omega) B11.out.size ?_; intro vb12 w12 ht12 hb12; refine hK _ _ ?_)))
        have T12 := Lib.hid ht12
        have B12 := Lib.hid (B11.out.trans hb12)
        clear ht12 hb12
        go_roundw
        case rel => exact ⟨k + 1, by omega, by go_num, by rw [HS2.out], by rw [HT1.out, HT2.out]; exact T12.out, B12.out⟩
        case measure => simp [intOf]; omega
      | true =>
        rw [hw] at cw HSN
        have HGE : Hid (o.ch[m]? = some ⟨y.key, z⟩) := Lib.hid (by rw [HCH.out, HMM.out]; exact HGT.out hw)
        have hmc : m < cn := by rw [HCN.out]; exact (List.getElem?_eq_some_iff.1 HGE.out).1
        have HS2 : Hid ((chg15 (x.roles.take (k + 1)) (f.take (k + 1))).length = m + 1) := Lib.hid (by rw [HSN.out, HMM.out]; simp)
        obtain ⟨ca, hca, hcb, hcc⟩ := chg_at15 O6.out (fun u hu => by rw [HCH.out] at hu; obtain ⟨h1, h2⟩ := HCO.out u hu; exact hold_len h1 h2) HGE.out
        have HCC : Hid (∀ V, Below w6.heap.size w6 V → ∀ j u, (LHold.mk y.key z).cells[j]? = some u → V.cell? ((ca.add (m * 66)).add j) = some u) := Lib.hid fun V hV j u hu => (hV.cell (by rw [addr_block, addr_block]; exact hcb)).trans (hcc j u hu)
        have HCK : Hid (∀ V, Below w6.heap.size w6 V → ∀ j u, (bv y.key)[j]? = some u → V.cell? ((ca.add (m * 66)).add j) = some u) := Lib.hid fun V hV j u hu => HCC.out V hV _ _ (hold_k hu)
        have H5b : Hid (∀ V, Below w6.heap.size w6 V → V.cell? ⟨g9, 5, none⟩ = some (.slice (some ca) cn cn)) := Lib.hid (by rw [← hca]; exact H5.out)
        have HEQ : Hid (∀ w, (binOp .neq 57 (.agg (bv y.key).toArray) (.agg (bv y.key).toArray)).run Tryd.prog w = .ok (.bool false) w) := Lib.hid fun w => by rw [key_neq HYO.out.1 HYO.out.1, decide_eq_true rfl]; rfl
        have HCZ : Hid (∀ V, Below w6.heap.size w6 V → ∀ j u, z.cells[j]? = some u → V.cell? (((ca.add (m * 66)).add 32).add j) = some u) := Lib.hid fun V hV j u hu => by rw [addr_add]; exact HCC.out V hV _ _ (hold_a (x := ⟨y.key, z⟩) HYO.out.1 hu)
        clear hca hcb hcc HGT
        have hmc' : (m : Int) < cn := by omega
        go_upto_region 19 with fail
        clear cw c41b
        have SB := Lib.hid (show Below w6.heap.size w6 w10.drew from B10.out.drew)
        have TD := Lib.hid (T10.out.below (show Below w10.heap.size w10 w10.drew from (Below.refl _ _).drew))
        refine wp_region_held_drew (S := fun V => Below w6.heap.size w6 V) (by kernel_rfl) SB.out (fun _ => ?_)
        try dsimp only [List.append]
        generalize w10.drew = wd at *
        refine takeL (i := 0) (v := ?_) rfl (by kernel_rfl) (by kernel_rfl) (by kernel_rfl) (fun _ _ _ h => h) (Or.inl ⟨by rfl, ?_⟩) SB.out ?_
        rotate_left
        · intro w hw
          try dsimp only at hw
          go_simp
          try with_reducible rfl
        try simp only [Act.put, List.setIfInBounds_toArray, List.set_cons_zero, List.set_cons_succ]
        refine takeL (i := 1) (v := ?_) rfl (by kernel_rfl) (by kernel_rfl) (by kernel_rfl) (fun _ _ _ h => h) (Or.inl ⟨by rfl, ?_⟩) SB.out ?_
        rotate_left
        · intro w hw
          try dsimp only at hw
          go_simp
          try with_reducible rfl
        try simp only [Act.put, List.setIfInBounds_toArray, List.set_cons_zero, List.set_cons_succ]
        refine takeL (i := 2) (v := ?_) rfl (by kernel_rfl) (by kernel_rfl) (by kernel_rfl) (fun _ _ _ h => h) (Or.inl ⟨by rfl, ?_⟩) SB.out ?_
        rotate_left
        · intro w hw
          try dsimp only at hw
          have oc := H5b.out w hw
          go_simp
          try with_reducible rfl
        try simp only [Act.put, List.setIfInBounds_toArray, List.set_cons_zero, List.set_cons_succ]
        refine takeL (i := 3) (v := ?_) rfl (by kernel_rfl) (by kernel_rfl) (by kernel_rfl) (fun _ _ _ h => h) (Or.inl ⟨by rfl, ?_⟩) SB.out ?_
        rotate_left
        · intro w hw
          try dsimp only at hw
          go_simp
          try with_reducible rfl
        try simp only [Act.put, List.setIfInBounds_toArray, List.set_cons_zero, List.set_cons_succ]
        refine takeL (i := 4) (v := ?_) rfl (by kernel_rfl) (by kernel_rfl) (by kernel_rfl) (fun _ _ _ h => h) (Or.inl ⟨by rfl, ?_⟩) SB.out ?_
        rotate_left
        · intro w hw
          try dsimp only at hw
          have hg : ¬ (cn : Int) ≤ (m : Int) := by omega
          have hg2 : decide ((cn : Int) ≤ (m : Int)) = false := decide_eq_false hg
          go_simp
          try with_reducible rfl
        try simp only [Act.put, List.setIfInBounds_toArray, List.set_cons_zero, List.set_cons_succ]
        refine takeL (i := 5) (v := ?_) rfl (by kernel_rfl) (by kernel_rfl) (by kernel_rfl) (fun _ _ _ h => h) (Or.inl ⟨by rfl, ?_⟩) SB.out ?_
        rotate_left
        · intro w hw
          try dsimp only at hw
          go_simp
          try with_reducible rfl
        try simp only [Act.put, List.setIfInBounds_toArray, List.set_cons_zero, List.set_cons_succ]
        refine takeL (i := 6) (v := ?_) rfl (by kernel_rfl) (by kernel_rfl) (by kernel_rfl) (fun _ _ _ h => h) (Or.inl ⟨by rfl, ?_⟩) SB.out ?_
        rotate_left
        · intro w hw
          try dsimp only at hw
          go_simp
          try with_reducible rfl
        try simp only [Act.put, List.setIfInBounds_toArray, List.set_cons_zero, List.set_cons_succ]
        refine takeL (i := 7) (v := ?_) rfl (by kernel_rfl) (by kernel_rfl) (by kernel_rfl) (fun _ _ _ h => h) (Or.inl ⟨by rfl, ?_⟩) SB.out ?_
        rotate_left
        · intro w hw
          try dsimp only at hw
          have oc := H5b.out w hw
          go_simp
          try with_reducible rfl
        try simp only [Act.put, List.setIfInBounds_toArray, List.set_cons_zero, List.set_cons_succ]
        refine takeL (i := 8) (v := ?_) rfl (by kernel_rfl) (by kernel_rfl) (by kernel_rfl) (fun _ _ _ h => h) (Or.inl ⟨by rfl, ?_⟩) SB.out ?_
        rotate_left
        · intro w hw
          try dsimp only at hw
          go_simp
          try with_reducible rfl
        try simp only [Act.put, List.setIfInBounds_toArray, List.set_cons_zero, List.set_cons_succ]
        refine takeL (i := 9) (v := ?_) rfl (by kernel_rfl) (by kernel_rfl) (by kernel_rfl) (fun _ _ _ h => h) (Or.inl ⟨by rfl, ?_⟩) SB.out ?_
        rotate_left
        · intro w hw
          try dsimp only at hw
          go_simp
          try with_reducible rfl
        try simp only [Act.put, List.setIfInBounds_toArray, List.set_cons_zero, List.set_cons_succ]
        refine takeL (i := 10) (v := ?_) rfl (by kernel_rfl) (by kernel_rfl) (by kernel_rfl) (fun _ _ _ h => h) (Or.inl ⟨by rfl, ?_⟩) SB.out ?_
        rotate_left
        · intro w hw
          try dsimp only at hw
          go_simp
          try with_reducible rfl
        try simp only [Act.put, List.setIfInBounds_toArray, List.set_cons_zero, List.set_cons_succ]
        refine takeL (i := 11) (v := .agg (bv y.key).toArray) rfl (by kernel_rfl) (by kernel_rfl) (by kernel_rfl) (fun _ _ _ h => h) (Or.inl ⟨by rfl, fun wz hwz => exec_load_at wz 57 (.tmp 105) rfl (ca.add (m * 66)) (bv y.key) _ Tryd.underlying57 rfl HKS.out (HCK.out wz hwz) (by go_simp)⟩) SB.out ?_
        try simp only [Act.put, List.setIfInBounds_toArray, List.set_cons_zero, List.set_cons_succ]
        refine takeL (i := 12) (v := ?_) rfl (by kernel_rfl) (by kernel_rfl) (by kernel_rfl) (fun _ _ _ h => h) (Or.inl ⟨by rfl, ?_⟩) SB.out ?_
        rotate_left
        · intro w hw
          try dsimp only at hw
          go_simp
          try with_reducible rfl
        try simp only [Act.put, List.setIfInBounds_toArray, List.set_cons_zero, List.set_cons_succ]
        refine takeL (i := 13) (v := ?_) rfl (by kernel_rfl) (by kernel_rfl) (by kernel_rfl) (fun _ _ _ h => h) (Or.inl ⟨by rfl, ?_⟩) SB.out ?_
        rotate_left
        · intro w hw
          try dsimp only at hw
          have oc := H41.out w hw
          go_simp
          try with_reducible rfl
        try simp only [Act.put, List.setIfInBounds_toArray, List.set_cons_zero, List.set_cons_succ]
        refine takeL (i := 14) (v := ?_) rfl (by kernel_rfl) (by kernel_rfl) (by kernel_rfl) (fun _ _ _ h => h) (Or.inl ⟨by rfl, ?_⟩) SB.out ?_
        rotate_left
        · intro w hw
          try dsimp only at hw
          go_simp
          try with_reducible rfl
        try simp only [Act.put, List.setIfInBounds_toArray, List.set_cons_zero, List.set_cons_succ]
        refine takeL (i := 15) (v := ?_) rfl (by kernel_rfl) (by kernel_rfl) (by kernel_rfl) (fun _ _ _ h => h) (Or.inl ⟨by rfl, ?_⟩) SB.out ?_
        rotate_left
        · intro w hw
          try dsimp only at hw
          go_simp
          try with_reducible rfl
        try simp only [Act.put, List.setIfInBounds_toArray, List.set_cons_zero, List.set_cons_succ]
        refine takeL (i := 16) (v := ?_) rfl (by kernel_rfl) (by kernel_rfl) (by kernel_rfl) (fun _ _ _ h => h) (Or.inl ⟨by rfl, ?_⟩) SB.out ?_
        rotate_left
        · intro w hw
          try dsimp only at hw
          go_simp
          try with_reducible rfl
        try simp only [Act.put, List.setIfInBounds_toArray, List.set_cons_zero, List.set_cons_succ]
        refine takeL (i := 17) (v := .agg (bv y.key).toArray) rfl (by kernel_rfl) (by kernel_rfl) (by kernel_rfl) (fun _ _ _ h => h) (Or.inl ⟨by rfl, fun wz hwz => exec_load_at wz 57 (.tmp 111) rfl (ra.add (k * 34)) (bv y.key) _ Tryd.underlying57 rfl HKS.out (HKC.out wz hwz) (by go_simp)⟩) SB.out ?_
        try simp only [Act.put, List.setIfInBounds_toArray, List.set_cons_zero, List.set_cons_succ]
        refine takeL (i := 18) (v := .bool false) rfl (by kernel_rfl) (by kernel_rfl) (by kernel_rfl) (fun _ _ _ h => h) (Or.inl ⟨by rfl, fun wz hwz => exec_bin16 wz .neq 57 (.tmp 106) (.tmp 112) (by kernel_rfl) rfl (by go_simp) (by go_simp) (HEQ.out wz)⟩) SB.out ?_
        try simp only [Act.put, List.setIfInBounds_toArray, List.set_cons_zero, List.set_cons_succ]
        refine takeL (i := 19) (v := ?_) rfl (by kernel_rfl) (by kernel_rfl) (by kernel_rfl) (fun _ _ _ h => h) (Or.inl ⟨by rfl, ?_⟩) SB.out ?_
        rotate_left
        · intro w hw
          try dsimp only at hw
          go_simp
          try with_reducible rfl
        try simp only [Act.put, List.setIfInBounds_toArray, List.set_cons_zero, List.set_cons_succ]
        refine wpAnyH_done (by kernel_rfl) ?_ _
        have c5c := H5b.out wd SB.out
        have hb11 := (Below.refl wd.heap.size wd).alloc (Nat.le_refl _) (.cells z.cells.toArray 59)
        have R11 := Lib.hid (Row.new wd 59 z.cells)
        have T11 := Lib.hid (TD.out.below hb11)
        have B11 := Lib.hid (SB.out.trans (hb11.mono SB.out.size))
        clear hb11
        go_wp2_with (first
          | ((with_reducible show wpList _ _ _ ({ dst := some 121, op := Op.load _ _, type := _, pos := _, after := _, guard := _ } :: _) _ _); go_must (refine wpList_load_at rfl 59 (.tmp 120) rfl ((ca.add (m * 66)).add 32) z.cells _ Tryd.underlying59 rfl (size_acc HZO.out.o.1) (HCZ.out wd SB.out) ?_ ?_; go_simp))
          | ((with_reducible show wpList _ _ _ ({ dst := some 122, op := Op.buildSlice _ _ _, type := _, pos := _, after := _, guard := _ } :: _) _ _); go_must (refine wpList_buildOne rfl 49 59 (.tmp 121) rfl z.cells _ 34 48 Tryd.underlying49 info_ac15 (by kernel_rfl) (by omega) (by omega) (acc_len HZO.out.o.1) ?_ ?_; go_simp))
          | ((with_reducible show wpList _ _ _ ({ dst := some 123, op := Op.call _, type := _, pos := _, after := _, guard := _ } :: _) _ _); go_must (refine BigFrame.wpList_want (by kernel_rfl) fun K hK => wp_addB15 (.tmp 115) (.tmp 122) rfl T11.out (by go_simp) (by go_simp) R11.out HZO.out.o.1 (by have h1 := HLT1.out.2; omega) B11.out.size ?_; intro vb12 w12 ht12 hb12; refine hK _ _ ?_)))
        have T12 := Lib.hid ht12
        have B12 := Lib.hid (B11.out.trans hb12)
        clear ht12 hb12
        go_roundw
        case rel => exact ⟨k + 1, by omega, by go_num, by rw [HS2.out]; go_num, by rw [HT1.out, HT2.out]; exact T12.out, B12.out⟩
        case measure => simp [intOf]; omega
    · have hke : k = rn := by omega
      have hlt' : ¬ (k : Int) < rn := by omega
      have HAT : Hid ((chg15 (x.roles.take k) (f.take k)).length = cn) := Lib.hid (by rw [List.take_of_length_le (by rw [HLK.out, hke]; exact Nat.le_refl _), List.take_of_length_le (by rw [HFL.out, hke]; exact Nat.le_refl _), HCN.out, HCH.out])
      rw [HAT.out]
      rw [List.take_of_length_le (by rw [HBL.out, hke]; exact Nat.le_refl _), List.take_of_length_le (by rw [HFL.out, hke]; exact Nat.le_refl _)] at TW
      clear hke HAT o5'
      have c45b : wr.cell? ⟨g2, 45, none⟩ = some (.int .u64 x.fee) := (BW.out.cell (p := ⟨g2, 45, none⟩) X6.out.r2.lt).trans c45
      have hb11 := (Below.refl wr.heap.size wr).alloc (Nat.le_refl _) (.cells (LAcc.mk x.fee key0 0).cells.toArray 59)
      have R11 := Lib.hid (Row.new wr 59 (LAcc.mk x.fee key0 0).cells)
      have T11 := Lib.hid (TW.out.below hb11)
      have B11 := Lib.hid (BW.out.trans (hb11.mono BW.out.size))
      clear hb11
      go_upto_region 24 with (first
        | ((with_reducible show wpList _ _ _ ({ dst := some 129, op := Op.build _ _, type := _, pos := _, after := _, guard := _ } :: _) _ _); go_must (refine wpList_plain rfl fun K hK => wp_built _ _ _ rfl (by simp only [List.map_toArray, List.map_cons, List.map_nil]; exact built_fee15 x.fee) (hK _ _ ?_)))
        | ((with_reducible show wpList _ _ _ ({ dst := some 130, op := Op.buildSlice _ _ _, type := _, pos := _, after := _, guard := _ } :: _) _ _); go_must (refine wpList_buildOne rfl 49 59 (.tmp 129) rfl (LAcc.mk x.fee key0 0).cells _ 34 48 Tryd.underlying49 info_ac15 (by kernel_rfl) (by omega) (by omega) (acc_len (a := (LAcc.mk x.fee key0 0)) rfl) ?_ ?_; go_simp))
        | ((with_reducible show wpList _ _ _ ({ dst := some 131, op := Op.call _, type := _, pos := _, after := _, guard := _ } :: _) _ _); go_must (refine BigFrame.wpList_want (by kernel_rfl) fun K hK => wp_addB15 (y := (LAcc.mk x.fee key0 0)) (.tmp 126) (.tmp 130) rfl T11.out (by go_simp) (by go_simp) R11.out rfl (by have h1 := HFL.out; omega) B11.out.size ?_; intro vb12 w12 ht12 hb12; refine hK _ _ ?_)))
      have T12 := Lib.hid ht12
      have B12 := Lib.hid (B11.out.trans hb12)
      clear ht12 hb12 R11 T11 B11 TW c45b
      obtain ⟨Aa, ca, rfl, _⟩ := T12.out.formA
      obtain ⟨Ab, cb, rfl, _⟩ := T12.out.swap.formA
      obtain ⟨na, hna⟩ : ∃ m, m = (ld15 L x.roles).length := ⟨_, rfl⟩
      obtain ⟨nb, hnb⟩ : ∃ m, m = (f ++ [LAcc.mk x.fee key0 0]).length := ⟨_, rfl⟩
      rw [← hna, ← hnb]
      have HNN : Hid (na ≤ 900 ∧ nb ≤ 900) := Lib.hid (by rw [hna, hnb, HBL.out, List.length_append, HFL.out]; constructor; (omega); (show rn + 1 ≤ 900; omega))
      have o5z : w12.cell? ⟨g9, 5, none⟩ = some (.slice A5 cn cn) := (B12.out.cell (p := ⟨g9, 5, none⟩) R6.out.lt).trans o5
      have HAA : Hid (AccsIn w12 w12.heap.size Aa na (ld15 L x.roles)) := Lib.hid (by rw [hna]; exact accs_own T12.out.a HBO.out rfl)
      have HAB : Hid (AccsIn w12 w12.heap.size Ab nb (f ++ [LAcc.mk x.fee key0 0])) := Lib.hid (by
        rw [hnb]
        exact accs_own T12.out.b (fun a ha => by
          rcases List.mem_append.1 ha with ha | ha
          · exact HRF.out.ok a ha
          · obtain rfl := List.mem_singleton.1 ha
            exact ⟨HOK.out.fee, key0_ok, zero_u64⟩) rfl)
      clear hna hnb
      have XB := Lib.hid (X6.out.b.trans (B12.out.mono X6.out.b.size))
      go_wp2_with fail
      refine (sum15 Aa na ca w12.heap.size (ld15 L x.roles) w12 HAA.out (Nat.le_refl _) HNN.out.1).mono ?_
      rintro e w13 ⟨rfl, hb13⟩
      have HAB2 := Lib.hid (HAB.out.below hb13)
      have HZ13 := Lib.hid hb13.size
      have XB3 := Lib.hid (XB.out.trans (hb13.mono XB.out.size))
      clear hb13 HAB HAA XB T12 B12 o5z
      go_wp2_with fail
      refine (sum15 Ab nb cb w12.heap.size (f ++ [LAcc.mk x.fee key0 0]) w13 HAB2.out HZ13.out HNN.out.2).mono ?_
      rintro e w14 ⟨rfl, hb14⟩
      rw [ran_sum15 HPY.out HRF.out]
      have XB4 := Lib.hid (XB3.out.trans (hb14.mono XB3.out.size))
      clear hb14 HAB2 HZ13 XB3
      go_wp2_with (first
        | ((with_reducible show wpList _ _ _ ({ dst := some 142, op := Op.binOp _ _ _ _ _, type := _, pos := _, after := _, guard := _ } :: _) _ _); go_must (refine BigFrame.wpList_want (by kernel_rfl) fun K hK => wp_val15 (v := .bool true) (exec_bin16 w14 .eql 65 (.tmp 139) (.tmp 141) (by kernel_rfl) rfl (by go_simp) (by go_simp) (two_eql15 (sumA (ld15 L x.roles)) w14)) ?_; refine hK _ _ ?_))
        | fail)
      refine (lives15 _ (HT.out.below XB4.out HT.out.pos)).mono ?_
      rintro e wl ⟨rfl, hbl⟩
      have BL := Lib.hid (XB4.out.trans (hbl.mono XB4.out.size))
      clear hbl
      go_wp2_with fail
      go_ret
      exact ⟨rfl, BL.out⟩
end Go.Proofs.YtfaefpniiiandaaDoor
