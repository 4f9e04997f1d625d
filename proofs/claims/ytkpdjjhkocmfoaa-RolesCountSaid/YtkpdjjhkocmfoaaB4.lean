/-
  Parts joined: Count7.
-/
import Derived.Below
import Derived.Laws.OwnMore
import Derived.Deep.AppendLies
import Derived.Deep.Draws
import Derived.Lib.Hide
import Derived.Laws.MakeOwn
import Derived.Laws.CopyOwn
import Derived.Laws.Rows
import Derived.Laws.BitsAllLaws
import Derived.WalkKit
import Derived.Test.YtkpdjjhkocmfoaaRows
import Derived.WalkSpells
import Derived.WalkLawsBesides
import Derived.IntWalk
import Derived.Maps.AppendAt
import Derived.OwnWalk
import Derived.Deep.MidRow
import Derived.Deep.WholeRow
import Derived.Great.BuildSlice
import Derived.ProofKit
import Derived.OpenShut
import Derived.ShutString
import Derived.ChangeOld
import Derived.Lib.SmallJoins
import Derived.Recover
import Derived.Deep.RegionHeld
import Derived.Deep.QuietTactic
import Derived.BigQuiet
import Derived.Deep.Slices
import Derived.Deep.Strs
import Derived.SizedLaws
import Derived.Maps.OwnSet
import Derived.DeepKeys4
import Derived.WideKeyArr
import Derived.ChangeKeysEq
import Derived.Deep.RegionHeld2
import Derived.Deep.CutBlock
import Derived.Laws.Tables
import Derived.Laws.StructEq
import Derived.Deep.DeepCutAuto
import Derived.Laws.Slices
import Derived.Laws.EntriesVeiled
import Derived.Deep.RegionHeld3
import Derived.WideKeyEntry
import Derived.Shelf.SlMaps.Clone
import Derived.Laws.Append
import Derived.Laws.AppendOwn
import Derived.Test.YtkpdjjhkocmfoaaB1
import Derived.Test.YtkpdjjhkocmfoaaB2
import Derived.Test.YtkpdjjhkocmfoaaB3
/-
  Of part Count7: what is needed here.
-/
namespace Go.Proofs.Ytkpdjjhkocmfoaa
open Go.RowKit
set_option linter.unusedVariables false
theorem header_info : (Try.prog.info? 35).map (·.size) = some 3 := by kernel_rfl
set_option maxRecDepth 100000 in
set_option maxHeartbeats 16000000 in
theorem countWalk (q : Raw) (m : LMsg) (x y : KL7) (B : Nat) (w : World) (hm : MsgIn w B q m) (hw : m.Wf) (hz : Sized m) (hB : B ≤ w.heap.size) (hx : KeysIn w B x.A x.n x.l) (hxo : ∀ k ∈ x.l, KeyOk7 k) (hy : KeysIn w B y.A y.n y.l) (hyo : ∀ k ∈ y.l, KeyOk7 k) :
    Calls Try.prog 4 #[.agg (q.cells m).toArray, x.val, y.val] w fun e w' => e = .returned (.bool true) ∧ Below w.heap.size w w' := by
  have rm := Row.new w 41 (q.cells m)
  have hb1 : Below w.heap.size w (w.alloc (.cells (q.cells m).toArray 41)) := (Below.refl w.heap.size w).alloc (Nat.le_refl _) _
  have HSM := Lib.hid (show (Try.prog.info? 41).map (·.size) = some (q.cells m).length by rw [size_msg, cells_len hm.recent])
  have HGREAT : Hid (∀ V : World, Below w.heap.size w V → Calls Try.prog 18 #[.agg (q.cells m).toArray, x.val, y.val] V fun e w' => (∃ b, e = .returned (.bool b) ∧ (b = false → total m < 3000 ∧ q.kn ≤ 300 ∧ x.n ≤ 300 ∧ y.n ≤ 300)) ∧ Below V.heap.size V w') := Lib.hid fun V hV => great7 q m x.A y.A x.n x.c y.n y.c B V (hm.below (hV.mono hB)) (Nat.le_trans hB hV.size) hz
  have HOF : Hid (∀ (V : World) (x' y' : KL7) (C : Nat), Below w.heap.size w V → w.heap.size ≤ C → C ≤ V.heap.size → q.kn ≤ 300 → x'.In V C → y'.In V C → Calls Try.prog 19 #[.agg (q.cells m).toArray, x'.val, y'.val] V (OfDone V m x'.l y'.l)) := Lib.hid fun V x' y' C hV h1 h2 h3 hx' hy' =>
    of7 q m x' y' C V ((hm.keys.below (hV.mono hB)).more (Nat.le_trans hB h1)) hw.keys hm.recent h2 hw.s hw.r hw.o (by omega) hx' hy'
  have HX : Hid (∀ V : World, Below w.heap.size w V → x.n ≤ 300 → x.In V w.heap.size) := Lib.hid fun V hV h => ⟨(hx.below (hV.mono hB)).more hB, hxo, by omega⟩
  have HY : Hid (∀ V : World, Below w.heap.size w V → y.n ≤ 300 → y.In V w.heap.size) := Lib.hid fun V hV h => ⟨(hy.below (hV.mono hB)).more hB, hyo, by omega⟩
  have HKO := Lib.hid hw.keys
  have HMK := Lib.hid hm.keys.len
  obtain ⟨s0, s1⟩ : 0 ≤ m.s ∧ m.s < 256 := hw.s
  obtain ⟨t0, t1⟩ : 0 ≤ m.r ∧ m.r < 256 := hw.r
  obtain ⟨o0, o1⟩ : 0 ≤ m.o ∧ m.o < 256 := hw.o
  have C1 : Hid ((q.cells m)[1]? = some (.int .u8 m.s)) := Lib.hid rfl
  have C2 : Hid ((q.cells m)[2]? = some (.int .u8 m.r)) := Lib.hid rfl
  have C3 : Hid ((q.cells m)[3]? = some (.int .u8 m.o)) := Lib.hid rfl
  have C4 : Hid ((q.cells m)[4]? = some (.slice q.KA q.kn q.kc)) := Lib.hid rfl
  have HSIGN := Lib.hid (fun wl rl => cnt_sign (m := m) (wl := wl) (rl := rl) HMK.out s0 t0 o0)
  have HWRITE := Lib.hid (fun wl rl => cnt_write (m := m) (wl := wl) (rl := rl) HMK.out s0 t0 o0)
  have HCLASS := Lib.hid (fun wl rl i r (h : (rolesL m wl rl)[i]? = some r) => classes h HMK.out t0 o0)
  generalize q.cells m = MC at *
  obtain ⟨KA, n, kc, IA, ni, ic, LA, ln, lc⟩ := q
  obtain ⟨xA, xn, xc, xl⟩ := x
  obtain ⟨yA, yn, yc, yl⟩ := y
  dsimp only [KL7.val] at *
  have HXL := Lib.hid hx.len
  have HYL := Lib.hid hy.len
  have HXO := Lib.hid hxo
  have HYO := Lib.hid hyo
  have HB1 := Lib.hid hb1
  have R1 := Lib.hid rm
  clear hm hw hz hx hy hxo hyo rm hb1
  generalize hWW : w.alloc (.cells MC.toArray 41) = W at *
  have HWW := Lib.hid hWW
  clear hWW
  go_enter Try.func4, Try.ntmps4
  go_upto_region 1 with fail
  rw [HWW.out]
  go_wp2_with ((with_reducible show wpList _ _ _ ({ dst := some 17, op := Op.load _ _, type := _, pos := _, after := _, guard := _ } :: _) _ _); go_must (refine wpList_load_whole rfl 41 (.tmp 3) rfl w.heap.size 41 MC _ Try.underlying41 rfl HSM.out R1.out ?_ ?_; go_simp))
  refine (HGREAT.out W HB1.out).mono ?_
  rintro e w1 ⟨⟨b, rfl, hgr⟩, hb1⟩
  have HB2 := Lib.hid (HB1.out.trans (hb1.mono HB1.out.size))
  have R2 := Lib.hid (R1.out.below hb1 R1.out.lt)
  clear hb1 HWW R1 HB1 HGREAT
  cases b with
  | true =>
    clear hgr
    go_wp2_with fail
    refine (lives7 _).mono ?_
    rintro e w9 ⟨rfl, hb9⟩
    have B9 := Lib.hid (HB2.out.trans (hb9.mono HB2.out.size))
    clear hb9
    go_wp2_with fail
    go_ret
    exact ⟨rfl, B9.out⟩
  | false =>
  obtain ⟨g1, g2, g3, g4⟩ := hgr rfl
  clear hgr
  go_wp2_with ((with_reducible show wpList _ _ _ ({ dst := some 23, op := Op.load _ _, type := _, pos := _, after := _, guard := _ } :: _) _ _); go_must (refine wpList_load_whole rfl 41 (.tmp 3) rfl w.heap.size 41 MC _ Try.underlying41 rfl HSM.out R2.out ?_ ?_; go_simp))
  refine (HOF.out w1 ⟨xA, xn, xc, xl⟩ ⟨yA, yn, yc, yl⟩ w.heap.size HB2.out (Nat.le_refl _) HB2.out.size g2 (HX.out w1 HB2.out g3) (HY.out w1 HB2.out g4)).mono ?_
  rintro e w2 ⟨hb2, hd⟩
  have B2 := Lib.hid (HB2.out.trans (hb2.mono HB2.out.size))
  have RM2 := Lib.hid (R2.out.below hb2 R2.out.lt)
  have HLM := Lib.hid RM2.out.lt
  have c1 := (RM2.out.cell 1).trans C1.out
  have c2 := (RM2.out.cell 2).trans C2.out
  have c3 := (RM2.out.cell 3).trans C3.out
  have c4 := (RM2.out.cell 4).trans C4.out
  have ws : IntKind.i64.wrap m.s = m.s := IntWalk.i64_in _ (by omega)
  have wr_ : IntKind.i64.wrap m.r = m.r := IntWalk.i64_in _ (by omega)
  have wo : IntKind.i64.wrap m.o = m.o := IntWalk.i64_in _ (by omega)
  clear hb2 HB2 R2 HOF HX HY
  by_cases hnd : (m.keys ++ (xl ++ yl)).Nodup
  rotate_left
  · rw [if_neg hnd] at hd
    subst hd
    go_wp2_with ((with_reducible show wpList _ _ _ ({ dst := none, op := Op.store 35 _ _, type := _, pos := _, after := _, guard := _ } :: _) _ _); go_must (refine wpList_store_new rfl 35 (.tmp 10) (.tmp 33) rfl [.int .u8 m.s, .int .u8 m.r, .int .u8 m.o] header_info (by intro u hu; simp at hu; rcases hu with rfl | rfl | rfl <;> rfl) (by rfl) ?_ ?_ ?_; go_simp; go_simp; intro w3 hr3 hb3 hz3; have R3 := Lib.hid hr3; have HB3 := Lib.hid hb3; clear hr3 hb3 hz3; have q0 := R3.out.cell 0; have q1 := R3.out.cell 1; have q2 := R3.out.cell 2; have B3 := Lib.hid (B2.out.trans (HB3.out.mono B2.out.size))))
    refine (lives7 _).mono ?_
    rintro e w9 ⟨rfl, hb9⟩
    have B9 := Lib.hid (B3.out.trans (hb9.mono B3.out.size))
    clear hb9
    go_wp2_with fail
    go_ret
    exact ⟨rfl, B9.out⟩
  rw [if_pos hnd] at hd
  obtain ⟨A, c, rfl, ho⟩ := hd
  have HLR := Lib.hid (roles_own ho rfl (rolesL_ok HKO.out HXO.out HYO.out))
  have hN : (rolesL m xl yl).length = n + xn + yn := by rw [rolesL_len, HMK.out, HXL.out, HYL.out]
  rw [hN] at HLR ⊢
  have HLN := Lib.hid hN
  have hln : n + xn + yn ≤ 900 := by omega
  have HCN := Lib.hid (show xl.length = xn from HXL.out)
  have HSIGN2 := Lib.hid (HSIGN.out xl yl)
  have HWRITE2 := Lib.hid (HWRITE.out xl yl)
  have HCLASS2 := Lib.hid (HCLASS.out xl yl)
  clear ho hN hnd HSIGN HWRITE HCLASS HKO HXO HYO HMK HYL HXL
  rw [HCN.out] at HWRITE2 HCLASS2
  clear HCN
  generalize rolesL m xl yl = L at *
  generalize m.s = s at *
  generalize m.r = r at *
  generalize m.o = o at *
  by_cases hb1 : (n : Int) < s + o
  · go_wp2_with ((with_reducible show wpList _ _ _ ({ dst := none, op := Op.store 35 _ _, type := _, pos := _, after := _, guard := _ } :: _) _ _); go_must (refine wpList_store_new rfl 35 (.tmp 10) (.tmp 33) rfl [.int .u8 s, .int .u8 r, .int .u8 o] header_info (by intro u hu; simp at hu; rcases hu with rfl | rfl | rfl <;> rfl) (by rfl) ?_ ?_ ?_; go_simp; go_simp; intro w3 hr3 hb3 hz3; have R3 := Lib.hid hr3; have HB3 := Lib.hid hb3; clear hr3 hb3 hz3; have q0 := R3.out.cell 0; have q1 := R3.out.cell 1; have q2 := R3.out.cell 2; have B3 := Lib.hid (B2.out.trans (HB3.out.mono B2.out.size))))
    refine (lives7 _).mono ?_
    rintro e w9 ⟨rfl, hb9⟩
    have B9 := Lib.hid (B3.out.trans (hb9.mono B3.out.size))
    clear hb9
    go_wp2_with fail
    go_ret
    exact ⟨rfl, B9.out⟩
  have hb1f : decide ((n : Int) < s + o) = false := decide_eq_false hb1
  by_cases hb2 : s < r
  · go_wp2_with ((with_reducible show wpList _ _ _ ({ dst := none, op := Op.store 35 _ _, type := _, pos := _, after := _, guard := _ } :: _) _ _); go_must (refine wpList_store_new rfl 35 (.tmp 10) (.tmp 33) rfl [.int .u8 s, .int .u8 r, .int .u8 o] header_info (by intro u hu; simp at hu; rcases hu with rfl | rfl | rfl <;> rfl) (by rfl) ?_ ?_ ?_; go_simp; go_simp; intro w3 hr3 hb3 hz3; have R3 := Lib.hid hr3; have HB3 := Lib.hid hb3; clear hr3 hb3 hz3; have q0 := R3.out.cell 0; have q1 := R3.out.cell 1; have q2 := R3.out.cell 2; have B3 := Lib.hid (B2.out.trans (HB3.out.mono B2.out.size))))
    refine (lives7 _).mono ?_
    rintro e w9 ⟨rfl, hb9⟩
    have B9 := Lib.hid (B3.out.trans (hb9.mono B3.out.size))
    clear hb9
    go_wp2_with fail
    go_ret
    exact ⟨rfl, B9.out⟩
  have hb2f : decide (s < r) = false := decide_eq_false hb2
  have h1 : s + o ≤ n := by omega
  have h2 : r ≤ s := by omega
  go_upto_region 6 with ((with_reducible show wpList _ _ _ ({ dst := none, op := Op.store 35 _ _, type := _, pos := _, after := _, guard := _ } :: _) _ _); go_must (refine wpList_store_new rfl 35 (.tmp 10) (.tmp 33) rfl [.int .u8 s, .int .u8 r, .int .u8 o] header_info (by intro u hu; simp at hu; rcases hu with rfl | rfl | rfl <;> rfl) (by rfl) ?_ ?_ ?_; go_simp; go_simp; intro w3 hr3 hb3 hz3; have R3 := Lib.hid hr3; have HB3 := Lib.hid hb3; clear hr3 hb3 hz3; have q0 := R3.out.cell 0; have q1 := R3.out.cell 1; have q2 := R3.out.cell 2; have B3 := Lib.hid (B2.out.trans (HB3.out.mono B2.out.size))))
  have B4 := Lib.hid (B2.out.trans (HB3.out.mono B2.out.size))
  have HL4 := Lib.hid (HLR.out.below HB3.out)
  have HGH := Lib.hid R3.out.lt
  have e0 : w3.cell? ⟨w2.heap.size, 0, none⟩ = some (.int .u8 s) := R3.out.cell 0
  have e1 : w3.cell? ⟨w2.heap.size, 1, none⟩ = some (.int .u8 r) := R3.out.cell 1
  have e2 : w3.cell? ⟨w2.heap.size, 2, none⟩ = some (.int .u8 o) := R3.out.cell 2
  have E0 := Lib.hid e0
  have E1 := Lib.hid e1
  have E2 := Lib.hid e2
  have HSG := Lib.hid HLR.out.ok
  have HW3 := Lib.hid (show w2.heap.size ≤ w3.heap.size from HB3.out.size)
  clear B2 RM2 HB3 R3 HLR c1 c2 c3 c4 C1 C2 C3 C4
  go_wp2_with fail
  generalize w2.heap.size = gh at *
  clear e0 e1 e2
  go_loopw [14, 11, 12, 13] (fun i sg wt kw wr => ∃ k : Nat, k ≤ n + xn + yn ∧ i = .int .i64 k ∧ sg = .int .i64 (cnt (fS L) k : Nat) ∧ wt = .int .i64 (cnt (fW L) k : Nat) ∧ kw = .int .i64 (cnt (fK L (rdB s r o n xn)) k : Nat) ∧ Below w3.heap.size w3 wr) (fun i _ _ _ _ => (n + xn + yn) - (intOf i).toNat)
  case atStart => exact ⟨0, Nat.zero_le _, rfl, rfl, rfl, rfl, Below.refl _ _⟩
  case round =>
  obtain ⟨k, hk, rfl, rfl, rfl, rfl, hb⟩ := hrel
  have HB := Lib.hid hb
  clear hb
  have HQS : Hid (cnt (fS L) (k + 1) = cnt (fS L) k + if fS L k = true then 1 else 0) := Lib.hid rfl
  have HQW : Hid (cnt (fW L) (k + 1) = cnt (fW L) k + if fW L k = true then 1 else 0) := Lib.hid rfl
  have HQK : Hid (cnt (fK L (rdB s r o n xn)) (k + 1) = cnt (fK L (rdB s r o n xn)) k + if fK L (rdB s r o n xn) k = true then 1 else 0) := Lib.hid rfl
  have l1 := cnt_le (fS L) k
  have l2 := cnt_le (fW L) k
  have l3 := cnt_le (fK L (rdB s r o n xn)) k
  have HCS := Lib.hid (HSIGN2.out h1 h2 k (by rw [HLN.out]; exact hk))
  have HCW := Lib.hid (HWRITE2.out h1 h2 k (by rw [HLN.out]; exact hk))
  have HCV := Lib.hid (cnt_written L k (by rw [HLN.out]; exact hk))
  generalize cnt (fS L) k = cs at *
  generalize cnt (fW L) k = cw at *
  generalize cnt (fK L (rdB s r o n xn)) k = ck at *
  have e0 := (HB.out.cell (p := ⟨gh, 0, none⟩) HGH.out).trans E0.out
  have e1 := (HB.out.cell (p := ⟨gh, 1, none⟩) HGH.out).trans E1.out
  have e2 := (HB.out.cell (p := ⟨gh, 2, none⟩) HGH.out).trans E2.out
  by_cases hlt : k < n + xn + yn
  · obtain ⟨a, ro, rfl, hab, hr, hro, hcr⟩ := ((HL4.out.more HW3.out).below HB.out).get hlt
    have HCL := Lib.hid (HCLASS2.out k ro hr h1 h2)
    have HKC : Hid (∀ j u, (bv ro.key)[j]? = some u → wr.cell? ((a.add (k * 34)).add j) = some u) := Lib.hid fun j u hu => hcr j u (role_key hu)
    have d32 : wr.cell? ⟨(a.add (k * 34)).block, (a.add (k * 34)).off + 32, none⟩ = some (.bool ro.sg) := hcr 32 _ (role_sg hro.1)
    have d33 : wr.cell? ⟨(a.add (k * 34)).block, (a.add (k * 34)).off + 33, none⟩ = some (.bool ro.wr) := hcr 33 _ (role_wr hro.1)
    have HSZ := Lib.hid (show (Try.prog.info? 46).map (·.size) = some (bv ro.key).length by rw [bv_length, hro.1]; exact size_key)
    have N0 := fun w => key_eql hro.1 k0_len w
    have N3 := fun w => key_eql hro.1 k3_len w
    have HF1 : Hid (fS L k = ro.sg) := Lib.hid (by unfold fS; rw [hr]; rfl)
    have HF2 : Hid (fW L k = ro.wr) := Lib.hid (by unfold fW; rw [hr]; rfl)
    have HF3 : Hid (fK L (rdB s r o n xn) k = (kn ro.key && !rdB s r o n xn k)) := Lib.hid (by unfold fK; rw [hr]; rfl)
    have HKN : Hid (kn ro.key = (decide (ro.key = k0) || decide (ro.key = k3))) := Lib.hid rfl
    have HAB := Lib.hid (show (a.add (k * 34)).block < wr.heap.size by rw [addr_block]; exact Nat.lt_of_lt_of_le hab HB.out.size)
    have HD33 := Lib.hid d33
    have hgw : gh < wr.heap.size := Nat.lt_of_lt_of_le HGH.out HB.out.size
    clear hr hro hcr
    generalize bv ro.key = X at *
    generalize hkk : ro.key = kk at *
    generalize hsg : ro.sg = sgb at *
    generalize hwr : ro.wr = wrb at *
    clear hkk hsg hwr
    rcases HCL.out with ⟨a1, hs, hv⟩ | ⟨a1, a2, hs, hv⟩ | ⟨a1, a2, hs, hv⟩ | ⟨a1, a2, a3, hs, hv⟩ | ⟨a1, a2, hs, hv⟩ | ⟨a1, hs, hv⟩
    · subst hs
      have HRD : Hid (rdB s r o n xn k = false) := Lib.hid (by simp only [rdB, Bool.or_eq_false_iff, Bool.and_eq_false_iff, decide_eq_false_iff_not]; omega)
      have q1 : (k : Int) < s := by omega
      have q2 : decide (s - r ≤ (k : Int)) = false := decide_eq_false (by omega)
      have q3 : (k : Int) < n := by omega
      have q4 : decide ((n : Int) - o ≤ (k : Int)) = false := decide_eq_false (by omega)
      have q5 : decide ((n : Int) + (xn : Int) ≤ (k : Int)) = false := decide_eq_false (by omega)
      by_cases hk0 : kk = k0
      · have HKV : Hid (kn kk = true) := Lib.hid (by rw [HKN.out, decide_eq_true hk0, Bool.true_or])
        rw [HKV.out] at hv
        simp only [Bool.not_true, Bool.not_false] at hv
        subst hv
        rw [decide_eq_true hk0] at N0
        clear hk0 N3
        go_wp2_with fail
        clear d32 d33 e0 e1 e2
        refine wp_region_held_drew (S := (fun V => ∀ j u, X[j]? = some u → V.cell? ((a.add (k * 34)).add j) = some u)) (by kernel_rfl) HKC.out (fun _ => ?_)
        have HS := Lib.hid (show ∀ j u, X[j]? = some u → wr.drew.cell? ((a.add (k * 34)).add j) = some u from HKC.out)
        have BD := Lib.hid (Below.refl wr.heap.size wr).drew
        refine takeL (i := 0) (v := ?_) rfl (by kernel_rfl) (by kernel_rfl) (by kernel_rfl) (fun _ _ _ h => h) (Or.inl ⟨by rfl, ?_⟩) HS.out ?_
        rotate_left
        · intro w hw
          try dsimp only at hw
          go_simp
          try with_reducible rfl
        try simp only [Act.put, List.setIfInBounds_toArray, List.set_cons_zero, List.set_cons_succ]
        refine takeL (i := 1) (v := ?_) rfl (by kernel_rfl) (by kernel_rfl) (by kernel_rfl) (fun _ _ _ h => h) (Or.inl ⟨by rfl, ?_⟩) HS.out ?_
        rotate_left
        · intro w hw
          try dsimp only at hw
          go_simp
          try with_reducible rfl
        try simp only [Act.put, List.setIfInBounds_toArray, List.set_cons_zero, List.set_cons_succ]
        refine takeL (i := 2) (v := ?_) rfl (by kernel_rfl) (by kernel_rfl) (by kernel_rfl) (fun _ _ _ h => h) (Or.inl ⟨by rfl, ?_⟩) HS.out ?_
        rotate_left
        · intro w hw
          try dsimp only at hw
          go_simp
          try with_reducible rfl
        try simp only [Act.put, List.setIfInBounds_toArray, List.set_cons_zero, List.set_cons_succ]
        refine takeL (i := 3) (v := ?_) rfl (by kernel_rfl) (by kernel_rfl) (by kernel_rfl) (fun _ _ _ h => h) (Or.inl ⟨by rfl, ?_⟩) HS.out ?_
        rotate_left
        · intro w hw
          try dsimp only at hw
          go_simp
          try with_reducible rfl
        try simp only [Act.put, List.setIfInBounds_toArray, List.set_cons_zero, List.set_cons_succ]
        refine takeL (i := 4) (v := .agg X.toArray) rfl (by kernel_rfl) (by kernel_rfl) (by kernel_rfl) (fun _ _ _ h => h) (Or.inl ⟨by rfl, fun wz hwz => exec_load_at wz 46 (.tmp 78) rfl (a.add (k * 34)) X _ Try.underlying46 rfl HSZ.out hwz (by go_simp)⟩) HS.out ?_
        try simp only [Act.put, List.setIfInBounds_toArray, List.set_cons_zero, List.set_cons_succ]
        refine readyL (i := 5) rfl (by kernel_rfl) (by kernel_rfl) fun K hK => ?_
        go_simp
        refine (system_ _).mono ?_
        rintro e w5 ⟨rfl, hb5⟩
        have B5 := Lib.hid (BD.out.trans hb5)
        have HS5 : Hid (∀ j u, X[j]? = some u → w5.cell? ((a.add (k * 34)).add j) = some u) := Lib.hid fun j u hu => (B5.out.cell (by rw [addr_block]; exact HAB.out)).trans (HKC.out j u hu)
        clear hb5
        refine hK.out _ _ HS5.out ?_
        clear hK K
        try simp only [Act.put, List.setIfInBounds_toArray, List.set_cons_zero, List.set_cons_succ]
        refine takeL (i := 6) (v := ?_) rfl (by kernel_rfl) (by kernel_rfl) (by kernel_rfl) (fun _ _ _ h => h) (Or.inl ⟨by rfl, ?_⟩) HS5.out ?_
        rotate_left
        · intro w hw
          try dsimp only at hw
          go_simp
          try with_reducible rfl
        try simp only [Act.put, List.setIfInBounds_toArray, List.set_cons_zero, List.set_cons_succ]
        refine takeL (i := 7) (v := ?_) rfl (by kernel_rfl) (by kernel_rfl) (by kernel_rfl) (fun _ _ _ h => h) (Or.inl ⟨by rfl, ?_⟩) HS5.out ?_
        rotate_left
        · intro w hw
          try dsimp only at hw
          go_simp
          try with_reducible rfl
        try simp only [Act.put, List.setIfInBounds_toArray, List.set_cons_zero, List.set_cons_succ]
        refine takeL (i := 8) (v := undef) rfl (by kernel_rfl) (by kernel_rfl) (by kernel_rfl) (fun _ _ _ h => h) (Or.inr ⟨by rfl, rfl⟩) HS5.out ?_
        try simp only [Act.put, List.setIfInBounds_toArray, List.set_cons_zero, List.set_cons_succ]
        refine takeL (i := 9) (v := undef) rfl (by kernel_rfl) (by kernel_rfl) (by kernel_rfl) (fun _ _ _ h => h) (Or.inr ⟨by rfl, rfl⟩) HS5.out ?_
        try simp only [Act.put, List.setIfInBounds_toArray, List.set_cons_zero, List.set_cons_succ]
        refine takeL (i := 10) (v := undef) rfl (by kernel_rfl) (by kernel_rfl) (by kernel_rfl) (fun _ _ _ h => h) (Or.inr ⟨by rfl, rfl⟩) HS5.out ?_
        try simp only [Act.put, List.setIfInBounds_toArray, List.set_cons_zero, List.set_cons_succ]
        refine takeL (i := 11) (v := undef) rfl (by kernel_rfl) (by kernel_rfl) (by kernel_rfl) (fun _ _ _ h => h) (Or.inr ⟨by rfl, rfl⟩) HS5.out ?_
        try simp only [Act.put, List.setIfInBounds_toArray, List.set_cons_zero, List.set_cons_succ]
        refine takeL (i := 12) (v := undef) rfl (by kernel_rfl) (by kernel_rfl) (by kernel_rfl) (fun _ _ _ h => h) (Or.inr ⟨by rfl, rfl⟩) HS5.out ?_
        try simp only [Act.put, List.setIfInBounds_toArray, List.set_cons_zero, List.set_cons_succ]
        refine takeL (i := 13) (v := undef) rfl (by kernel_rfl) (by kernel_rfl) (by kernel_rfl) (fun _ _ _ h => h) (Or.inr ⟨by rfl, rfl⟩) HS5.out ?_
        try simp only [Act.put, List.setIfInBounds_toArray, List.set_cons_zero, List.set_cons_succ]
        refine takeL (i := 14) (v := undef) rfl (by kernel_rfl) (by kernel_rfl) (by kernel_rfl) (fun _ _ _ h => h) (Or.inr ⟨by rfl, rfl⟩) HS5.out ?_
        try simp only [Act.put, List.setIfInBounds_toArray, List.set_cons_zero, List.set_cons_succ]
        refine takeL (i := 15) (v := ?_) rfl (by kernel_rfl) (by kernel_rfl) (by kernel_rfl) (fun _ _ _ h => h) (Or.inl ⟨by rfl, ?_⟩) HS5.out ?_
        rotate_left
        · intro w hw
          try dsimp only at hw
          go_simp
          try with_reducible rfl
        try simp only [Act.put, List.setIfInBounds_toArray, List.set_cons_zero, List.set_cons_succ]
        refine takeL (i := 16) (v := ?_) rfl (by kernel_rfl) (by kernel_rfl) (by kernel_rfl) (fun _ _ _ h => h) (Or.inl ⟨by rfl, ?_⟩) HS5.out ?_
        rotate_left
        · intro w hw
          try dsimp only at hw
          go_simp
          try with_reducible rfl
        try simp only [Act.put, List.setIfInBounds_toArray, List.set_cons_zero, List.set_cons_succ]
        refine wpAnyH_done (by kernel_rfl) ?_ _
        have d33 := (B5.out.cell (p := ⟨(a.add (k * 34)).block, (a.add (k * 34)).off + 33, none⟩) HAB.out).trans HD33.out
        have e0 := (B5.out.cell (p := ⟨gh, 0, none⟩) hgw).trans ((HB.out.cell (p := ⟨gh, 0, none⟩) HGH.out).trans E0.out)
        have e1 := (B5.out.cell (p := ⟨gh, 1, none⟩) hgw).trans ((HB.out.cell (p := ⟨gh, 1, none⟩) HGH.out).trans E1.out)
        have e2 := (B5.out.cell (p := ⟨gh, 2, none⟩) hgw).trans ((HB.out.cell (p := ⟨gh, 2, none⟩) HGH.out).trans E2.out)
        go_wp2_with fail
        go_roundw
        case rel =>
          refine ⟨k + 1, by omega, by go_num, ?_, ?_, ?_, HB.out.trans (B5.out.mono HB.out.size)⟩
          · rw [HQS.out, HF1.out]; go_num
          · rw [HQW.out, HF2.out]; go_num
          · rw [HQK.out, HF3.out, HKV.out, HRD.out]; go_num
        case measure => simp [intOf]; omega
      by_cases hk3 : kk = k3
      · have HKV : Hid (kn kk = true) := Lib.hid (by rw [HKN.out, decide_eq_true hk3, Bool.or_true])
        rw [HKV.out] at hv
        simp only [Bool.not_true, Bool.not_false] at hv
        subst hv
        rw [decide_eq_false hk0] at N0
        rw [decide_eq_true hk3] at N3
        clear hk0 hk3
        go_wp2_with fail
        clear d32 d33 e0 e1 e2
        refine wp_region_held_drew (S := (fun V => ∀ j u, X[j]? = some u → V.cell? ((a.add (k * 34)).add j) = some u)) (by kernel_rfl) HKC.out (fun _ => ?_)
        have HS := Lib.hid (show ∀ j u, X[j]? = some u → wr.drew.cell? ((a.add (k * 34)).add j) = some u from HKC.out)
        have BD := Lib.hid (Below.refl wr.heap.size wr).drew
        refine takeL (i := 0) (v := ?_) rfl (by kernel_rfl) (by kernel_rfl) (by kernel_rfl) (fun _ _ _ h => h) (Or.inl ⟨by rfl, ?_⟩) HS.out ?_
        rotate_left
        · intro w hw
          try dsimp only at hw
          go_simp
          try with_reducible rfl
        try simp only [Act.put, List.setIfInBounds_toArray, List.set_cons_zero, List.set_cons_succ]
        refine takeL (i := 1) (v := ?_) rfl (by kernel_rfl) (by kernel_rfl) (by kernel_rfl) (fun _ _ _ h => h) (Or.inl ⟨by rfl, ?_⟩) HS.out ?_
        rotate_left
        · intro w hw
          try dsimp only at hw
          go_simp
          try with_reducible rfl
        try simp only [Act.put, List.setIfInBounds_toArray, List.set_cons_zero, List.set_cons_succ]
        refine takeL (i := 2) (v := ?_) rfl (by kernel_rfl) (by kernel_rfl) (by kernel_rfl) (fun _ _ _ h => h) (Or.inl ⟨by rfl, ?_⟩) HS.out ?_
        rotate_left
        · intro w hw
          try dsimp only at hw
          go_simp
          try with_reducible rfl
        try simp only [Act.put, List.setIfInBounds_toArray, List.set_cons_zero, List.set_cons_succ]
        refine takeL (i := 3) (v := ?_) rfl (by kernel_rfl) (by kernel_rfl) (by kernel_rfl) (fun _ _ _ h => h) (Or.inl ⟨by rfl, ?_⟩) HS.out ?_
        rotate_left
        · intro w hw
          try dsimp only at hw
          go_simp
          try with_reducible rfl
        try simp only [Act.put, List.setIfInBounds_toArray, List.set_cons_zero, List.set_cons_succ]
        refine takeL (i := 4) (v := .agg X.toArray) rfl (by kernel_rfl) (by kernel_rfl) (by kernel_rfl) (fun _ _ _ h => h) (Or.inl ⟨by rfl, fun wz hwz => exec_load_at wz 46 (.tmp 78) rfl (a.add (k * 34)) X _ Try.underlying46 rfl HSZ.out hwz (by go_simp)⟩) HS.out ?_
        try simp only [Act.put, List.setIfInBounds_toArray, List.set_cons_zero, List.set_cons_succ]
        refine readyL (i := 5) rfl (by kernel_rfl) (by kernel_rfl) fun K hK => ?_
        go_simp
        refine (system_ _).mono ?_
        rintro e w5 ⟨rfl, hb5⟩
        have B5 := Lib.hid (BD.out.trans hb5)
        have HS5 : Hid (∀ j u, X[j]? = some u → w5.cell? ((a.add (k * 34)).add j) = some u) := Lib.hid fun j u hu => (B5.out.cell (by rw [addr_block]; exact HAB.out)).trans (HKC.out j u hu)
        clear hb5
        refine hK.out _ _ HS5.out ?_
        clear hK K
        try simp only [Act.put, List.setIfInBounds_toArray, List.set_cons_zero, List.set_cons_succ]
        refine takeL (i := 6) (v := ?_) rfl (by kernel_rfl) (by kernel_rfl) (by kernel_rfl) (fun _ _ _ h => h) (Or.inl ⟨by rfl, ?_⟩) HS5.out ?_
        rotate_left
        · intro w hw
          try dsimp only at hw
          go_simp
          try with_reducible rfl
        try simp only [Act.put, List.setIfInBounds_toArray, List.set_cons_zero, List.set_cons_succ]
        refine takeL (i := 7) (v := ?_) rfl (by kernel_rfl) (by kernel_rfl) (by kernel_rfl) (fun _ _ _ h => h) (Or.inl ⟨by rfl, ?_⟩) HS5.out ?_
        rotate_left
        · intro w hw
          try dsimp only at hw
          go_simp
          try with_reducible rfl
        try simp only [Act.put, List.setIfInBounds_toArray, List.set_cons_zero, List.set_cons_succ]
        refine takeL (i := 8) (v := ?_) rfl (by kernel_rfl) (by kernel_rfl) (by kernel_rfl) (fun _ _ _ h => h) (Or.inl ⟨by rfl, ?_⟩) HS5.out ?_
        rotate_left
        · intro w hw
          try dsimp only at hw
          go_simp
          try with_reducible rfl
        try simp only [Act.put, List.setIfInBounds_toArray, List.set_cons_zero, List.set_cons_succ]
        refine takeL (i := 9) (v := ?_) rfl (by kernel_rfl) (by kernel_rfl) (by kernel_rfl) (fun _ _ _ h => h) (Or.inl ⟨by rfl, ?_⟩) HS5.out ?_
        rotate_left
        · intro w hw
          try dsimp only at hw
          go_simp
          try with_reducible rfl
        try simp only [Act.put, List.setIfInBounds_toArray, List.set_cons_zero, List.set_cons_succ]
        refine takeL (i := 10) (v := ?_) rfl (by kernel_rfl) (by kernel_rfl) (by kernel_rfl) (fun _ _ _ h => h) (Or.inl ⟨by rfl, ?_⟩) HS5.out ?_
        rotate_left
        · intro w hw
          try dsimp only at hw
          go_simp
          try with_reducible rfl
        try simp only [Act.put, List.setIfInBounds_toArray, List.set_cons_zero, List.set_cons_succ]
        refine takeL (i := 11) (v := ?_) rfl (by kernel_rfl) (by kernel_rfl) (by kernel_rfl) (fun _ _ _ h => h) (Or.inl ⟨by rfl, ?_⟩) HS5.out ?_
        rotate_left
        · intro w hw
          try dsimp only at hw
          go_simp
          try with_reducible rfl
        try simp only [Act.put, List.setIfInBounds_toArray, List.set_cons_zero, List.set_cons_succ]
        refine takeL (i := 12) (v := .agg X.toArray) rfl (by kernel_rfl) (by kernel_rfl) (by kernel_rfl) (fun _ _ _ h => h) (Or.inl ⟨by rfl, fun wz hwz => exec_load_at wz 46 (.tmp 86) rfl (a.add (k * 34)) X _ Try.underlying46 rfl HSZ.out hwz (by go_simp)⟩) HS5.out ?_
        try simp only [Act.put, List.setIfInBounds_toArray, List.set_cons_zero, List.set_cons_succ]
        refine readyL (i := 13) rfl (by kernel_rfl) (by kernel_rfl) fun K hK => ?_
        go_simp
        refine (budget_ _).mono ?_
        rintro e w6 ⟨rfl, hb6⟩
        have B6 := Lib.hid (B5.out.trans (hb6.mono B5.out.size))
        have HS6 : Hid (∀ j u, X[j]? = some u → w6.cell? ((a.add (k * 34)).add j) = some u) := Lib.hid fun j u hu => (B6.out.cell (by rw [addr_block]; exact HAB.out)).trans (HKC.out j u hu)
        clear hb6
        refine hK.out _ _ HS6.out ?_
        clear hK K
        try simp only [Act.put, List.setIfInBounds_toArray, List.set_cons_zero, List.set_cons_succ]
        refine takeL (i := 14) (v := ?_) rfl (by kernel_rfl) (by kernel_rfl) (by kernel_rfl) (fun _ _ _ h => h) (Or.inl ⟨by rfl, ?_⟩) HS6.out ?_
        rotate_left
        · intro w hw
          try dsimp only at hw
          go_simp
          try with_reducible rfl
        try simp only [Act.put, List.setIfInBounds_toArray, List.set_cons_zero, List.set_cons_succ]
        refine takeL (i := 15) (v := ?_) rfl (by kernel_rfl) (by kernel_rfl) (by kernel_rfl) (fun _ _ _ h => h) (Or.inl ⟨by rfl, ?_⟩) HS6.out ?_
        rotate_left
        · intro w hw
          try dsimp only at hw
          go_simp
          try with_reducible rfl
        try simp only [Act.put, List.setIfInBounds_toArray, List.set_cons_zero, List.set_cons_succ]
        refine takeL (i := 16) (v := ?_) rfl (by kernel_rfl) (by kernel_rfl) (by kernel_rfl) (fun _ _ _ h => h) (Or.inl ⟨by rfl, ?_⟩) HS6.out ?_
        rotate_left
        · intro w hw
          try dsimp only at hw
          go_simp
          try with_reducible rfl
        try simp only [Act.put, List.setIfInBounds_toArray, List.set_cons_zero, List.set_cons_succ]
        refine wpAnyH_done (by kernel_rfl) ?_ _
        have d33 := (B6.out.cell (p := ⟨(a.add (k * 34)).block, (a.add (k * 34)).off + 33, none⟩) HAB.out).trans HD33.out
        have e0 := (B6.out.cell (p := ⟨gh, 0, none⟩) hgw).trans ((HB.out.cell (p := ⟨gh, 0, none⟩) HGH.out).trans E0.out)
        have e1 := (B6.out.cell (p := ⟨gh, 1, none⟩) hgw).trans ((HB.out.cell (p := ⟨gh, 1, none⟩) HGH.out).trans E1.out)
        have e2 := (B6.out.cell (p := ⟨gh, 2, none⟩) hgw).trans ((HB.out.cell (p := ⟨gh, 2, none⟩) HGH.out).trans E2.out)
        go_wp2_with fail
        go_roundw
        case rel =>
          refine ⟨k + 1, by omega, by go_num, ?_, ?_, ?_, HB.out.trans (B6.out.mono HB.out.size)⟩
          · rw [HQS.out, HF1.out]; go_num
          · rw [HQW.out, HF2.out]; go_num
          · rw [HQK.out, HF3.out, HKV.out, HRD.out]; go_num
        case measure => simp [intOf]; omega
      · have HKV : Hid (kn kk = false) := Lib.hid (by rw [HKN.out, decide_eq_false hk0, decide_eq_false hk3, Bool.or_false])
        rw [HKV.out] at hv
        simp only [Bool.not_true, Bool.not_false] at hv
        subst hv
        rw [decide_eq_false hk0] at N0
        rw [decide_eq_false hk3] at N3
        clear hk0 hk3
        go_wp2_with fail
        clear d32 d33 e0 e1 e2
        refine wp_region_held_drew (S := (fun V => ∀ j u, X[j]? = some u → V.cell? ((a.add (k * 34)).add j) = some u)) (by kernel_rfl) HKC.out (fun _ => ?_)
        have HS := Lib.hid (show ∀ j u, X[j]? = some u → wr.drew.cell? ((a.add (k * 34)).add j) = some u from HKC.out)
        have BD := Lib.hid (Below.refl wr.heap.size wr).drew
        refine takeL (i := 0) (v := ?_) rfl (by kernel_rfl) (by kernel_rfl) (by kernel_rfl) (fun _ _ _ h => h) (Or.inl ⟨by rfl, ?_⟩) HS.out ?_
        rotate_left
        · intro w hw
          try dsimp only at hw
          go_simp
          try with_reducible rfl
        try simp only [Act.put, List.setIfInBounds_toArray, List.set_cons_zero, List.set_cons_succ]
        refine takeL (i := 1) (v := ?_) rfl (by kernel_rfl) (by kernel_rfl) (by kernel_rfl) (fun _ _ _ h => h) (Or.inl ⟨by rfl, ?_⟩) HS.out ?_
        rotate_left
        · intro w hw
          try dsimp only at hw
          go_simp
          try with_reducible rfl
        try simp only [Act.put, List.setIfInBounds_toArray, List.set_cons_zero, List.set_cons_succ]
        refine takeL (i := 2) (v := ?_) rfl (by kernel_rfl) (by kernel_rfl) (by kernel_rfl) (fun _ _ _ h => h) (Or.inl ⟨by rfl, ?_⟩) HS.out ?_
        rotate_left
        · intro w hw
          try dsimp only at hw
          go_simp
          try with_reducible rfl
        try simp only [Act.put, List.setIfInBounds_toArray, List.set_cons_zero, List.set_cons_succ]
        refine takeL (i := 3) (v := ?_) rfl (by kernel_rfl) (by kernel_rfl) (by kernel_rfl) (fun _ _ _ h => h) (Or.inl ⟨by rfl, ?_⟩) HS.out ?_
        rotate_left
        · intro w hw
          try dsimp only at hw
          go_simp
          try with_reducible rfl
        try simp only [Act.put, List.setIfInBounds_toArray, List.set_cons_zero, List.set_cons_succ]
        refine takeL (i := 4) (v := .agg X.toArray) rfl (by kernel_rfl) (by kernel_rfl) (by kernel_rfl) (fun _ _ _ h => h) (Or.inl ⟨by rfl, fun wz hwz => exec_load_at wz 46 (.tmp 78) rfl (a.add (k * 34)) X _ Try.underlying46 rfl HSZ.out hwz (by go_simp)⟩) HS.out ?_
        try simp only [Act.put, List.setIfInBounds_toArray, List.set_cons_zero, List.set_cons_succ]
        refine readyL (i := 5) rfl (by kernel_rfl) (by kernel_rfl) fun K hK => ?_
        go_simp
        refine (system_ _).mono ?_
        rintro e w5 ⟨rfl, hb5⟩
        have B5 := Lib.hid (BD.out.trans hb5)
        have HS5 : Hid (∀ j u, X[j]? = some u → w5.cell? ((a.add (k * 34)).add j) = some u) := Lib.hid fun j u hu => (B5.out.cell (by rw [addr_block]; exact HAB.out)).trans (HKC.out j u hu)
        clear hb5
        refine hK.out _ _ HS5.out ?_
        clear hK K
        try simp only [Act.put, List.setIfInBounds_toArray, List.set_cons_zero, List.set_cons_succ]
        refine takeL (i := 6) (v := ?_) rfl (by kernel_rfl) (by kernel_rfl) (by kernel_rfl) (fun _ _ _ h => h) (Or.inl ⟨by rfl, ?_⟩) HS5.out ?_
        rotate_left
        · intro w hw
          try dsimp only at hw
          go_simp
          try with_reducible rfl
        try simp only [Act.put, List.setIfInBounds_toArray, List.set_cons_zero, List.set_cons_succ]
        refine takeL (i := 7) (v := ?_) rfl (by kernel_rfl) (by kernel_rfl) (by kernel_rfl) (fun _ _ _ h => h) (Or.inl ⟨by rfl, ?_⟩) HS5.out ?_
        rotate_left
        · intro w hw
          try dsimp only at hw
          go_simp
          try with_reducible rfl
        try simp only [Act.put, List.setIfInBounds_toArray, List.set_cons_zero, List.set_cons_succ]
        refine takeL (i := 8) (v := ?_) rfl (by kernel_rfl) (by kernel_rfl) (by kernel_rfl) (fun _ _ _ h => h) (Or.inl ⟨by rfl, ?_⟩) HS5.out ?_
        rotate_left
        · intro w hw
          try dsimp only at hw
          go_simp
          try with_reducible rfl
        try simp only [Act.put, List.setIfInBounds_toArray, List.set_cons_zero, List.set_cons_succ]
        refine takeL (i := 9) (v := ?_) rfl (by kernel_rfl) (by kernel_rfl) (by kernel_rfl) (fun _ _ _ h => h) (Or.inl ⟨by rfl, ?_⟩) HS5.out ?_
        rotate_left
        · intro w hw
          try dsimp only at hw
          go_simp
          try with_reducible rfl
        try simp only [Act.put, List.setIfInBounds_toArray, List.set_cons_zero, List.set_cons_succ]
        refine takeL (i := 10) (v := ?_) rfl (by kernel_rfl) (by kernel_rfl) (by kernel_rfl) (fun _ _ _ h => h) (Or.inl ⟨by rfl, ?_⟩) HS5.out ?_
        rotate_left
        · intro w hw
          try dsimp only at hw
          go_simp
          try with_reducible rfl
        try simp only [Act.put, List.setIfInBounds_toArray, List.set_cons_zero, List.set_cons_succ]
        refine takeL (i := 11) (v := ?_) rfl (by kernel_rfl) (by kernel_rfl) (by kernel_rfl) (fun _ _ _ h => h) (Or.inl ⟨by rfl, ?_⟩) HS5.out ?_
        rotate_left
        · intro w hw
          try dsimp only at hw
          go_simp
          try with_reducible rfl
        try simp only [Act.put, List.setIfInBounds_toArray, List.set_cons_zero, List.set_cons_succ]
        refine takeL (i := 12) (v := .agg X.toArray) rfl (by kernel_rfl) (by kernel_rfl) (by kernel_rfl) (fun _ _ _ h => h) (Or.inl ⟨by rfl, fun wz hwz => exec_load_at wz 46 (.tmp 86) rfl (a.add (k * 34)) X _ Try.underlying46 rfl HSZ.out hwz (by go_simp)⟩) HS5.out ?_
        try simp only [Act.put, List.setIfInBounds_toArray, List.set_cons_zero, List.set_cons_succ]
        refine readyL (i := 13) rfl (by kernel_rfl) (by kernel_rfl) fun K hK => ?_
        go_simp
        refine (budget_ _).mono ?_
        rintro e w6 ⟨rfl, hb6⟩
        have B6 := Lib.hid (B5.out.trans (hb6.mono B5.out.size))
        have HS6 : Hid (∀ j u, X[j]? = some u → w6.cell? ((a.add (k * 34)).add j) = some u) := Lib.hid fun j u hu => (B6.out.cell (by rw [addr_block]; exact HAB.out)).trans (HKC.out j u hu)
        clear hb6
        refine hK.out _ _ HS6.out ?_
        clear hK K
        try simp only [Act.put, List.setIfInBounds_toArray, List.set_cons_zero, List.set_cons_succ]
        refine takeL (i := 14) (v := ?_) rfl (by kernel_rfl) (by kernel_rfl) (by kernel_rfl) (fun _ _ _ h => h) (Or.inl ⟨by rfl, ?_⟩) HS6.out ?_
        rotate_left
        · intro w hw
          try dsimp only at hw
          go_simp
          try with_reducible rfl
        try simp only [Act.put, List.setIfInBounds_toArray, List.set_cons_zero, List.set_cons_succ]
        refine takeL (i := 15) (v := ?_) rfl (by kernel_rfl) (by kernel_rfl) (by kernel_rfl) (fun _ _ _ h => h) (Or.inl ⟨by rfl, ?_⟩) HS6.out ?_
        rotate_left
        · intro w hw
          try dsimp only at hw
          go_simp
          try with_reducible rfl
        try simp only [Act.put, List.setIfInBounds_toArray, List.set_cons_zero, List.set_cons_succ]
        refine takeL (i := 16) (v := ?_) rfl (by kernel_rfl) (by kernel_rfl) (by kernel_rfl) (fun _ _ _ h => h) (Or.inl ⟨by rfl, ?_⟩) HS6.out ?_
        rotate_left
        · intro w hw
          try dsimp only at hw
          go_simp
          try with_reducible rfl
        try simp only [Act.put, List.setIfInBounds_toArray, List.set_cons_zero, List.set_cons_succ]
        refine wpAnyH_done (by kernel_rfl) ?_ _
        have d33 := (B6.out.cell (p := ⟨(a.add (k * 34)).block, (a.add (k * 34)).off + 33, none⟩) HAB.out).trans HD33.out
        have e0 := (B6.out.cell (p := ⟨gh, 0, none⟩) hgw).trans ((HB.out.cell (p := ⟨gh, 0, none⟩) HGH.out).trans E0.out)
        have e1 := (B6.out.cell (p := ⟨gh, 1, none⟩) hgw).trans ((HB.out.cell (p := ⟨gh, 1, none⟩) HGH.out).trans E1.out)
        have e2 := (B6.out.cell (p := ⟨gh, 2, none⟩) hgw).trans ((HB.out.cell (p := ⟨gh, 2, none⟩) HGH.out).trans E2.out)
        go_wp2_with fail
        go_roundw
        case rel =>
          refine ⟨k + 1, by omega, by go_num, ?_, ?_, ?_, HB.out.trans (B6.out.mono HB.out.size)⟩
          · rw [HQS.out, HF1.out]; go_num
          · rw [HQW.out, HF2.out]; go_num
          · rw [HQK.out, HF3.out, HKV.out, HRD.out]; go_num
        case measure => simp [intOf]; omega
    · subst hs
      have HRD : Hid (rdB s r o n xn k = true) := Lib.hid (by simp only [rdB, Bool.or_eq_true, Bool.and_eq_true, decide_eq_true_iff]; omega)
      have q1 : (k : Int) < s := by omega
      have q2 : s - r ≤ (k : Int) := by omega
      by_cases hk0 : kk = k0
      · have HKV : Hid (kn kk = true) := Lib.hid (by rw [HKN.out, decide_eq_true hk0, Bool.true_or])
        subst hv
        rw [decide_eq_true hk0] at N0
        clear hk0 N3
        go_wp2_with fail
        clear d32 d33 e0 e1 e2
        refine wp_region_held_drew (S := (fun V => ∀ j u, X[j]? = some u → V.cell? ((a.add (k * 34)).add j) = some u)) (by kernel_rfl) HKC.out (fun _ => ?_)
        have HS := Lib.hid (show ∀ j u, X[j]? = some u → wr.drew.cell? ((a.add (k * 34)).add j) = some u from HKC.out)
        have BD := Lib.hid (Below.refl wr.heap.size wr).drew
        refine takeL (i := 0) (v := ?_) rfl (by kernel_rfl) (by kernel_rfl) (by kernel_rfl) (fun _ _ _ h => h) (Or.inl ⟨by rfl, ?_⟩) HS.out ?_
        rotate_left
        · intro w hw
          try dsimp only at hw
          go_simp
          try with_reducible rfl
        try simp only [Act.put, List.setIfInBounds_toArray, List.set_cons_zero, List.set_cons_succ]
        refine takeL (i := 1) (v := ?_) rfl (by kernel_rfl) (by kernel_rfl) (by kernel_rfl) (fun _ _ _ h => h) (Or.inl ⟨by rfl, ?_⟩) HS.out ?_
        rotate_left
        · intro w hw
          try dsimp only at hw
          go_simp
          try with_reducible rfl
        try simp only [Act.put, List.setIfInBounds_toArray, List.set_cons_zero, List.set_cons_succ]
        refine takeL (i := 2) (v := ?_) rfl (by kernel_rfl) (by kernel_rfl) (by kernel_rfl) (fun _ _ _ h => h) (Or.inl ⟨by rfl, ?_⟩) HS.out ?_
        rotate_left
        · intro w hw
          try dsimp only at hw
          go_simp
          try with_reducible rfl
        try simp only [Act.put, List.setIfInBounds_toArray, List.set_cons_zero, List.set_cons_succ]
        refine takeL (i := 3) (v := ?_) rfl (by kernel_rfl) (by kernel_rfl) (by kernel_rfl) (fun _ _ _ h => h) (Or.inl ⟨by rfl, ?_⟩) HS.out ?_
        rotate_left
        · intro w hw
          try dsimp only at hw
          go_simp
          try with_reducible rfl
        try simp only [Act.put, List.setIfInBounds_toArray, List.set_cons_zero, List.set_cons_succ]
        refine takeL (i := 4) (v := .agg X.toArray) rfl (by kernel_rfl) (by kernel_rfl) (by kernel_rfl) (fun _ _ _ h => h) (Or.inl ⟨by rfl, fun wz hwz => exec_load_at wz 46 (.tmp 78) rfl (a.add (k * 34)) X _ Try.underlying46 rfl HSZ.out hwz (by go_simp)⟩) HS.out ?_
        try simp only [Act.put, List.setIfInBounds_toArray, List.set_cons_zero, List.set_cons_succ]
        refine readyL (i := 5) rfl (by kernel_rfl) (by kernel_rfl) fun K hK => ?_
        go_simp
        refine (system_ _).mono ?_
        rintro e w5 ⟨rfl, hb5⟩
        have B5 := Lib.hid (BD.out.trans hb5)
        have HS5 : Hid (∀ j u, X[j]? = some u → w5.cell? ((a.add (k * 34)).add j) = some u) := Lib.hid fun j u hu => (B5.out.cell (by rw [addr_block]; exact HAB.out)).trans (HKC.out j u hu)
        clear hb5
        refine hK.out _ _ HS5.out ?_
        clear hK K
        try simp only [Act.put, List.setIfInBounds_toArray, List.set_cons_zero, List.set_cons_succ]
        refine takeL (i := 6) (v := ?_) rfl (by kernel_rfl) (by kernel_rfl) (by kernel_rfl) (fun _ _ _ h => h) (Or.inl ⟨by rfl, ?_⟩) HS5.out ?_
        rotate_left
        · intro w hw
          try dsimp only at hw
          go_simp
          try with_reducible rfl
        try simp only [Act.put, List.setIfInBounds_toArray, List.set_cons_zero, List.set_cons_succ]
        refine takeL (i := 7) (v := ?_) rfl (by kernel_rfl) (by kernel_rfl) (by kernel_rfl) (fun _ _ _ h => h) (Or.inl ⟨by rfl, ?_⟩) HS5.out ?_
        rotate_left
        · intro w hw
          try dsimp only at hw
          go_simp
          try with_reducible rfl
        try simp only [Act.put, List.setIfInBounds_toArray, List.set_cons_zero, List.set_cons_succ]
        refine takeL (i := 8) (v := undef) rfl (by kernel_rfl) (by kernel_rfl) (by kernel_rfl) (fun _ _ _ h => h) (Or.inr ⟨by rfl, rfl⟩) HS5.out ?_
        try simp only [Act.put, List.setIfInBounds_toArray, List.set_cons_zero, List.set_cons_succ]
        refine takeL (i := 9) (v := undef) rfl (by kernel_rfl) (by kernel_rfl) (by kernel_rfl) (fun _ _ _ h => h) (Or.inr ⟨by rfl, rfl⟩) HS5.out ?_
        try simp only [Act.put, List.setIfInBounds_toArray, List.set_cons_zero, List.set_cons_succ]
        refine takeL (i := 10) (v := undef) rfl (by kernel_rfl) (by kernel_rfl) (by kernel_rfl) (fun _ _ _ h => h) (Or.inr ⟨by rfl, rfl⟩) HS5.out ?_
        try simp only [Act.put, List.setIfInBounds_toArray, List.set_cons_zero, List.set_cons_succ]
        refine takeL (i := 11) (v := undef) rfl (by kernel_rfl) (by kernel_rfl) (by kernel_rfl) (fun _ _ _ h => h) (Or.inr ⟨by rfl, rfl⟩) HS5.out ?_
        try simp only [Act.put, List.setIfInBounds_toArray, List.set_cons_zero, List.set_cons_succ]
        refine takeL (i := 12) (v := undef) rfl (by kernel_rfl) (by kernel_rfl) (by kernel_rfl) (fun _ _ _ h => h) (Or.inr ⟨by rfl, rfl⟩) HS5.out ?_
        try simp only [Act.put, List.setIfInBounds_toArray, List.set_cons_zero, List.set_cons_succ]
        refine takeL (i := 13) (v := undef) rfl (by kernel_rfl) (by kernel_rfl) (by kernel_rfl) (fun _ _ _ h => h) (Or.inr ⟨by rfl, rfl⟩) HS5.out ?_
        try simp only [Act.put, List.setIfInBounds_toArray, List.set_cons_zero, List.set_cons_succ]
        refine takeL (i := 14) (v := undef) rfl (by kernel_rfl) (by kernel_rfl) (by kernel_rfl) (fun _ _ _ h => h) (Or.inr ⟨by rfl, rfl⟩) HS5.out ?_
        try simp only [Act.put, List.setIfInBounds_toArray, List.set_cons_zero, List.set_cons_succ]
        refine takeL (i := 15) (v := ?_) rfl (by kernel_rfl) (by kernel_rfl) (by kernel_rfl) (fun _ _ _ h => h) (Or.inl ⟨by rfl, ?_⟩) HS5.out ?_
        rotate_left
        · intro w hw
          try dsimp only at hw
          go_simp
          try with_reducible rfl
        try simp only [Act.put, List.setIfInBounds_toArray, List.set_cons_zero, List.set_cons_succ]
        refine takeL (i := 16) (v := ?_) rfl (by kernel_rfl) (by kernel_rfl) (by kernel_rfl) (fun _ _ _ h => h) (Or.inl ⟨by rfl, ?_⟩) HS5.out ?_
        rotate_left
        · intro w hw
          try dsimp only at hw
          go_simp
          try with_reducible rfl
        try simp only [Act.put, List.setIfInBounds_toArray, List.set_cons_zero, List.set_cons_succ]
        refine wpAnyH_done (by kernel_rfl) ?_ _
        have d33 := (B5.out.cell (p := ⟨(a.add (k * 34)).block, (a.add (k * 34)).off + 33, none⟩) HAB.out).trans HD33.out
        have e0 := (B5.out.cell (p := ⟨gh, 0, none⟩) hgw).trans ((HB.out.cell (p := ⟨gh, 0, none⟩) HGH.out).trans E0.out)
        have e1 := (B5.out.cell (p := ⟨gh, 1, none⟩) hgw).trans ((HB.out.cell (p := ⟨gh, 1, none⟩) HGH.out).trans E1.out)
        have e2 := (B5.out.cell (p := ⟨gh, 2, none⟩) hgw).trans ((HB.out.cell (p := ⟨gh, 2, none⟩) HGH.out).trans E2.out)
        go_wp2_with fail
        go_roundw
        case rel =>
          refine ⟨k + 1, by omega, by go_num, ?_, ?_, ?_, HB.out.trans (B5.out.mono HB.out.size)⟩
          · rw [HQS.out, HF1.out]; go_num
          · rw [HQW.out, HF2.out]; go_num
          · rw [HQK.out, HF3.out, HKV.out, HRD.out]; go_num
        case measure => simp [intOf]; omega
      by_cases hk3 : kk = k3
      · have HKV : Hid (kn kk = true) := Lib.hid (by rw [HKN.out, decide_eq_true hk3, Bool.or_true])
        subst hv
        rw [decide_eq_false hk0] at N0
        rw [decide_eq_true hk3] at N3
        clear hk0 hk3
        go_wp2_with fail
        clear d32 d33 e0 e1 e2
        refine wp_region_held_drew (S := (fun V => ∀ j u, X[j]? = some u → V.cell? ((a.add (k * 34)).add j) = some u)) (by kernel_rfl) HKC.out (fun _ => ?_)
        have HS := Lib.hid (show ∀ j u, X[j]? = some u → wr.drew.cell? ((a.add (k * 34)).add j) = some u from HKC.out)
        have BD := Lib.hid (Below.refl wr.heap.size wr).drew
        refine takeL (i := 0) (v := ?_) rfl (by kernel_rfl) (by kernel_rfl) (by kernel_rfl) (fun _ _ _ h => h) (Or.inl ⟨by rfl, ?_⟩) HS.out ?_
        rotate_left
        · intro w hw
          try dsimp only at hw
          go_simp
          try with_reducible rfl
        try simp only [Act.put, List.setIfInBounds_toArray, List.set_cons_zero, List.set_cons_succ]
        refine takeL (i := 1) (v := ?_) rfl (by kernel_rfl) (by kernel_rfl) (by kernel_rfl) (fun _ _ _ h => h) (Or.inl ⟨by rfl, ?_⟩) HS.out ?_
        rotate_left
        · intro w hw
          try dsimp only at hw
          go_simp
          try with_reducible rfl
        try simp only [Act.put, List.setIfInBounds_toArray, List.set_cons_zero, List.set_cons_succ]
        refine takeL (i := 2) (v := ?_) rfl (by kernel_rfl) (by kernel_rfl) (by kernel_rfl) (fun _ _ _ h => h) (Or.inl ⟨by rfl, ?_⟩) HS.out ?_
        rotate_left
        · intro w hw
          try dsimp only at hw
          go_simp
          try with_reducible rfl
        try simp only [Act.put, List.setIfInBounds_toArray, List.set_cons_zero, List.set_cons_succ]
        refine takeL (i := 3) (v := ?_) rfl (by kernel_rfl) (by kernel_rfl) (by kernel_rfl) (fun _ _ _ h => h) (Or.inl ⟨by rfl, ?_⟩) HS.out ?_
        rotate_left
        · intro w hw
          try dsimp only at hw
          go_simp
          try with_reducible rfl
        try simp only [Act.put, List.setIfInBounds_toArray, List.set_cons_zero, List.set_cons_succ]
        refine takeL (i := 4) (v := .agg X.toArray) rfl (by kernel_rfl) (by kernel_rfl) (by kernel_rfl) (fun _ _ _ h => h) (Or.inl ⟨by rfl, fun wz hwz => exec_load_at wz 46 (.tmp 78) rfl (a.add (k * 34)) X _ Try.underlying46 rfl HSZ.out hwz (by go_simp)⟩) HS.out ?_
        try simp only [Act.put, List.setIfInBounds_toArray, List.set_cons_zero, List.set_cons_succ]
        refine readyL (i := 5) rfl (by kernel_rfl) (by kernel_rfl) fun K hK => ?_
        go_simp
        refine (system_ _).mono ?_
        rintro e w5 ⟨rfl, hb5⟩
        have B5 := Lib.hid (BD.out.trans hb5)
        have HS5 : Hid (∀ j u, X[j]? = some u → w5.cell? ((a.add (k * 34)).add j) = some u) := Lib.hid fun j u hu => (B5.out.cell (by rw [addr_block]; exact HAB.out)).trans (HKC.out j u hu)
        clear hb5
        refine hK.out _ _ HS5.out ?_
        clear hK K
        try simp only [Act.put, List.setIfInBounds_toArray, List.set_cons_zero, List.set_cons_succ]
        refine takeL (i := 6) (v := ?_) rfl (by kernel_rfl) (by kernel_rfl) (by kernel_rfl) (fun _ _ _ h => h) (Or.inl ⟨by rfl, ?_⟩) HS5.out ?_
        rotate_left
        · intro w hw
          try dsimp only at hw
          go_simp
          try with_reducible rfl
        try simp only [Act.put, List.setIfInBounds_toArray, List.set_cons_zero, List.set_cons_succ]
        refine takeL (i := 7) (v := ?_) rfl (by kernel_rfl) (by kernel_rfl) (by kernel_rfl) (fun _ _ _ h => h) (Or.inl ⟨by rfl, ?_⟩) HS5.out ?_
        rotate_left
        · intro w hw
          try dsimp only at hw
          go_simp
          try with_reducible rfl
        try simp only [Act.put, List.setIfInBounds_toArray, List.set_cons_zero, List.set_cons_succ]
        refine takeL (i := 8) (v := ?_) rfl (by kernel_rfl) (by kernel_rfl) (by kernel_rfl) (fun _ _ _ h => h) (Or.inl ⟨by rfl, ?_⟩) HS5.out ?_
        rotate_left
        · intro w hw
          try dsimp only at hw
          go_simp
          try with_reducible rfl
        try simp only [Act.put, List.setIfInBounds_toArray, List.set_cons_zero, List.set_cons_succ]
        refine takeL (i := 9) (v := ?_) rfl (by kernel_rfl) (by kernel_rfl) (by kernel_rfl) (fun _ _ _ h => h) (Or.inl ⟨by rfl, ?_⟩) HS5.out ?_
        rotate_left
        · intro w hw
          try dsimp only at hw
          go_simp
          try with_reducible rfl
        try simp only [Act.put, List.setIfInBounds_toArray, List.set_cons_zero, List.set_cons_succ]
        refine takeL (i := 10) (v := ?_) rfl (by kernel_rfl) (by kernel_rfl) (by kernel_rfl) (fun _ _ _ h => h) (Or.inl ⟨by rfl, ?_⟩) HS5.out ?_
        rotate_left
        · intro w hw
          try dsimp only at hw
          go_simp
          try with_reducible rfl
        try simp only [Act.put, List.setIfInBounds_toArray, List.set_cons_zero, List.set_cons_succ]
        refine takeL (i := 11) (v := ?_) rfl (by kernel_rfl) (by kernel_rfl) (by kernel_rfl) (fun _ _ _ h => h) (Or.inl ⟨by rfl, ?_⟩) HS5.out ?_
        rotate_left
        · intro w hw
          try dsimp only at hw
          go_simp
          try with_reducible rfl
        try simp only [Act.put, List.setIfInBounds_toArray, List.set_cons_zero, List.set_cons_succ]
        refine takeL (i := 12) (v := .agg X.toArray) rfl (by kernel_rfl) (by kernel_rfl) (by kernel_rfl) (fun _ _ _ h => h) (Or.inl ⟨by rfl, fun wz hwz => exec_load_at wz 46 (.tmp 86) rfl (a.add (k * 34)) X _ Try.underlying46 rfl HSZ.out hwz (by go_simp)⟩) HS5.out ?_
        try simp only [Act.put, List.setIfInBounds_toArray, List.set_cons_zero, List.set_cons_succ]
        refine readyL (i := 13) rfl (by kernel_rfl) (by kernel_rfl) fun K hK => ?_
        go_simp
        refine (budget_ _).mono ?_
        rintro e w6 ⟨rfl, hb6⟩
        have B6 := Lib.hid (B5.out.trans (hb6.mono B5.out.size))
        have HS6 : Hid (∀ j u, X[j]? = some u → w6.cell? ((a.add (k * 34)).add j) = some u) := Lib.hid fun j u hu => (B6.out.cell (by rw [addr_block]; exact HAB.out)).trans (HKC.out j u hu)
        clear hb6
        refine hK.out _ _ HS6.out ?_
        clear hK K
        try simp only [Act.put, List.setIfInBounds_toArray, List.set_cons_zero, List.set_cons_succ]
        refine takeL (i := 14) (v := ?_) rfl (by kernel_rfl) (by kernel_rfl) (by kernel_rfl) (fun _ _ _ h => h) (Or.inl ⟨by rfl, ?_⟩) HS6.out ?_
        rotate_left
        · intro w hw
          try dsimp only at hw
          go_simp
          try with_reducible rfl
        try simp only [Act.put, List.setIfInBounds_toArray, List.set_cons_zero, List.set_cons_succ]
        refine takeL (i := 15) (v := ?_) rfl (by kernel_rfl) (by kernel_rfl) (by kernel_rfl) (fun _ _ _ h => h) (Or.inl ⟨by rfl, ?_⟩) HS6.out ?_
        rotate_left
        · intro w hw
          try dsimp only at hw
          go_simp
          try with_reducible rfl
        try simp only [Act.put, List.setIfInBounds_toArray, List.set_cons_zero, List.set_cons_succ]
        refine takeL (i := 16) (v := ?_) rfl (by kernel_rfl) (by kernel_rfl) (by kernel_rfl) (fun _ _ _ h => h) (Or.inl ⟨by rfl, ?_⟩) HS6.out ?_
        rotate_left
        · intro w hw
          try dsimp only at hw
          go_simp
          try with_reducible rfl
        try simp only [Act.put, List.setIfInBounds_toArray, List.set_cons_zero, List.set_cons_succ]
        refine wpAnyH_done (by kernel_rfl) ?_ _
        have d33 := (B6.out.cell (p := ⟨(a.add (k * 34)).block, (a.add (k * 34)).off + 33, none⟩) HAB.out).trans HD33.out
        have e0 := (B6.out.cell (p := ⟨gh, 0, none⟩) hgw).trans ((HB.out.cell (p := ⟨gh, 0, none⟩) HGH.out).trans E0.out)
        have e1 := (B6.out.cell (p := ⟨gh, 1, none⟩) hgw).trans ((HB.out.cell (p := ⟨gh, 1, none⟩) HGH.out).trans E1.out)
        have e2 := (B6.out.cell (p := ⟨gh, 2, none⟩) hgw).trans ((HB.out.cell (p := ⟨gh, 2, none⟩) HGH.out).trans E2.out)
        go_wp2_with fail
        go_roundw
        case rel =>
          refine ⟨k + 1, by omega, by go_num, ?_, ?_, ?_, HB.out.trans (B6.out.mono HB.out.size)⟩
          · rw [HQS.out, HF1.out]; go_num
          · rw [HQW.out, HF2.out]; go_num
          · rw [HQK.out, HF3.out, HKV.out, HRD.out]; go_num
        case measure => simp [intOf]; omega
      · have HKV : Hid (kn kk = false) := Lib.hid (by rw [HKN.out, decide_eq_false hk0, decide_eq_false hk3, Bool.or_false])
        subst hv
        rw [decide_eq_false hk0] at N0
        rw [decide_eq_false hk3] at N3
        clear hk0 hk3
        go_wp2_with fail
        clear d32 d33 e0 e1 e2
        refine wp_region_held_drew (S := (fun V => ∀ j u, X[j]? = some u → V.cell? ((a.add (k * 34)).add j) = some u)) (by kernel_rfl) HKC.out (fun _ => ?_)
        have HS := Lib.hid (show ∀ j u, X[j]? = some u → wr.drew.cell? ((a.add (k * 34)).add j) = some u from HKC.out)
        have BD := Lib.hid (Below.refl wr.heap.size wr).drew
        refine takeL (i := 0) (v := ?_) rfl (by kernel_rfl) (by kernel_rfl) (by kernel_rfl) (fun _ _ _ h => h) (Or.inl ⟨by rfl, ?_⟩) HS.out ?_
        rotate_left
        · intro w hw
          try dsimp only at hw
          go_simp
          try with_reducible rfl
        try simp only [Act.put, List.setIfInBounds_toArray, List.set_cons_zero, List.set_cons_succ]
        refine takeL (i := 1) (v := ?_) rfl (by kernel_rfl) (by kernel_rfl) (by kernel_rfl) (fun _ _ _ h => h) (Or.inl ⟨by rfl, ?_⟩) HS.out ?_
        rotate_left
        · intro w hw
          try dsimp only at hw
          go_simp
          try with_reducible rfl
        try simp only [Act.put, List.setIfInBounds_toArray, List.set_cons_zero, List.set_cons_succ]
        refine takeL (i := 2) (v := ?_) rfl (by kernel_rfl) (by kernel_rfl) (by kernel_rfl) (fun _ _ _ h => h) (Or.inl ⟨by rfl, ?_⟩) HS.out ?_
        rotate_left
        · intro w hw
          try dsimp only at hw
          go_simp
          try with_reducible rfl
        try simp only [Act.put, List.setIfInBounds_toArray, List.set_cons_zero, List.set_cons_succ]
        refine takeL (i := 3) (v := ?_) rfl (by kernel_rfl) (by kernel_rfl) (by kernel_rfl) (fun _ _ _ h => h) (Or.inl ⟨by rfl, ?_⟩) HS.out ?_
        rotate_left
        · intro w hw
          try dsimp only at hw
          go_simp
          try with_reducible rfl
        try simp only [Act.put, List.setIfInBounds_toArray, List.set_cons_zero, List.set_cons_succ]
        refine takeL (i := 4) (v := .agg X.toArray) rfl (by kernel_rfl) (by kernel_rfl) (by kernel_rfl) (fun _ _ _ h => h) (Or.inl ⟨by rfl, fun wz hwz => exec_load_at wz 46 (.tmp 78) rfl (a.add (k * 34)) X _ Try.underlying46 rfl HSZ.out hwz (by go_simp)⟩) HS.out ?_
        try simp only [Act.put, List.setIfInBounds_toArray, List.set_cons_zero, List.set_cons_succ]
        refine readyL (i := 5) rfl (by kernel_rfl) (by kernel_rfl) fun K hK => ?_
        go_simp
        refine (system_ _).mono ?_
        rintro e w5 ⟨rfl, hb5⟩
        have B5 := Lib.hid (BD.out.trans hb5)
        have HS5 : Hid (∀ j u, X[j]? = some u → w5.cell? ((a.add (k * 34)).add j) = some u) := Lib.hid fun j u hu => (B5.out.cell (by rw [addr_block]; exact HAB.out)).trans (HKC.out j u hu)
        clear hb5
        refine hK.out _ _ HS5.out ?_
        clear hK K
        try simp only [Act.put, List.setIfInBounds_toArray, List.set_cons_zero, List.set_cons_succ]
        refine takeL (i := 6) (v := ?_) rfl (by kernel_rfl) (by kernel_rfl) (by kernel_rfl) (fun _ _ _ h => h) (Or.inl ⟨by rfl, ?_⟩) HS5.out ?_
        rotate_left
        · intro w hw
          try dsimp only at hw
          go_simp
          try with_reducible rfl
        try simp only [Act.put, List.setIfInBounds_toArray, List.set_cons_zero, List.set_cons_succ]
        refine takeL (i := 7) (v := ?_) rfl (by kernel_rfl) (by kernel_rfl) (by kernel_rfl) (fun _ _ _ h => h) (Or.inl ⟨by rfl, ?_⟩) HS5.out ?_
        rotate_left
        · intro w hw
          try dsimp only at hw
          go_simp
          try with_reducible rfl
        try simp only [Act.put, List.setIfInBounds_toArray, List.set_cons_zero, List.set_cons_succ]
        refine takeL (i := 8) (v := ?_) rfl (by kernel_rfl) (by kernel_rfl) (by kernel_rfl) (fun _ _ _ h => h) (Or.inl ⟨by rfl, ?_⟩) HS5.out ?_
        rotate_left
        · intro w hw
          try dsimp only at hw
          go_simp
          try with_reducible rfl
        try simp only [Act.put, List.setIfInBounds_toArray, List.set_cons_zero, List.set_cons_succ]
        refine takeL (i := 9) (v := ?_) rfl (by kernel_rfl) (by kernel_rfl) (by kernel_rfl) (fun _ _ _ h => h) (Or.inl ⟨by rfl, ?_⟩) HS5.out ?_
        rotate_left
        · intro w hw
          try dsimp only at hw
          go_simp
          try with_reducible rfl
        try simp only [Act.put, List.setIfInBounds_toArray, List.set_cons_zero, List.set_cons_succ]
        refine takeL (i := 10) (v := ?_) rfl (by kernel_rfl) (by kernel_rfl) (by kernel_rfl) (fun _ _ _ h => h) (Or.inl ⟨by rfl, ?_⟩) HS5.out ?_
        rotate_left
        · intro w hw
          try dsimp only at hw
          go_simp
          try with_reducible rfl
        try simp only [Act.put, List.setIfInBounds_toArray, List.set_cons_zero, List.set_cons_succ]
        refine takeL (i := 11) (v := ?_) rfl (by kernel_rfl) (by kernel_rfl) (by kernel_rfl) (fun _ _ _ h => h) (Or.inl ⟨by rfl, ?_⟩) HS5.out ?_
        rotate_left
        · intro w hw
          try dsimp only at hw
          go_simp
          try with_reducible rfl
        try simp only [Act.put, List.setIfInBounds_toArray, List.set_cons_zero, List.set_cons_succ]
        refine takeL (i := 12) (v := .agg X.toArray) rfl (by kernel_rfl) (by kernel_rfl) (by kernel_rfl) (fun _ _ _ h => h) (Or.inl ⟨by rfl, fun wz hwz => exec_load_at wz 46 (.tmp 86) rfl (a.add (k * 34)) X _ Try.underlying46 rfl HSZ.out hwz (by go_simp)⟩) HS5.out ?_
        try simp only [Act.put, List.setIfInBounds_toArray, List.set_cons_zero, List.set_cons_succ]
        refine readyL (i := 13) rfl (by kernel_rfl) (by kernel_rfl) fun K hK => ?_
        go_simp
        refine (budget_ _).mono ?_
        rintro e w6 ⟨rfl, hb6⟩
        have B6 := Lib.hid (B5.out.trans (hb6.mono B5.out.size))
        have HS6 : Hid (∀ j u, X[j]? = some u → w6.cell? ((a.add (k * 34)).add j) = some u) := Lib.hid fun j u hu => (B6.out.cell (by rw [addr_block]; exact HAB.out)).trans (HKC.out j u hu)
        clear hb6
        refine hK.out _ _ HS6.out ?_
        clear hK K
        try simp only [Act.put, List.setIfInBounds_toArray, List.set_cons_zero, List.set_cons_succ]
        refine takeL (i := 14) (v := ?_) rfl (by kernel_rfl) (by kernel_rfl) (by kernel_rfl) (fun _ _ _ h => h) (Or.inl ⟨by rfl, ?_⟩) HS6.out ?_
        rotate_left
        · intro w hw
          try dsimp only at hw
          go_simp
          try with_reducible rfl
        try simp only [Act.put, List.setIfInBounds_toArray, List.set_cons_zero, List.set_cons_succ]
        refine takeL (i := 15) (v := ?_) rfl (by kernel_rfl) (by kernel_rfl) (by kernel_rfl) (fun _ _ _ h => h) (Or.inl ⟨by rfl, ?_⟩) HS6.out ?_
        rotate_left
        · intro w hw
          try dsimp only at hw
          go_simp
          try with_reducible rfl
        try simp only [Act.put, List.setIfInBounds_toArray, List.set_cons_zero, List.set_cons_succ]
        refine takeL (i := 16) (v := ?_) rfl (by kernel_rfl) (by kernel_rfl) (by kernel_rfl) (fun _ _ _ h => h) (Or.inl ⟨by rfl, ?_⟩) HS6.out ?_
        rotate_left
        · intro w hw
          try dsimp only at hw
          go_simp
          try with_reducible rfl
        try simp only [Act.put, List.setIfInBounds_toArray, List.set_cons_zero, List.set_cons_succ]
        refine wpAnyH_done (by kernel_rfl) ?_ _
        have d33 := (B6.out.cell (p := ⟨(a.add (k * 34)).block, (a.add (k * 34)).off + 33, none⟩) HAB.out).trans HD33.out
        have e0 := (B6.out.cell (p := ⟨gh, 0, none⟩) hgw).trans ((HB.out.cell (p := ⟨gh, 0, none⟩) HGH.out).trans E0.out)
        have e1 := (B6.out.cell (p := ⟨gh, 1, none⟩) hgw).trans ((HB.out.cell (p := ⟨gh, 1, none⟩) HGH.out).trans E1.out)
        have e2 := (B6.out.cell (p := ⟨gh, 2, none⟩) hgw).trans ((HB.out.cell (p := ⟨gh, 2, none⟩) HGH.out).trans E2.out)
        go_wp2_with fail
        go_roundw
        case rel =>
          refine ⟨k + 1, by omega, by go_num, ?_, ?_, ?_, HB.out.trans (B6.out.mono HB.out.size)⟩
          · rw [HQS.out, HF1.out]; go_num
          · rw [HQW.out, HF2.out]; go_num
          · rw [HQK.out, HF3.out, HKV.out, HRD.out]; go_num
        case measure => simp [intOf]; omega
    · subst hs
      have HRD : Hid (rdB s r o n xn k = false) := Lib.hid (by simp only [rdB, Bool.or_eq_false_iff, Bool.and_eq_false_iff, decide_eq_false_iff_not]; omega)
      have q1 : decide ((k : Int) < s) = false := decide_eq_false (by omega)
      have q3 : (k : Int) < n := by omega
      have q4 : decide ((n : Int) - o ≤ (k : Int)) = false := decide_eq_false (by omega)
      have q5 : decide ((n : Int) + (xn : Int) ≤ (k : Int)) = false := decide_eq_false (by omega)
      by_cases hk0 : kk = k0
      · have HKV : Hid (kn kk = true) := Lib.hid (by rw [HKN.out, decide_eq_true hk0, Bool.true_or])
        rw [HKV.out] at hv
        simp only [Bool.not_true, Bool.not_false] at hv
        subst hv
        rw [decide_eq_true hk0] at N0
        clear hk0 N3
        go_wp2_with fail
        clear d32 d33 e0 e1 e2
        refine wp_region_held_drew (S := (fun V => ∀ j u, X[j]? = some u → V.cell? ((a.add (k * 34)).add j) = some u)) (by kernel_rfl) HKC.out (fun _ => ?_)
        have HS := Lib.hid (show ∀ j u, X[j]? = some u → wr.drew.cell? ((a.add (k * 34)).add j) = some u from HKC.out)
        have BD := Lib.hid (Below.refl wr.heap.size wr).drew
        refine takeL (i := 0) (v := ?_) rfl (by kernel_rfl) (by kernel_rfl) (by kernel_rfl) (fun _ _ _ h => h) (Or.inl ⟨by rfl, ?_⟩) HS.out ?_
        rotate_left
        · intro w hw
          try dsimp only at hw
          go_simp
          try with_reducible rfl
        try simp only [Act.put, List.setIfInBounds_toArray, List.set_cons_zero, List.set_cons_succ]
        refine takeL (i := 1) (v := ?_) rfl (by kernel_rfl) (by kernel_rfl) (by kernel_rfl) (fun _ _ _ h => h) (Or.inl ⟨by rfl, ?_⟩) HS.out ?_
        rotate_left
        · intro w hw
          try dsimp only at hw
          go_simp
          try with_reducible rfl
        try simp only [Act.put, List.setIfInBounds_toArray, List.set_cons_zero, List.set_cons_succ]
        refine takeL (i := 2) (v := ?_) rfl (by kernel_rfl) (by kernel_rfl) (by kernel_rfl) (fun _ _ _ h => h) (Or.inl ⟨by rfl, ?_⟩) HS.out ?_
        rotate_left
        · intro w hw
          try dsimp only at hw
          go_simp
          try with_reducible rfl
        try simp only [Act.put, List.setIfInBounds_toArray, List.set_cons_zero, List.set_cons_succ]
        refine takeL (i := 3) (v := ?_) rfl (by kernel_rfl) (by kernel_rfl) (by kernel_rfl) (fun _ _ _ h => h) (Or.inl ⟨by rfl, ?_⟩) HS.out ?_
        rotate_left
        · intro w hw
          try dsimp only at hw
          go_simp
          try with_reducible rfl
        try simp only [Act.put, List.setIfInBounds_toArray, List.set_cons_zero, List.set_cons_succ]
        refine takeL (i := 4) (v := .agg X.toArray) rfl (by kernel_rfl) (by kernel_rfl) (by kernel_rfl) (fun _ _ _ h => h) (Or.inl ⟨by rfl, fun wz hwz => exec_load_at wz 46 (.tmp 78) rfl (a.add (k * 34)) X _ Try.underlying46 rfl HSZ.out hwz (by go_simp)⟩) HS.out ?_
        try simp only [Act.put, List.setIfInBounds_toArray, List.set_cons_zero, List.set_cons_succ]
        refine readyL (i := 5) rfl (by kernel_rfl) (by kernel_rfl) fun K hK => ?_
        go_simp
        refine (system_ _).mono ?_
        rintro e w5 ⟨rfl, hb5⟩
        have B5 := Lib.hid (BD.out.trans hb5)
        have HS5 : Hid (∀ j u, X[j]? = some u → w5.cell? ((a.add (k * 34)).add j) = some u) := Lib.hid fun j u hu => (B5.out.cell (by rw [addr_block]; exact HAB.out)).trans (HKC.out j u hu)
        clear hb5
        refine hK.out _ _ HS5.out ?_
        clear hK K
        try simp only [Act.put, List.setIfInBounds_toArray, List.set_cons_zero, List.set_cons_succ]
        refine takeL (i := 6) (v := ?_) rfl (by kernel_rfl) (by kernel_rfl) (by kernel_rfl) (fun _ _ _ h => h) (Or.inl ⟨by rfl, ?_⟩) HS5.out ?_
        rotate_left
        · intro w hw
          try dsimp only at hw
          go_simp
          try with_reducible rfl
        try simp only [Act.put, List.setIfInBounds_toArray, List.set_cons_zero, List.set_cons_succ]
        refine takeL (i := 7) (v := ?_) rfl (by kernel_rfl) (by kernel_rfl) (by kernel_rfl) (fun _ _ _ h => h) (Or.inl ⟨by rfl, ?_⟩) HS5.out ?_
        rotate_left
        · intro w hw
          try dsimp only at hw
          go_simp
          try with_reducible rfl
        try simp only [Act.put, List.setIfInBounds_toArray, List.set_cons_zero, List.set_cons_succ]
        refine takeL (i := 8) (v := undef) rfl (by kernel_rfl) (by kernel_rfl) (by kernel_rfl) (fun _ _ _ h => h) (Or.inr ⟨by rfl, rfl⟩) HS5.out ?_
        try simp only [Act.put, List.setIfInBounds_toArray, List.set_cons_zero, List.set_cons_succ]
        refine takeL (i := 9) (v := undef) rfl (by kernel_rfl) (by kernel_rfl) (by kernel_rfl) (fun _ _ _ h => h) (Or.inr ⟨by rfl, rfl⟩) HS5.out ?_
        try simp only [Act.put, List.setIfInBounds_toArray, List.set_cons_zero, List.set_cons_succ]
        refine takeL (i := 10) (v := undef) rfl (by kernel_rfl) (by kernel_rfl) (by kernel_rfl) (fun _ _ _ h => h) (Or.inr ⟨by rfl, rfl⟩) HS5.out ?_
        try simp only [Act.put, List.setIfInBounds_toArray, List.set_cons_zero, List.set_cons_succ]
        refine takeL (i := 11) (v := undef) rfl (by kernel_rfl) (by kernel_rfl) (by kernel_rfl) (fun _ _ _ h => h) (Or.inr ⟨by rfl, rfl⟩) HS5.out ?_
        try simp only [Act.put, List.setIfInBounds_toArray, List.set_cons_zero, List.set_cons_succ]
        refine takeL (i := 12) (v := undef) rfl (by kernel_rfl) (by kernel_rfl) (by kernel_rfl) (fun _ _ _ h => h) (Or.inr ⟨by rfl, rfl⟩) HS5.out ?_
        try simp only [Act.put, List.setIfInBounds_toArray, List.set_cons_zero, List.set_cons_succ]
        refine takeL (i := 13) (v := undef) rfl (by kernel_rfl) (by kernel_rfl) (by kernel_rfl) (fun _ _ _ h => h) (Or.inr ⟨by rfl, rfl⟩) HS5.out ?_
        try simp only [Act.put, List.setIfInBounds_toArray, List.set_cons_zero, List.set_cons_succ]
        refine takeL (i := 14) (v := undef) rfl (by kernel_rfl) (by kernel_rfl) (by kernel_rfl) (fun _ _ _ h => h) (Or.inr ⟨by rfl, rfl⟩) HS5.out ?_
        try simp only [Act.put, List.setIfInBounds_toArray, List.set_cons_zero, List.set_cons_succ]
        refine takeL (i := 15) (v := ?_) rfl (by kernel_rfl) (by kernel_rfl) (by kernel_rfl) (fun _ _ _ h => h) (Or.inl ⟨by rfl, ?_⟩) HS5.out ?_
        rotate_left
        · intro w hw
          try dsimp only at hw
          go_simp
          try with_reducible rfl
        try simp only [Act.put, List.setIfInBounds_toArray, List.set_cons_zero, List.set_cons_succ]
        refine takeL (i := 16) (v := ?_) rfl (by kernel_rfl) (by kernel_rfl) (by kernel_rfl) (fun _ _ _ h => h) (Or.inl ⟨by rfl, ?_⟩) HS5.out ?_
        rotate_left
        · intro w hw
          try dsimp only at hw
          go_simp
          try with_reducible rfl
        try simp only [Act.put, List.setIfInBounds_toArray, List.set_cons_zero, List.set_cons_succ]
        refine wpAnyH_done (by kernel_rfl) ?_ _
        have d33 := (B5.out.cell (p := ⟨(a.add (k * 34)).block, (a.add (k * 34)).off + 33, none⟩) HAB.out).trans HD33.out
        have e0 := (B5.out.cell (p := ⟨gh, 0, none⟩) hgw).trans ((HB.out.cell (p := ⟨gh, 0, none⟩) HGH.out).trans E0.out)
        have e1 := (B5.out.cell (p := ⟨gh, 1, none⟩) hgw).trans ((HB.out.cell (p := ⟨gh, 1, none⟩) HGH.out).trans E1.out)
        have e2 := (B5.out.cell (p := ⟨gh, 2, none⟩) hgw).trans ((HB.out.cell (p := ⟨gh, 2, none⟩) HGH.out).trans E2.out)
        go_wp2_with fail
        go_roundw
        case rel =>
          refine ⟨k + 1, by omega, by go_num, ?_, ?_, ?_, HB.out.trans (B5.out.mono HB.out.size)⟩
          · rw [HQS.out, HF1.out]; go_num
          · rw [HQW.out, HF2.out]; go_num
          · rw [HQK.out, HF3.out, HKV.out, HRD.out]; go_num
        case measure => simp [intOf]; omega
      by_cases hk3 : kk = k3
      · have HKV : Hid (kn kk = true) := Lib.hid (by rw [HKN.out, decide_eq_true hk3, Bool.or_true])
        rw [HKV.out] at hv
        simp only [Bool.not_true, Bool.not_false] at hv
        subst hv
        rw [decide_eq_false hk0] at N0
        rw [decide_eq_true hk3] at N3
        clear hk0 hk3
        go_wp2_with fail
        clear d32 d33 e0 e1 e2
        refine wp_region_held_drew (S := (fun V => ∀ j u, X[j]? = some u → V.cell? ((a.add (k * 34)).add j) = some u)) (by kernel_rfl) HKC.out (fun _ => ?_)
        have HS := Lib.hid (show ∀ j u, X[j]? = some u → wr.drew.cell? ((a.add (k * 34)).add j) = some u from HKC.out)
        have BD := Lib.hid (Below.refl wr.heap.size wr).drew
        refine takeL (i := 0) (v := ?_) rfl (by kernel_rfl) (by kernel_rfl) (by kernel_rfl) (fun _ _ _ h => h) (Or.inl ⟨by rfl, ?_⟩) HS.out ?_
        rotate_left
        · intro w hw
          try dsimp only at hw
          go_simp
          try with_reducible rfl
        try simp only [Act.put, List.setIfInBounds_toArray, List.set_cons_zero, List.set_cons_succ]
        refine takeL (i := 1) (v := ?_) rfl (by kernel_rfl) (by kernel_rfl) (by kernel_rfl) (fun _ _ _ h => h) (Or.inl ⟨by rfl, ?_⟩) HS.out ?_
        rotate_left
        · intro w hw
          try dsimp only at hw
          go_simp
          try with_reducible rfl
        try simp only [Act.put, List.setIfInBounds_toArray, List.set_cons_zero, List.set_cons_succ]
        refine takeL (i := 2) (v := ?_) rfl (by kernel_rfl) (by kernel_rfl) (by kernel_rfl) (fun _ _ _ h => h) (Or.inl ⟨by rfl, ?_⟩) HS.out ?_
        rotate_left
        · intro w hw
          try dsimp only at hw
          go_simp
          try with_reducible rfl
        try simp only [Act.put, List.setIfInBounds_toArray, List.set_cons_zero, List.set_cons_succ]
        refine takeL (i := 3) (v := ?_) rfl (by kernel_rfl) (by kernel_rfl) (by kernel_rfl) (fun _ _ _ h => h) (Or.inl ⟨by rfl, ?_⟩) HS.out ?_
        rotate_left
        · intro w hw
          try dsimp only at hw
          go_simp
          try with_reducible rfl
        try simp only [Act.put, List.setIfInBounds_toArray, List.set_cons_zero, List.set_cons_succ]
        refine takeL (i := 4) (v := .agg X.toArray) rfl (by kernel_rfl) (by kernel_rfl) (by kernel_rfl) (fun _ _ _ h => h) (Or.inl ⟨by rfl, fun wz hwz => exec_load_at wz 46 (.tmp 78) rfl (a.add (k * 34)) X _ Try.underlying46 rfl HSZ.out hwz (by go_simp)⟩) HS.out ?_
        try simp only [Act.put, List.setIfInBounds_toArray, List.set_cons_zero, List.set_cons_succ]
        refine readyL (i := 5) rfl (by kernel_rfl) (by kernel_rfl) fun K hK => ?_
        go_simp
        refine (system_ _).mono ?_
        rintro e w5 ⟨rfl, hb5⟩
        have B5 := Lib.hid (BD.out.trans hb5)
        have HS5 : Hid (∀ j u, X[j]? = some u → w5.cell? ((a.add (k * 34)).add j) = some u) := Lib.hid fun j u hu => (B5.out.cell (by rw [addr_block]; exact HAB.out)).trans (HKC.out j u hu)
        clear hb5
        refine hK.out _ _ HS5.out ?_
        clear hK K
        try simp only [Act.put, List.setIfInBounds_toArray, List.set_cons_zero, List.set_cons_succ]
        refine takeL (i := 6) (v := ?_) rfl (by kernel_rfl) (by kernel_rfl) (by kernel_rfl) (fun _ _ _ h => h) (Or.inl ⟨by rfl, ?_⟩) HS5.out ?_
        rotate_left
        · intro w hw
          try dsimp only at hw
          go_simp
          try with_reducible rfl
        try simp only [Act.put, List.setIfInBounds_toArray, List.set_cons_zero, List.set_cons_succ]
        refine takeL (i := 7) (v := ?_) rfl (by kernel_rfl) (by kernel_rfl) (by kernel_rfl) (fun _ _ _ h => h) (Or.inl ⟨by rfl, ?_⟩) HS5.out ?_
        rotate_left
        · intro w hw
          try dsimp only at hw
          go_simp
          try with_reducible rfl
        try simp only [Act.put, List.setIfInBounds_toArray, List.set_cons_zero, List.set_cons_succ]
        refine takeL (i := 8) (v := ?_) rfl (by kernel_rfl) (by kernel_rfl) (by kernel_rfl) (fun _ _ _ h => h) (Or.inl ⟨by rfl, ?_⟩) HS5.out ?_
        rotate_left
        · intro w hw
          try dsimp only at hw
          go_simp
          try with_reducible rfl
        try simp only [Act.put, List.setIfInBounds_toArray, List.set_cons_zero, List.set_cons_succ]
        refine takeL (i := 9) (v := ?_) rfl (by kernel_rfl) (by kernel_rfl) (by kernel_rfl) (fun _ _ _ h => h) (Or.inl ⟨by rfl, ?_⟩) HS5.out ?_
        rotate_left
        · intro w hw
          try dsimp only at hw
          go_simp
          try with_reducible rfl
        try simp only [Act.put, List.setIfInBounds_toArray, List.set_cons_zero, List.set_cons_succ]
        refine takeL (i := 10) (v := ?_) rfl (by kernel_rfl) (by kernel_rfl) (by kernel_rfl) (fun _ _ _ h => h) (Or.inl ⟨by rfl, ?_⟩) HS5.out ?_
        rotate_left
        · intro w hw
          try dsimp only at hw
          go_simp
          try with_reducible rfl
        try simp only [Act.put, List.setIfInBounds_toArray, List.set_cons_zero, List.set_cons_succ]
        refine takeL (i := 11) (v := ?_) rfl (by kernel_rfl) (by kernel_rfl) (by kernel_rfl) (fun _ _ _ h => h) (Or.inl ⟨by rfl, ?_⟩) HS5.out ?_
        rotate_left
        · intro w hw
          try dsimp only at hw
          go_simp
          try with_reducible rfl
        try simp only [Act.put, List.setIfInBounds_toArray, List.set_cons_zero, List.set_cons_succ]
        refine takeL (i := 12) (v := .agg X.toArray) rfl (by kernel_rfl) (by kernel_rfl) (by kernel_rfl) (fun _ _ _ h => h) (Or.inl ⟨by rfl, fun wz hwz => exec_load_at wz 46 (.tmp 86) rfl (a.add (k * 34)) X _ Try.underlying46 rfl HSZ.out hwz (by go_simp)⟩) HS5.out ?_
        try simp only [Act.put, List.setIfInBounds_toArray, List.set_cons_zero, List.set_cons_succ]
        refine readyL (i := 13) rfl (by kernel_rfl) (by kernel_rfl) fun K hK => ?_
        go_simp
        refine (budget_ _).mono ?_
        rintro e w6 ⟨rfl, hb6⟩
        have B6 := Lib.hid (B5.out.trans (hb6.mono B5.out.size))
        have HS6 : Hid (∀ j u, X[j]? = some u → w6.cell? ((a.add (k * 34)).add j) = some u) := Lib.hid fun j u hu => (B6.out.cell (by rw [addr_block]; exact HAB.out)).trans (HKC.out j u hu)
        clear hb6
        refine hK.out _ _ HS6.out ?_
        clear hK K
        try simp only [Act.put, List.setIfInBounds_toArray, List.set_cons_zero, List.set_cons_succ]
        refine takeL (i := 14) (v := ?_) rfl (by kernel_rfl) (by kernel_rfl) (by kernel_rfl) (fun _ _ _ h => h) (Or.inl ⟨by rfl, ?_⟩) HS6.out ?_
        rotate_left
        · intro w hw
          try dsimp only at hw
          go_simp
          try with_reducible rfl
        try simp only [Act.put, List.setIfInBounds_toArray, List.set_cons_zero, List.set_cons_succ]
        refine takeL (i := 15) (v := ?_) rfl (by kernel_rfl) (by kernel_rfl) (by kernel_rfl) (fun _ _ _ h => h) (Or.inl ⟨by rfl, ?_⟩) HS6.out ?_
        rotate_left
        · intro w hw
          try dsimp only at hw
          go_simp
          try with_reducible rfl
        try simp only [Act.put, List.setIfInBounds_toArray, List.set_cons_zero, List.set_cons_succ]
        refine takeL (i := 16) (v := ?_) rfl (by kernel_rfl) (by kernel_rfl) (by kernel_rfl) (fun _ _ _ h => h) (Or.inl ⟨by rfl, ?_⟩) HS6.out ?_
        rotate_left
        · intro w hw
          try dsimp only at hw
          go_simp
          try with_reducible rfl
        try simp only [Act.put, List.setIfInBounds_toArray, List.set_cons_zero, List.set_cons_succ]
        refine wpAnyH_done (by kernel_rfl) ?_ _
        have d33 := (B6.out.cell (p := ⟨(a.add (k * 34)).block, (a.add (k * 34)).off + 33, none⟩) HAB.out).trans HD33.out
        have e0 := (B6.out.cell (p := ⟨gh, 0, none⟩) hgw).trans ((HB.out.cell (p := ⟨gh, 0, none⟩) HGH.out).trans E0.out)
        have e1 := (B6.out.cell (p := ⟨gh, 1, none⟩) hgw).trans ((HB.out.cell (p := ⟨gh, 1, none⟩) HGH.out).trans E1.out)
        have e2 := (B6.out.cell (p := ⟨gh, 2, none⟩) hgw).trans ((HB.out.cell (p := ⟨gh, 2, none⟩) HGH.out).trans E2.out)
        go_wp2_with fail
        go_roundw
        case rel =>
          refine ⟨k + 1, by omega, by go_num, ?_, ?_, ?_, HB.out.trans (B6.out.mono HB.out.size)⟩
          · rw [HQS.out, HF1.out]; go_num
          · rw [HQW.out, HF2.out]; go_num
          · rw [HQK.out, HF3.out, HKV.out, HRD.out]; go_num
        case measure => simp [intOf]; omega
      · have HKV : Hid (kn kk = false) := Lib.hid (by rw [HKN.out, decide_eq_false hk0, decide_eq_false hk3, Bool.or_false])
        rw [HKV.out] at hv
        simp only [Bool.not_true, Bool.not_false] at hv
        subst hv
        rw [decide_eq_false hk0] at N0
        rw [decide_eq_false hk3] at N3
        clear hk0 hk3
        go_wp2_with fail
        clear d32 d33 e0 e1 e2
        refine wp_region_held_drew (S := (fun V => ∀ j u, X[j]? = some u → V.cell? ((a.add (k * 34)).add j) = some u)) (by kernel_rfl) HKC.out (fun _ => ?_)
        have HS := Lib.hid (show ∀ j u, X[j]? = some u → wr.drew.cell? ((a.add (k * 34)).add j) = some u from HKC.out)
        have BD := Lib.hid (Below.refl wr.heap.size wr).drew
        refine takeL (i := 0) (v := ?_) rfl (by kernel_rfl) (by kernel_rfl) (by kernel_rfl) (fun _ _ _ h => h) (Or.inl ⟨by rfl, ?_⟩) HS.out ?_
        rotate_left
        · intro w hw
          try dsimp only at hw
          go_simp
          try with_reducible rfl
        try simp only [Act.put, List.setIfInBounds_toArray, List.set_cons_zero, List.set_cons_succ]
        refine takeL (i := 1) (v := ?_) rfl (by kernel_rfl) (by kernel_rfl) (by kernel_rfl) (fun _ _ _ h => h) (Or.inl ⟨by rfl, ?_⟩) HS.out ?_
        rotate_left
        · intro w hw
          try dsimp only at hw
          go_simp
          try with_reducible rfl
        try simp only [Act.put, List.setIfInBounds_toArray, List.set_cons_zero, List.set_cons_succ]
        refine takeL (i := 2) (v := ?_) rfl (by kernel_rfl) (by kernel_rfl) (by kernel_rfl) (fun _ _ _ h => h) (Or.inl ⟨by rfl, ?_⟩) HS.out ?_
        rotate_left
        · intro w hw
          try dsimp only at hw
          go_simp
          try with_reducible rfl
        try simp only [Act.put, List.setIfInBounds_toArray, List.set_cons_zero, List.set_cons_succ]
        refine takeL (i := 3) (v := ?_) rfl (by kernel_rfl) (by kernel_rfl) (by kernel_rfl) (fun _ _ _ h => h) (Or.inl ⟨by rfl, ?_⟩) HS.out ?_
        rotate_left
        · intro w hw
          try dsimp only at hw
          go_simp
          try with_reducible rfl
        try simp only [Act.put, List.setIfInBounds_toArray, List.set_cons_zero, List.set_cons_succ]
        refine takeL (i := 4) (v := .agg X.toArray) rfl (by kernel_rfl) (by kernel_rfl) (by kernel_rfl) (fun _ _ _ h => h) (Or.inl ⟨by rfl, fun wz hwz => exec_load_at wz 46 (.tmp 78) rfl (a.add (k * 34)) X _ Try.underlying46 rfl HSZ.out hwz (by go_simp)⟩) HS.out ?_
        try simp only [Act.put, List.setIfInBounds_toArray, List.set_cons_zero, List.set_cons_succ]
        refine readyL (i := 5) rfl (by kernel_rfl) (by kernel_rfl) fun K hK => ?_
        go_simp
        refine (system_ _).mono ?_
        rintro e w5 ⟨rfl, hb5⟩
        have B5 := Lib.hid (BD.out.trans hb5)
        have HS5 : Hid (∀ j u, X[j]? = some u → w5.cell? ((a.add (k * 34)).add j) = some u) := Lib.hid fun j u hu => (B5.out.cell (by rw [addr_block]; exact HAB.out)).trans (HKC.out j u hu)
        clear hb5
        refine hK.out _ _ HS5.out ?_
        clear hK K
        try simp only [Act.put, List.setIfInBounds_toArray, List.set_cons_zero, List.set_cons_succ]
        refine takeL (i := 6) (v := ?_) rfl (by kernel_rfl) (by kernel_rfl) (by kernel_rfl) (fun _ _ _ h => h) (Or.inl ⟨by rfl, ?_⟩) HS5.out ?_
        rotate_left
        · intro w hw
          try dsimp only at hw
          go_simp
          try with_reducible rfl
        try simp only [Act.put, List.setIfInBounds_toArray, List.set_cons_zero, List.set_cons_succ]
        refine takeL (i := 7) (v := ?_) rfl (by kernel_rfl) (by kernel_rfl) (by kernel_rfl) (fun _ _ _ h => h) (Or.inl ⟨by rfl, ?_⟩) HS5.out ?_
        rotate_left
        · intro w hw
          try dsimp only at hw
          go_simp
          try with_reducible rfl
        try simp only [Act.put, List.setIfInBounds_toArray, List.set_cons_zero, List.set_cons_succ]
        refine takeL (i := 8) (v := ?_) rfl (by kernel_rfl) (by kernel_rfl) (by kernel_rfl) (fun _ _ _ h => h) (Or.inl ⟨by rfl, ?_⟩) HS5.out ?_
        rotate_left
        · intro w hw
          try dsimp only at hw
          go_simp
          try with_reducible rfl
        try simp only [Act.put, List.setIfInBounds_toArray, List.set_cons_zero, List.set_cons_succ]
        refine takeL (i := 9) (v := ?_) rfl (by kernel_rfl) (by kernel_rfl) (by kernel_rfl) (fun _ _ _ h => h) (Or.inl ⟨by rfl, ?_⟩) HS5.out ?_
        rotate_left
        · intro w hw
          try dsimp only at hw
          go_simp
          try with_reducible rfl
        try simp only [Act.put, List.setIfInBounds_toArray, List.set_cons_zero, List.set_cons_succ]
        refine takeL (i := 10) (v := ?_) rfl (by kernel_rfl) (by kernel_rfl) (by kernel_rfl) (fun _ _ _ h => h) (Or.inl ⟨by rfl, ?_⟩) HS5.out ?_
        rotate_left
        · intro w hw
          try dsimp only at hw
          go_simp
          try with_reducible rfl
        try simp only [Act.put, List.setIfInBounds_toArray, List.set_cons_zero, List.set_cons_succ]
        refine takeL (i := 11) (v := ?_) rfl (by kernel_rfl) (by kernel_rfl) (by kernel_rfl) (fun _ _ _ h => h) (Or.inl ⟨by rfl, ?_⟩) HS5.out ?_
        rotate_left
        · intro w hw
          try dsimp only at hw
          go_simp
          try with_reducible rfl
        try simp only [Act.put, List.setIfInBounds_toArray, List.set_cons_zero, List.set_cons_succ]
        refine takeL (i := 12) (v := .agg X.toArray) rfl (by kernel_rfl) (by kernel_rfl) (by kernel_rfl) (fun _ _ _ h => h) (Or.inl ⟨by rfl, fun wz hwz => exec_load_at wz 46 (.tmp 86) rfl (a.add (k * 34)) X _ Try.underlying46 rfl HSZ.out hwz (by go_simp)⟩) HS5.out ?_
        try simp only [Act.put, List.setIfInBounds_toArray, List.set_cons_zero, List.set_cons_succ]
        refine readyL (i := 13) rfl (by kernel_rfl) (by kernel_rfl) fun K hK => ?_
        go_simp
        refine (budget_ _).mono ?_
        rintro e w6 ⟨rfl, hb6⟩
        have B6 := Lib.hid (B5.out.trans (hb6.mono B5.out.size))
        have HS6 : Hid (∀ j u, X[j]? = some u → w6.cell? ((a.add (k * 34)).add j) = some u) := Lib.hid fun j u hu => (B6.out.cell (by rw [addr_block]; exact HAB.out)).trans (HKC.out j u hu)
        clear hb6
        refine hK.out _ _ HS6.out ?_
        clear hK K
        try simp only [Act.put, List.setIfInBounds_toArray, List.set_cons_zero, List.set_cons_succ]
        refine takeL (i := 14) (v := ?_) rfl (by kernel_rfl) (by kernel_rfl) (by kernel_rfl) (fun _ _ _ h => h) (Or.inl ⟨by rfl, ?_⟩) HS6.out ?_
        rotate_left
        · intro w hw
          try dsimp only at hw
          go_simp
          try with_reducible rfl
        try simp only [Act.put, List.setIfInBounds_toArray, List.set_cons_zero, List.set_cons_succ]
        refine takeL (i := 15) (v := ?_) rfl (by kernel_rfl) (by kernel_rfl) (by kernel_rfl) (fun _ _ _ h => h) (Or.inl ⟨by rfl, ?_⟩) HS6.out ?_
        rotate_left
        · intro w hw
          try dsimp only at hw
          go_simp
          try with_reducible rfl
        try simp only [Act.put, List.setIfInBounds_toArray, List.set_cons_zero, List.set_cons_succ]
        refine takeL (i := 16) (v := ?_) rfl (by kernel_rfl) (by kernel_rfl) (by kernel_rfl) (fun _ _ _ h => h) (Or.inl ⟨by rfl, ?_⟩) HS6.out ?_
        rotate_left
        · intro w hw
          try dsimp only at hw
          go_simp
          try with_reducible rfl
        try simp only [Act.put, List.setIfInBounds_toArray, List.set_cons_zero, List.set_cons_succ]
        refine wpAnyH_done (by kernel_rfl) ?_ _
        have d33 := (B6.out.cell (p := ⟨(a.add (k * 34)).block, (a.add (k * 34)).off + 33, none⟩) HAB.out).trans HD33.out
        have e0 := (B6.out.cell (p := ⟨gh, 0, none⟩) hgw).trans ((HB.out.cell (p := ⟨gh, 0, none⟩) HGH.out).trans E0.out)
        have e1 := (B6.out.cell (p := ⟨gh, 1, none⟩) hgw).trans ((HB.out.cell (p := ⟨gh, 1, none⟩) HGH.out).trans E1.out)
        have e2 := (B6.out.cell (p := ⟨gh, 2, none⟩) hgw).trans ((HB.out.cell (p := ⟨gh, 2, none⟩) HGH.out).trans E2.out)
        go_wp2_with fail
        go_roundw
        case rel =>
          refine ⟨k + 1, by omega, by go_num, ?_, ?_, ?_, HB.out.trans (B6.out.mono HB.out.size)⟩
          · rw [HQS.out, HF1.out]; go_num
          · rw [HQW.out, HF2.out]; go_num
          · rw [HQK.out, HF3.out, HKV.out, HRD.out]; go_num
        case measure => simp [intOf]; omega
    · subst hs
      have HRD : Hid (rdB s r o n xn k = true) := Lib.hid (by simp only [rdB, Bool.or_eq_true, Bool.and_eq_true, decide_eq_true_iff]; omega)
      have q1 : decide ((k : Int) < s) = false := decide_eq_false (by omega)
      have q3 : (k : Int) < n := by omega
      have q4 : (n : Int) - o ≤ (k : Int) := by omega
      by_cases hk0 : kk = k0
      · have HKV : Hid (kn kk = true) := Lib.hid (by rw [HKN.out, decide_eq_true hk0, Bool.true_or])
        subst hv
        rw [decide_eq_true hk0] at N0
        clear hk0 N3
        go_wp2_with fail
        clear d32 d33 e0 e1 e2
        refine wp_region_held_drew (S := (fun V => ∀ j u, X[j]? = some u → V.cell? ((a.add (k * 34)).add j) = some u)) (by kernel_rfl) HKC.out (fun _ => ?_)
        have HS := Lib.hid (show ∀ j u, X[j]? = some u → wr.drew.cell? ((a.add (k * 34)).add j) = some u from HKC.out)
        have BD := Lib.hid (Below.refl wr.heap.size wr).drew
        refine takeL (i := 0) (v := ?_) rfl (by kernel_rfl) (by kernel_rfl) (by kernel_rfl) (fun _ _ _ h => h) (Or.inl ⟨by rfl, ?_⟩) HS.out ?_
        rotate_left
        · intro w hw
          try dsimp only at hw
          go_simp
          try with_reducible rfl
        try simp only [Act.put, List.setIfInBounds_toArray, List.set_cons_zero, List.set_cons_succ]
        refine takeL (i := 1) (v := ?_) rfl (by kernel_rfl) (by kernel_rfl) (by kernel_rfl) (fun _ _ _ h => h) (Or.inl ⟨by rfl, ?_⟩) HS.out ?_
        rotate_left
        · intro w hw
          try dsimp only at hw
          go_simp
          try with_reducible rfl
        try simp only [Act.put, List.setIfInBounds_toArray, List.set_cons_zero, List.set_cons_succ]
        refine takeL (i := 2) (v := ?_) rfl (by kernel_rfl) (by kernel_rfl) (by kernel_rfl) (fun _ _ _ h => h) (Or.inl ⟨by rfl, ?_⟩) HS.out ?_
        rotate_left
        · intro w hw
          try dsimp only at hw
          go_simp
          try with_reducible rfl
        try simp only [Act.put, List.setIfInBounds_toArray, List.set_cons_zero, List.set_cons_succ]
        refine takeL (i := 3) (v := ?_) rfl (by kernel_rfl) (by kernel_rfl) (by kernel_rfl) (fun _ _ _ h => h) (Or.inl ⟨by rfl, ?_⟩) HS.out ?_
        rotate_left
        · intro w hw
          try dsimp only at hw
          go_simp
          try with_reducible rfl
        try simp only [Act.put, List.setIfInBounds_toArray, List.set_cons_zero, List.set_cons_succ]
        refine takeL (i := 4) (v := .agg X.toArray) rfl (by kernel_rfl) (by kernel_rfl) (by kernel_rfl) (fun _ _ _ h => h) (Or.inl ⟨by rfl, fun wz hwz => exec_load_at wz 46 (.tmp 78) rfl (a.add (k * 34)) X _ Try.underlying46 rfl HSZ.out hwz (by go_simp)⟩) HS.out ?_
        try simp only [Act.put, List.setIfInBounds_toArray, List.set_cons_zero, List.set_cons_succ]
        refine readyL (i := 5) rfl (by kernel_rfl) (by kernel_rfl) fun K hK => ?_
        go_simp
        refine (system_ _).mono ?_
        rintro e w5 ⟨rfl, hb5⟩
        have B5 := Lib.hid (BD.out.trans hb5)
        have HS5 : Hid (∀ j u, X[j]? = some u → w5.cell? ((a.add (k * 34)).add j) = some u) := Lib.hid fun j u hu => (B5.out.cell (by rw [addr_block]; exact HAB.out)).trans (HKC.out j u hu)
        clear hb5
        refine hK.out _ _ HS5.out ?_
        clear hK K
        try simp only [Act.put, List.setIfInBounds_toArray, List.set_cons_zero, List.set_cons_succ]
        refine takeL (i := 6) (v := ?_) rfl (by kernel_rfl) (by kernel_rfl) (by kernel_rfl) (fun _ _ _ h => h) (Or.inl ⟨by rfl, ?_⟩) HS5.out ?_
        rotate_left
        · intro w hw
          try dsimp only at hw
          go_simp
          try with_reducible rfl
        try simp only [Act.put, List.setIfInBounds_toArray, List.set_cons_zero, List.set_cons_succ]
        refine takeL (i := 7) (v := ?_) rfl (by kernel_rfl) (by kernel_rfl) (by kernel_rfl) (fun _ _ _ h => h) (Or.inl ⟨by rfl, ?_⟩) HS5.out ?_
        rotate_left
        · intro w hw
          try dsimp only at hw
          go_simp
          try with_reducible rfl
        try simp only [Act.put, List.setIfInBounds_toArray, List.set_cons_zero, List.set_cons_succ]
        refine takeL (i := 8) (v := undef) rfl (by kernel_rfl) (by kernel_rfl) (by kernel_rfl) (fun _ _ _ h => h) (Or.inr ⟨by rfl, rfl⟩) HS5.out ?_
        try simp only [Act.put, List.setIfInBounds_toArray, List.set_cons_zero, List.set_cons_succ]
        refine takeL (i := 9) (v := undef) rfl (by kernel_rfl) (by kernel_rfl) (by kernel_rfl) (fun _ _ _ h => h) (Or.inr ⟨by rfl, rfl⟩) HS5.out ?_
        try simp only [Act.put, List.setIfInBounds_toArray, List.set_cons_zero, List.set_cons_succ]
        refine takeL (i := 10) (v := undef) rfl (by kernel_rfl) (by kernel_rfl) (by kernel_rfl) (fun _ _ _ h => h) (Or.inr ⟨by rfl, rfl⟩) HS5.out ?_
        try simp only [Act.put, List.setIfInBounds_toArray, List.set_cons_zero, List.set_cons_succ]
        refine takeL (i := 11) (v := undef) rfl (by kernel_rfl) (by kernel_rfl) (by kernel_rfl) (fun _ _ _ h => h) (Or.inr ⟨by rfl, rfl⟩) HS5.out ?_
        try simp only [Act.put, List.setIfInBounds_toArray, List.set_cons_zero, List.set_cons_succ]
        refine takeL (i := 12) (v := undef) rfl (by kernel_rfl) (by kernel_rfl) (by kernel_rfl) (fun _ _ _ h => h) (Or.inr ⟨by rfl, rfl⟩) HS5.out ?_
        try simp only [Act.put, List.setIfInBounds_toArray, List.set_cons_zero, List.set_cons_succ]
        refine takeL (i := 13) (v := undef) rfl (by kernel_rfl) (by kernel_rfl) (by kernel_rfl) (fun _ _ _ h => h) (Or.inr ⟨by rfl, rfl⟩) HS5.out ?_
        try simp only [Act.put, List.setIfInBounds_toArray, List.set_cons_zero, List.set_cons_succ]
        refine takeL (i := 14) (v := undef) rfl (by kernel_rfl) (by kernel_rfl) (by kernel_rfl) (fun _ _ _ h => h) (Or.inr ⟨by rfl, rfl⟩) HS5.out ?_
        try simp only [Act.put, List.setIfInBounds_toArray, List.set_cons_zero, List.set_cons_succ]
        refine takeL (i := 15) (v := ?_) rfl (by kernel_rfl) (by kernel_rfl) (by kernel_rfl) (fun _ _ _ h => h) (Or.inl ⟨by rfl, ?_⟩) HS5.out ?_
        rotate_left
        · intro w hw
          try dsimp only at hw
          go_simp
          try with_reducible rfl
        try simp only [Act.put, List.setIfInBounds_toArray, List.set_cons_zero, List.set_cons_succ]
        refine takeL (i := 16) (v := ?_) rfl (by kernel_rfl) (by kernel_rfl) (by kernel_rfl) (fun _ _ _ h => h) (Or.inl ⟨by rfl, ?_⟩) HS5.out ?_
        rotate_left
        · intro w hw
          try dsimp only at hw
          go_simp
          try with_reducible rfl
        try simp only [Act.put, List.setIfInBounds_toArray, List.set_cons_zero, List.set_cons_succ]
        refine wpAnyH_done (by kernel_rfl) ?_ _
        have d33 := (B5.out.cell (p := ⟨(a.add (k * 34)).block, (a.add (k * 34)).off + 33, none⟩) HAB.out).trans HD33.out
        have e0 := (B5.out.cell (p := ⟨gh, 0, none⟩) hgw).trans ((HB.out.cell (p := ⟨gh, 0, none⟩) HGH.out).trans E0.out)
        have e1 := (B5.out.cell (p := ⟨gh, 1, none⟩) hgw).trans ((HB.out.cell (p := ⟨gh, 1, none⟩) HGH.out).trans E1.out)
        have e2 := (B5.out.cell (p := ⟨gh, 2, none⟩) hgw).trans ((HB.out.cell (p := ⟨gh, 2, none⟩) HGH.out).trans E2.out)
        go_wp2_with fail
        go_roundw
        case rel =>
          refine ⟨k + 1, by omega, by go_num, ?_, ?_, ?_, HB.out.trans (B5.out.mono HB.out.size)⟩
          · rw [HQS.out, HF1.out]; go_num
          · rw [HQW.out, HF2.out]; go_num
          · rw [HQK.out, HF3.out, HKV.out, HRD.out]; go_num
        case measure => simp [intOf]; omega
      by_cases hk3 : kk = k3
      · have HKV : Hid (kn kk = true) := Lib.hid (by rw [HKN.out, decide_eq_true hk3, Bool.or_true])
        subst hv
        rw [decide_eq_false hk0] at N0
        rw [decide_eq_true hk3] at N3
        clear hk0 hk3
        go_wp2_with fail
        clear d32 d33 e0 e1 e2
        refine wp_region_held_drew (S := (fun V => ∀ j u, X[j]? = some u → V.cell? ((a.add (k * 34)).add j) = some u)) (by kernel_rfl) HKC.out (fun _ => ?_)
        have HS := Lib.hid (show ∀ j u, X[j]? = some u → wr.drew.cell? ((a.add (k * 34)).add j) = some u from HKC.out)
        have BD := Lib.hid (Below.refl wr.heap.size wr).drew
        refine takeL (i := 0) (v := ?_) rfl (by kernel_rfl) (by kernel_rfl) (by kernel_rfl) (fun _ _ _ h => h) (Or.inl ⟨by rfl, ?_⟩) HS.out ?_
        rotate_left
        · intro w hw
          try dsimp only at hw
          go_simp
          try with_reducible rfl
        try simp only [Act.put, List.setIfInBounds_toArray, List.set_cons_zero, List.set_cons_succ]
        refine takeL (i := 1) (v := ?_) rfl (by kernel_rfl) (by kernel_rfl) (by kernel_rfl) (fun _ _ _ h => h) (Or.inl ⟨by rfl, ?_⟩) HS.out ?_
        rotate_left
        · intro w hw
          try dsimp only at hw
          go_simp
          try with_reducible rfl
        try simp only [Act.put, List.setIfInBounds_toArray, List.set_cons_zero, List.set_cons_succ]
        refine takeL (i := 2) (v := ?_) rfl (by kernel_rfl) (by kernel_rfl) (by kernel_rfl) (fun _ _ _ h => h) (Or.inl ⟨by rfl, ?_⟩) HS.out ?_
        rotate_left
        · intro w hw
          try dsimp only at hw
          go_simp
          try with_reducible rfl
        try simp only [Act.put, List.setIfInBounds_toArray, List.set_cons_zero, List.set_cons_succ]
        refine takeL (i := 3) (v := ?_) rfl (by kernel_rfl) (by kernel_rfl) (by kernel_rfl) (fun _ _ _ h => h) (Or.inl ⟨by rfl, ?_⟩) HS.out ?_
        rotate_left
        · intro w hw
          try dsimp only at hw
          go_simp
          try with_reducible rfl
        try simp only [Act.put, List.setIfInBounds_toArray, List.set_cons_zero, List.set_cons_succ]
        refine takeL (i := 4) (v := .agg X.toArray) rfl (by kernel_rfl) (by kernel_rfl) (by kernel_rfl) (fun _ _ _ h => h) (Or.inl ⟨by rfl, fun wz hwz => exec_load_at wz 46 (.tmp 78) rfl (a.add (k * 34)) X _ Try.underlying46 rfl HSZ.out hwz (by go_simp)⟩) HS.out ?_
        try simp only [Act.put, List.setIfInBounds_toArray, List.set_cons_zero, List.set_cons_succ]
        refine readyL (i := 5) rfl (by kernel_rfl) (by kernel_rfl) fun K hK => ?_
        go_simp
        refine (system_ _).mono ?_
        rintro e w5 ⟨rfl, hb5⟩
        have B5 := Lib.hid (BD.out.trans hb5)
        have HS5 : Hid (∀ j u, X[j]? = some u → w5.cell? ((a.add (k * 34)).add j) = some u) := Lib.hid fun j u hu => (B5.out.cell (by rw [addr_block]; exact HAB.out)).trans (HKC.out j u hu)
        clear hb5
        refine hK.out _ _ HS5.out ?_
        clear hK K
        try simp only [Act.put, List.setIfInBounds_toArray, List.set_cons_zero, List.set_cons_succ]
        refine takeL (i := 6) (v := ?_) rfl (by kernel_rfl) (by kernel_rfl) (by kernel_rfl) (fun _ _ _ h => h) (Or.inl ⟨by rfl, ?_⟩) HS5.out ?_
        rotate_left
        · intro w hw
          try dsimp only at hw
          go_simp
          try with_reducible rfl
        try simp only [Act.put, List.setIfInBounds_toArray, List.set_cons_zero, List.set_cons_succ]
        refine takeL (i := 7) (v := ?_) rfl (by kernel_rfl) (by kernel_rfl) (by kernel_rfl) (fun _ _ _ h => h) (Or.inl ⟨by rfl, ?_⟩) HS5.out ?_
        rotate_left
        · intro w hw
          try dsimp only at hw
          go_simp
          try with_reducible rfl
        try simp only [Act.put, List.setIfInBounds_toArray, List.set_cons_zero, List.set_cons_succ]
        refine takeL (i := 8) (v := ?_) rfl (by kernel_rfl) (by kernel_rfl) (by kernel_rfl) (fun _ _ _ h => h) (Or.inl ⟨by rfl, ?_⟩) HS5.out ?_
        rotate_left
        · intro w hw
          try dsimp only at hw
          go_simp
          try with_reducible rfl
        try simp only [Act.put, List.setIfInBounds_toArray, List.set_cons_zero, List.set_cons_succ]
        refine takeL (i := 9) (v := ?_) rfl (by kernel_rfl) (by kernel_rfl) (by kernel_rfl) (fun _ _ _ h => h) (Or.inl ⟨by rfl, ?_⟩) HS5.out ?_
        rotate_left
        · intro w hw
          try dsimp only at hw
          go_simp
          try with_reducible rfl
        try simp only [Act.put, List.setIfInBounds_toArray, List.set_cons_zero, List.set_cons_succ]
        refine takeL (i := 10) (v := ?_) rfl (by kernel_rfl) (by kernel_rfl) (by kernel_rfl) (fun _ _ _ h => h) (Or.inl ⟨by rfl, ?_⟩) HS5.out ?_
        rotate_left
        · intro w hw
          try dsimp only at hw
          go_simp
          try with_reducible rfl
        try simp only [Act.put, List.setIfInBounds_toArray, List.set_cons_zero, List.set_cons_succ]
        refine takeL (i := 11) (v := ?_) rfl (by kernel_rfl) (by kernel_rfl) (by kernel_rfl) (fun _ _ _ h => h) (Or.inl ⟨by rfl, ?_⟩) HS5.out ?_
        rotate_left
        · intro w hw
          try dsimp only at hw
          go_simp
          try with_reducible rfl
        try simp only [Act.put, List.setIfInBounds_toArray, List.set_cons_zero, List.set_cons_succ]
        refine takeL (i := 12) (v := .agg X.toArray) rfl (by kernel_rfl) (by kernel_rfl) (by kernel_rfl) (fun _ _ _ h => h) (Or.inl ⟨by rfl, fun wz hwz => exec_load_at wz 46 (.tmp 86) rfl (a.add (k * 34)) X _ Try.underlying46 rfl HSZ.out hwz (by go_simp)⟩) HS5.out ?_
        try simp only [Act.put, List.setIfInBounds_toArray, List.set_cons_zero, List.set_cons_succ]
        refine readyL (i := 13) rfl (by kernel_rfl) (by kernel_rfl) fun K hK => ?_
        go_simp
        refine (budget_ _).mono ?_
        rintro e w6 ⟨rfl, hb6⟩
        have B6 := Lib.hid (B5.out.trans (hb6.mono B5.out.size))
        have HS6 : Hid (∀ j u, X[j]? = some u → w6.cell? ((a.add (k * 34)).add j) = some u) := Lib.hid fun j u hu => (B6.out.cell (by rw [addr_block]; exact HAB.out)).trans (HKC.out j u hu)
        clear hb6
        refine hK.out _ _ HS6.out ?_
        clear hK K
        try simp only [Act.put, List.setIfInBounds_toArray, List.set_cons_zero, List.set_cons_succ]
        refine takeL (i := 14) (v := ?_) rfl (by kernel_rfl) (by kernel_rfl) (by kernel_rfl) (fun _ _ _ h => h) (Or.inl ⟨by rfl, ?_⟩) HS6.out ?_
        rotate_left
        · intro w hw
          try dsimp only at hw
          go_simp
          try with_reducible rfl
        try simp only [Act.put, List.setIfInBounds_toArray, List.set_cons_zero, List.set_cons_succ]
        refine takeL (i := 15) (v := ?_) rfl (by kernel_rfl) (by kernel_rfl) (by kernel_rfl) (fun _ _ _ h => h) (Or.inl ⟨by rfl, ?_⟩) HS6.out ?_
        rotate_left
        · intro w hw
          try dsimp only at hw
          go_simp
          try with_reducible rfl
        try simp only [Act.put, List.setIfInBounds_toArray, List.set_cons_zero, List.set_cons_succ]
        refine takeL (i := 16) (v := ?_) rfl (by kernel_rfl) (by kernel_rfl) (by kernel_rfl) (fun _ _ _ h => h) (Or.inl ⟨by rfl, ?_⟩) HS6.out ?_
        rotate_left
        · intro w hw
          try dsimp only at hw
          go_simp
          try with_reducible rfl
        try simp only [Act.put, List.setIfInBounds_toArray, List.set_cons_zero, List.set_cons_succ]
        refine wpAnyH_done (by kernel_rfl) ?_ _
        have d33 := (B6.out.cell (p := ⟨(a.add (k * 34)).block, (a.add (k * 34)).off + 33, none⟩) HAB.out).trans HD33.out
        have e0 := (B6.out.cell (p := ⟨gh, 0, none⟩) hgw).trans ((HB.out.cell (p := ⟨gh, 0, none⟩) HGH.out).trans E0.out)
        have e1 := (B6.out.cell (p := ⟨gh, 1, none⟩) hgw).trans ((HB.out.cell (p := ⟨gh, 1, none⟩) HGH.out).trans E1.out)
        have e2 := (B6.out.cell (p := ⟨gh, 2, none⟩) hgw).trans ((HB.out.cell (p := ⟨gh, 2, none⟩) HGH.out).trans E2.out)
        go_wp2_with fail
        go_roundw
        case rel =>
          refine ⟨k + 1, by omega, by go_num, ?_, ?_, ?_, HB.out.trans (B6.out.mono HB.out.size)⟩
          · rw [HQS.out, HF1.out]; go_num
          · rw [HQW.out, HF2.out]; go_num
          · rw [HQK.out, HF3.out, HKV.out, HRD.out]; go_num
        case measure => simp [intOf]; omega
      · have HKV : Hid (kn kk = false) := Lib.hid (by rw [HKN.out, decide_eq_false hk0, decide_eq_false hk3, Bool.or_false])
        subst hv
        rw [decide_eq_false hk0] at N0
        rw [decide_eq_false hk3] at N3
        clear hk0 hk3
        go_wp2_with fail
        clear d32 d33 e0 e1 e2
        refine wp_region_held_drew (S := (fun V => ∀ j u, X[j]? = some u → V.cell? ((a.add (k * 34)).add j) = some u)) (by kernel_rfl) HKC.out (fun _ => ?_)
        have HS := Lib.hid (show ∀ j u, X[j]? = some u → wr.drew.cell? ((a.add (k * 34)).add j) = some u from HKC.out)
        have BD := Lib.hid (Below.refl wr.heap.size wr).drew
        refine takeL (i := 0) (v := ?_) rfl (by kernel_rfl) (by kernel_rfl) (by kernel_rfl) (fun _ _ _ h => h) (Or.inl ⟨by rfl, ?_⟩) HS.out ?_
        rotate_left
        · intro w hw
          try dsimp only at hw
          go_simp
          try with_reducible rfl
        try simp only [Act.put, List.setIfInBounds_toArray, List.set_cons_zero, List.set_cons_succ]
        refine takeL (i := 1) (v := ?_) rfl (by kernel_rfl) (by kernel_rfl) (by kernel_rfl) (fun _ _ _ h => h) (Or.inl ⟨by rfl, ?_⟩) HS.out ?_
        rotate_left
        · intro w hw
          try dsimp only at hw
          go_simp
          try with_reducible rfl
        try simp only [Act.put, List.setIfInBounds_toArray, List.set_cons_zero, List.set_cons_succ]
        refine takeL (i := 2) (v := ?_) rfl (by kernel_rfl) (by kernel_rfl) (by kernel_rfl) (fun _ _ _ h => h) (Or.inl ⟨by rfl, ?_⟩) HS.out ?_
        rotate_left
        · intro w hw
          try dsimp only at hw
          go_simp
          try with_reducible rfl
        try simp only [Act.put, List.setIfInBounds_toArray, List.set_cons_zero, List.set_cons_succ]
        refine takeL (i := 3) (v := ?_) rfl (by kernel_rfl) (by kernel_rfl) (by kernel_rfl) (fun _ _ _ h => h) (Or.inl ⟨by rfl, ?_⟩) HS.out ?_
        rotate_left
        · intro w hw
          try dsimp only at hw
          go_simp
          try with_reducible rfl
        try simp only [Act.put, List.setIfInBounds_toArray, List.set_cons_zero, List.set_cons_succ]
        refine takeL (i := 4) (v := .agg X.toArray) rfl (by kernel_rfl) (by kernel_rfl) (by kernel_rfl) (fun _ _ _ h => h) (Or.inl ⟨by rfl, fun wz hwz => exec_load_at wz 46 (.tmp 78) rfl (a.add (k * 34)) X _ Try.underlying46 rfl HSZ.out hwz (by go_simp)⟩) HS.out ?_
        try simp only [Act.put, List.setIfInBounds_toArray, List.set_cons_zero, List.set_cons_succ]
        refine readyL (i := 5) rfl (by kernel_rfl) (by kernel_rfl) fun K hK => ?_
        go_simp
        refine (system_ _).mono ?_
        rintro e w5 ⟨rfl, hb5⟩
        have B5 := Lib.hid (BD.out.trans hb5)
        have HS5 : Hid (∀ j u, X[j]? = some u → w5.cell? ((a.add (k * 34)).add j) = some u) := Lib.hid fun j u hu => (B5.out.cell (by rw [addr_block]; exact HAB.out)).trans (HKC.out j u hu)
        clear hb5
        refine hK.out _ _ HS5.out ?_
        clear hK K
        try simp only [Act.put, List.setIfInBounds_toArray, List.set_cons_zero, List.set_cons_succ]
        refine takeL (i := 6) (v := ?_) rfl (by kernel_rfl) (by kernel_rfl) (by kernel_rfl) (fun _ _ _ h => h) (Or.inl ⟨by rfl, ?_⟩) HS5.out ?_
        rotate_left
        · intro w hw
          try dsimp only at hw
          go_simp
          try with_reducible rfl
        try simp only [Act.put, List.setIfInBounds_toArray, List.set_cons_zero, List.set_cons_succ]
        refine takeL (i := 7) (v := ?_) rfl (by kernel_rfl) (by kernel_rfl) (by kernel_rfl) (fun _ _ _ h => h) (Or.inl ⟨by rfl, ?_⟩) HS5.out ?_
        rotate_left
        · intro w hw
          try dsimp only at hw
          go_simp
          try with_reducible rfl
        try simp only [Act.put, List.setIfInBounds_toArray, List.set_cons_zero, List.set_cons_succ]
        refine takeL (i := 8) (v := ?_) rfl (by kernel_rfl) (by kernel_rfl) (by kernel_rfl) (fun _ _ _ h => h) (Or.inl ⟨by rfl, ?_⟩) HS5.out ?_
        rotate_left
        · intro w hw
          try dsimp only at hw
          go_simp
          try with_reducible rfl
        try simp only [Act.put, List.setIfInBounds_toArray, List.set_cons_zero, List.set_cons_succ]
        refine takeL (i := 9) (v := ?_) rfl (by kernel_rfl) (by kernel_rfl) (by kernel_rfl) (fun _ _ _ h => h) (Or.inl ⟨by rfl, ?_⟩) HS5.out ?_
        rotate_left
        · intro w hw
          try dsimp only at hw
          go_simp
          try with_reducible rfl
        try simp only [Act.put, List.setIfInBounds_toArray, List.set_cons_zero, List.set_cons_succ]
        refine takeL (i := 10) (v := ?_) rfl (by kernel_rfl) (by kernel_rfl) (by kernel_rfl) (fun _ _ _ h => h) (Or.inl ⟨by rfl, ?_⟩) HS5.out ?_
        rotate_left
        · intro w hw
          try dsimp only at hw
          go_simp
          try with_reducible rfl
        try simp only [Act.put, List.setIfInBounds_toArray, List.set_cons_zero, List.set_cons_succ]
        refine takeL (i := 11) (v := ?_) rfl (by kernel_rfl) (by kernel_rfl) (by kernel_rfl) (fun _ _ _ h => h) (Or.inl ⟨by rfl, ?_⟩) HS5.out ?_
        rotate_left
        · intro w hw
          try dsimp only at hw
          go_simp
          try with_reducible rfl
        try simp only [Act.put, List.setIfInBounds_toArray, List.set_cons_zero, List.set_cons_succ]
        refine takeL (i := 12) (v := .agg X.toArray) rfl (by kernel_rfl) (by kernel_rfl) (by kernel_rfl) (fun _ _ _ h => h) (Or.inl ⟨by rfl, fun wz hwz => exec_load_at wz 46 (.tmp 86) rfl (a.add (k * 34)) X _ Try.underlying46 rfl HSZ.out hwz (by go_simp)⟩) HS5.out ?_
        try simp only [Act.put, List.setIfInBounds_toArray, List.set_cons_zero, List.set_cons_succ]
        refine readyL (i := 13) rfl (by kernel_rfl) (by kernel_rfl) fun K hK => ?_
        go_simp
        refine (budget_ _).mono ?_
        rintro e w6 ⟨rfl, hb6⟩
        have B6 := Lib.hid (B5.out.trans (hb6.mono B5.out.size))
        have HS6 : Hid (∀ j u, X[j]? = some u → w6.cell? ((a.add (k * 34)).add j) = some u) := Lib.hid fun j u hu => (B6.out.cell (by rw [addr_block]; exact HAB.out)).trans (HKC.out j u hu)
        clear hb6
        refine hK.out _ _ HS6.out ?_
        clear hK K
        try simp only [Act.put, List.setIfInBounds_toArray, List.set_cons_zero, List.set_cons_succ]
        refine takeL (i := 14) (v := ?_) rfl (by kernel_rfl) (by kernel_rfl) (by kernel_rfl) (fun _ _ _ h => h) (Or.inl ⟨by rfl, ?_⟩) HS6.out ?_
        rotate_left
        · intro w hw
          try dsimp only at hw
          go_simp
          try with_reducible rfl
        try simp only [Act.put, List.setIfInBounds_toArray, List.set_cons_zero, List.set_cons_succ]
        refine takeL (i := 15) (v := ?_) rfl (by kernel_rfl) (by kernel_rfl) (by kernel_rfl) (fun _ _ _ h => h) (Or.inl ⟨by rfl, ?_⟩) HS6.out ?_
        rotate_left
        · intro w hw
          try dsimp only at hw
          go_simp
          try with_reducible rfl
        try simp only [Act.put, List.setIfInBounds_toArray, List.set_cons_zero, List.set_cons_succ]
        refine takeL (i := 16) (v := ?_) rfl (by kernel_rfl) (by kernel_rfl) (by kernel_rfl) (fun _ _ _ h => h) (Or.inl ⟨by rfl, ?_⟩) HS6.out ?_
        rotate_left
        · intro w hw
          try dsimp only at hw
          go_simp
          try with_reducible rfl
        try simp only [Act.put, List.setIfInBounds_toArray, List.set_cons_zero, List.set_cons_succ]
        refine wpAnyH_done (by kernel_rfl) ?_ _
        have d33 := (B6.out.cell (p := ⟨(a.add (k * 34)).block, (a.add (k * 34)).off + 33, none⟩) HAB.out).trans HD33.out
        have e0 := (B6.out.cell (p := ⟨gh, 0, none⟩) hgw).trans ((HB.out.cell (p := ⟨gh, 0, none⟩) HGH.out).trans E0.out)
        have e1 := (B6.out.cell (p := ⟨gh, 1, none⟩) hgw).trans ((HB.out.cell (p := ⟨gh, 1, none⟩) HGH.out).trans E1.out)
        have e2 := (B6.out.cell (p := ⟨gh, 2, none⟩) hgw).trans ((HB.out.cell (p := ⟨gh, 2, none⟩) HGH.out).trans E2.out)
        go_wp2_with fail
        go_roundw
        case rel =>
          refine ⟨k + 1, by omega, by go_num, ?_, ?_, ?_, HB.out.trans (B6.out.mono HB.out.size)⟩
          · rw [HQS.out, HF1.out]; go_num
          · rw [HQW.out, HF2.out]; go_num
          · rw [HQK.out, HF3.out, HKV.out, HRD.out]; go_num
        case measure => simp [intOf]; omega
    · subst hs
      have HRD : Hid (rdB s r o n xn k = false) := Lib.hid (by simp only [rdB, Bool.or_eq_false_iff, Bool.and_eq_false_iff, decide_eq_false_iff_not]; omega)
      have q1 : decide ((k : Int) < s) = false := decide_eq_false (by omega)
      have q3 : decide ((k : Int) < (n : Int)) = false := decide_eq_false (by omega)
      have q5 : decide ((n : Int) + (xn : Int) ≤ (k : Int)) = false := decide_eq_false (by omega)
      by_cases hk0 : kk = k0
      · have HKV : Hid (kn kk = true) := Lib.hid (by rw [HKN.out, decide_eq_true hk0, Bool.true_or])
        rw [HKV.out] at hv
        simp only [Bool.not_true, Bool.not_false] at hv
        subst hv
        rw [decide_eq_true hk0] at N0
        clear hk0 N3
        go_wp2_with fail
        clear d32 d33 e0 e1 e2
        refine wp_region_held_drew (S := (fun V => ∀ j u, X[j]? = some u → V.cell? ((a.add (k * 34)).add j) = some u)) (by kernel_rfl) HKC.out (fun _ => ?_)
        have HS := Lib.hid (show ∀ j u, X[j]? = some u → wr.drew.cell? ((a.add (k * 34)).add j) = some u from HKC.out)
        have BD := Lib.hid (Below.refl wr.heap.size wr).drew
        refine takeL (i := 0) (v := ?_) rfl (by kernel_rfl) (by kernel_rfl) (by kernel_rfl) (fun _ _ _ h => h) (Or.inl ⟨by rfl, ?_⟩) HS.out ?_
        rotate_left
        · intro w hw
          try dsimp only at hw
          go_simp
          try with_reducible rfl
        try simp only [Act.put, List.setIfInBounds_toArray, List.set_cons_zero, List.set_cons_succ]
        refine takeL (i := 1) (v := ?_) rfl (by kernel_rfl) (by kernel_rfl) (by kernel_rfl) (fun _ _ _ h => h) (Or.inl ⟨by rfl, ?_⟩) HS.out ?_
        rotate_left
        · intro w hw
          try dsimp only at hw
          go_simp
          try with_reducible rfl
        try simp only [Act.put, List.setIfInBounds_toArray, List.set_cons_zero, List.set_cons_succ]
        refine takeL (i := 2) (v := ?_) rfl (by kernel_rfl) (by kernel_rfl) (by kernel_rfl) (fun _ _ _ h => h) (Or.inl ⟨by rfl, ?_⟩) HS.out ?_
        rotate_left
        · intro w hw
          try dsimp only at hw
          go_simp
          try with_reducible rfl
        try simp only [Act.put, List.setIfInBounds_toArray, List.set_cons_zero, List.set_cons_succ]
        refine takeL (i := 3) (v := ?_) rfl (by kernel_rfl) (by kernel_rfl) (by kernel_rfl) (fun _ _ _ h => h) (Or.inl ⟨by rfl, ?_⟩) HS.out ?_
        rotate_left
        · intro w hw
          try dsimp only at hw
          go_simp
          try with_reducible rfl
        try simp only [Act.put, List.setIfInBounds_toArray, List.set_cons_zero, List.set_cons_succ]
        refine takeL (i := 4) (v := .agg X.toArray) rfl (by kernel_rfl) (by kernel_rfl) (by kernel_rfl) (fun _ _ _ h => h) (Or.inl ⟨by rfl, fun wz hwz => exec_load_at wz 46 (.tmp 78) rfl (a.add (k * 34)) X _ Try.underlying46 rfl HSZ.out hwz (by go_simp)⟩) HS.out ?_
        try simp only [Act.put, List.setIfInBounds_toArray, List.set_cons_zero, List.set_cons_succ]
        refine readyL (i := 5) rfl (by kernel_rfl) (by kernel_rfl) fun K hK => ?_
        go_simp
        refine (system_ _).mono ?_
        rintro e w5 ⟨rfl, hb5⟩
        have B5 := Lib.hid (BD.out.trans hb5)
        have HS5 : Hid (∀ j u, X[j]? = some u → w5.cell? ((a.add (k * 34)).add j) = some u) := Lib.hid fun j u hu => (B5.out.cell (by rw [addr_block]; exact HAB.out)).trans (HKC.out j u hu)
        clear hb5
        refine hK.out _ _ HS5.out ?_
        clear hK K
        try simp only [Act.put, List.setIfInBounds_toArray, List.set_cons_zero, List.set_cons_succ]
        refine takeL (i := 6) (v := ?_) rfl (by kernel_rfl) (by kernel_rfl) (by kernel_rfl) (fun _ _ _ h => h) (Or.inl ⟨by rfl, ?_⟩) HS5.out ?_
        rotate_left
        · intro w hw
          try dsimp only at hw
          go_simp
          try with_reducible rfl
        try simp only [Act.put, List.setIfInBounds_toArray, List.set_cons_zero, List.set_cons_succ]
        refine takeL (i := 7) (v := ?_) rfl (by kernel_rfl) (by kernel_rfl) (by kernel_rfl) (fun _ _ _ h => h) (Or.inl ⟨by rfl, ?_⟩) HS5.out ?_
        rotate_left
        · intro w hw
          try dsimp only at hw
          go_simp
          try with_reducible rfl
        try simp only [Act.put, List.setIfInBounds_toArray, List.set_cons_zero, List.set_cons_succ]
        refine takeL (i := 8) (v := undef) rfl (by kernel_rfl) (by kernel_rfl) (by kernel_rfl) (fun _ _ _ h => h) (Or.inr ⟨by rfl, rfl⟩) HS5.out ?_
        try simp only [Act.put, List.setIfInBounds_toArray, List.set_cons_zero, List.set_cons_succ]
        refine takeL (i := 9) (v := undef) rfl (by kernel_rfl) (by kernel_rfl) (by kernel_rfl) (fun _ _ _ h => h) (Or.inr ⟨by rfl, rfl⟩) HS5.out ?_
        try simp only [Act.put, List.setIfInBounds_toArray, List.set_cons_zero, List.set_cons_succ]
        refine takeL (i := 10) (v := undef) rfl (by kernel_rfl) (by kernel_rfl) (by kernel_rfl) (fun _ _ _ h => h) (Or.inr ⟨by rfl, rfl⟩) HS5.out ?_
        try simp only [Act.put, List.setIfInBounds_toArray, List.set_cons_zero, List.set_cons_succ]
        refine takeL (i := 11) (v := undef) rfl (by kernel_rfl) (by kernel_rfl) (by kernel_rfl) (fun _ _ _ h => h) (Or.inr ⟨by rfl, rfl⟩) HS5.out ?_
        try simp only [Act.put, List.setIfInBounds_toArray, List.set_cons_zero, List.set_cons_succ]
        refine takeL (i := 12) (v := undef) rfl (by kernel_rfl) (by kernel_rfl) (by kernel_rfl) (fun _ _ _ h => h) (Or.inr ⟨by rfl, rfl⟩) HS5.out ?_
        try simp only [Act.put, List.setIfInBounds_toArray, List.set_cons_zero, List.set_cons_succ]
        refine takeL (i := 13) (v := undef) rfl (by kernel_rfl) (by kernel_rfl) (by kernel_rfl) (fun _ _ _ h => h) (Or.inr ⟨by rfl, rfl⟩) HS5.out ?_
        try simp only [Act.put, List.setIfInBounds_toArray, List.set_cons_zero, List.set_cons_succ]
        refine takeL (i := 14) (v := undef) rfl (by kernel_rfl) (by kernel_rfl) (by kernel_rfl) (fun _ _ _ h => h) (Or.inr ⟨by rfl, rfl⟩) HS5.out ?_
        try simp only [Act.put, List.setIfInBounds_toArray, List.set_cons_zero, List.set_cons_succ]
        refine takeL (i := 15) (v := ?_) rfl (by kernel_rfl) (by kernel_rfl) (by kernel_rfl) (fun _ _ _ h => h) (Or.inl ⟨by rfl, ?_⟩) HS5.out ?_
        rotate_left
        · intro w hw
          try dsimp only at hw
          go_simp
          try with_reducible rfl
        try simp only [Act.put, List.setIfInBounds_toArray, List.set_cons_zero, List.set_cons_succ]
        refine takeL (i := 16) (v := ?_) rfl (by kernel_rfl) (by kernel_rfl) (by kernel_rfl) (fun _ _ _ h => h) (Or.inl ⟨by rfl, ?_⟩) HS5.out ?_
        rotate_left
        · intro w hw
          try dsimp only at hw
          go_simp
          try with_reducible rfl
        try simp only [Act.put, List.setIfInBounds_toArray, List.set_cons_zero, List.set_cons_succ]
        refine wpAnyH_done (by kernel_rfl) ?_ _
        have d33 := (B5.out.cell (p := ⟨(a.add (k * 34)).block, (a.add (k * 34)).off + 33, none⟩) HAB.out).trans HD33.out
        have e0 := (B5.out.cell (p := ⟨gh, 0, none⟩) hgw).trans ((HB.out.cell (p := ⟨gh, 0, none⟩) HGH.out).trans E0.out)
        have e1 := (B5.out.cell (p := ⟨gh, 1, none⟩) hgw).trans ((HB.out.cell (p := ⟨gh, 1, none⟩) HGH.out).trans E1.out)
        have e2 := (B5.out.cell (p := ⟨gh, 2, none⟩) hgw).trans ((HB.out.cell (p := ⟨gh, 2, none⟩) HGH.out).trans E2.out)
        go_wp2_with fail
        go_roundw
        case rel =>
          refine ⟨k + 1, by omega, by go_num, ?_, ?_, ?_, HB.out.trans (B5.out.mono HB.out.size)⟩
          · rw [HQS.out, HF1.out]; go_num
          · rw [HQW.out, HF2.out]; go_num
          · rw [HQK.out, HF3.out, HKV.out, HRD.out]; go_num
        case measure => simp [intOf]; omega
      by_cases hk3 : kk = k3
      · have HKV : Hid (kn kk = true) := Lib.hid (by rw [HKN.out, decide_eq_true hk3, Bool.or_true])
        rw [HKV.out] at hv
        simp only [Bool.not_true, Bool.not_false] at hv
        subst hv
        rw [decide_eq_false hk0] at N0
        rw [decide_eq_true hk3] at N3
        clear hk0 hk3
        go_wp2_with fail
        clear d32 d33 e0 e1 e2
        refine wp_region_held_drew (S := (fun V => ∀ j u, X[j]? = some u → V.cell? ((a.add (k * 34)).add j) = some u)) (by kernel_rfl) HKC.out (fun _ => ?_)
        have HS := Lib.hid (show ∀ j u, X[j]? = some u → wr.drew.cell? ((a.add (k * 34)).add j) = some u from HKC.out)
        have BD := Lib.hid (Below.refl wr.heap.size wr).drew
        refine takeL (i := 0) (v := ?_) rfl (by kernel_rfl) (by kernel_rfl) (by kernel_rfl) (fun _ _ _ h => h) (Or.inl ⟨by rfl, ?_⟩) HS.out ?_
        rotate_left
        · intro w hw
          try dsimp only at hw
          go_simp
          try with_reducible rfl
        try simp only [Act.put, List.setIfInBounds_toArray, List.set_cons_zero, List.set_cons_succ]
        refine takeL (i := 1) (v := ?_) rfl (by kernel_rfl) (by kernel_rfl) (by kernel_rfl) (fun _ _ _ h => h) (Or.inl ⟨by rfl, ?_⟩) HS.out ?_
        rotate_left
        · intro w hw
          try dsimp only at hw
          go_simp
          try with_reducible rfl
        try simp only [Act.put, List.setIfInBounds_toArray, List.set_cons_zero, List.set_cons_succ]
        refine takeL (i := 2) (v := ?_) rfl (by kernel_rfl) (by kernel_rfl) (by kernel_rfl) (fun _ _ _ h => h) (Or.inl ⟨by rfl, ?_⟩) HS.out ?_
        rotate_left
        · intro w hw
          try dsimp only at hw
          go_simp
          try with_reducible rfl
        try simp only [Act.put, List.setIfInBounds_toArray, List.set_cons_zero, List.set_cons_succ]
        refine takeL (i := 3) (v := ?_) rfl (by kernel_rfl) (by kernel_rfl) (by kernel_rfl) (fun _ _ _ h => h) (Or.inl ⟨by rfl, ?_⟩) HS.out ?_
        rotate_left
        · intro w hw
          try dsimp only at hw
          go_simp
          try with_reducible rfl
        try simp only [Act.put, List.setIfInBounds_toArray, List.set_cons_zero, List.set_cons_succ]
        refine takeL (i := 4) (v := .agg X.toArray) rfl (by kernel_rfl) (by kernel_rfl) (by kernel_rfl) (fun _ _ _ h => h) (Or.inl ⟨by rfl, fun wz hwz => exec_load_at wz 46 (.tmp 78) rfl (a.add (k * 34)) X _ Try.underlying46 rfl HSZ.out hwz (by go_simp)⟩) HS.out ?_
        try simp only [Act.put, List.setIfInBounds_toArray, List.set_cons_zero, List.set_cons_succ]
        refine readyL (i := 5) rfl (by kernel_rfl) (by kernel_rfl) fun K hK => ?_
        go_simp
        refine (system_ _).mono ?_
        rintro e w5 ⟨rfl, hb5⟩
        have B5 := Lib.hid (BD.out.trans hb5)
        have HS5 : Hid (∀ j u, X[j]? = some u → w5.cell? ((a.add (k * 34)).add j) = some u) := Lib.hid fun j u hu => (B5.out.cell (by rw [addr_block]; exact HAB.out)).trans (HKC.out j u hu)
        clear hb5
        refine hK.out _ _ HS5.out ?_
        clear hK K
        try simp only [Act.put, List.setIfInBounds_toArray, List.set_cons_zero, List.set_cons_succ]
        refine takeL (i := 6) (v := ?_) rfl (by kernel_rfl) (by kernel_rfl) (by kernel_rfl) (fun _ _ _ h => h) (Or.inl ⟨by rfl, ?_⟩) HS5.out ?_
        rotate_left
        · intro w hw
          try dsimp only at hw
          go_simp
          try with_reducible rfl
        try simp only [Act.put, List.setIfInBounds_toArray, List.set_cons_zero, List.set_cons_succ]
        refine takeL (i := 7) (v := ?_) rfl (by kernel_rfl) (by kernel_rfl) (by kernel_rfl) (fun _ _ _ h => h) (Or.inl ⟨by rfl, ?_⟩) HS5.out ?_
        rotate_left
        · intro w hw
          try dsimp only at hw
          go_simp
          try with_reducible rfl
        try simp only [Act.put, List.setIfInBounds_toArray, List.set_cons_zero, List.set_cons_succ]
        refine takeL (i := 8) (v := ?_) rfl (by kernel_rfl) (by kernel_rfl) (by kernel_rfl) (fun _ _ _ h => h) (Or.inl ⟨by rfl, ?_⟩) HS5.out ?_
        rotate_left
        · intro w hw
          try dsimp only at hw
          go_simp
          try with_reducible rfl
        try simp only [Act.put, List.setIfInBounds_toArray, List.set_cons_zero, List.set_cons_succ]
        refine takeL (i := 9) (v := ?_) rfl (by kernel_rfl) (by kernel_rfl) (by kernel_rfl) (fun _ _ _ h => h) (Or.inl ⟨by rfl, ?_⟩) HS5.out ?_
        rotate_left
        · intro w hw
          try dsimp only at hw
          go_simp
          try with_reducible rfl
        try simp only [Act.put, List.setIfInBounds_toArray, List.set_cons_zero, List.set_cons_succ]
        refine takeL (i := 10) (v := ?_) rfl (by kernel_rfl) (by kernel_rfl) (by kernel_rfl) (fun _ _ _ h => h) (Or.inl ⟨by rfl, ?_⟩) HS5.out ?_
        rotate_left
        · intro w hw
          try dsimp only at hw
          go_simp
          try with_reducible rfl
        try simp only [Act.put, List.setIfInBounds_toArray, List.set_cons_zero, List.set_cons_succ]
        refine takeL (i := 11) (v := ?_) rfl (by kernel_rfl) (by kernel_rfl) (by kernel_rfl) (fun _ _ _ h => h) (Or.inl ⟨by rfl, ?_⟩) HS5.out ?_
        rotate_left
        · intro w hw
          try dsimp only at hw
          go_simp
          try with_reducible rfl
        try simp only [Act.put, List.setIfInBounds_toArray, List.set_cons_zero, List.set_cons_succ]
        refine takeL (i := 12) (v := .agg X.toArray) rfl (by kernel_rfl) (by kernel_rfl) (by kernel_rfl) (fun _ _ _ h => h) (Or.inl ⟨by rfl, fun wz hwz => exec_load_at wz 46 (.tmp 86) rfl (a.add (k * 34)) X _ Try.underlying46 rfl HSZ.out hwz (by go_simp)⟩) HS5.out ?_
        try simp only [Act.put, List.setIfInBounds_toArray, List.set_cons_zero, List.set_cons_succ]
        refine readyL (i := 13) rfl (by kernel_rfl) (by kernel_rfl) fun K hK => ?_
        go_simp
        refine (budget_ _).mono ?_
        rintro e w6 ⟨rfl, hb6⟩
        have B6 := Lib.hid (B5.out.trans (hb6.mono B5.out.size))
        have HS6 : Hid (∀ j u, X[j]? = some u → w6.cell? ((a.add (k * 34)).add j) = some u) := Lib.hid fun j u hu => (B6.out.cell (by rw [addr_block]; exact HAB.out)).trans (HKC.out j u hu)
        clear hb6
        refine hK.out _ _ HS6.out ?_
        clear hK K
        try simp only [Act.put, List.setIfInBounds_toArray, List.set_cons_zero, List.set_cons_succ]
        refine takeL (i := 14) (v := ?_) rfl (by kernel_rfl) (by kernel_rfl) (by kernel_rfl) (fun _ _ _ h => h) (Or.inl ⟨by rfl, ?_⟩) HS6.out ?_
        rotate_left
        · intro w hw
          try dsimp only at hw
          go_simp
          try with_reducible rfl
        try simp only [Act.put, List.setIfInBounds_toArray, List.set_cons_zero, List.set_cons_succ]
        refine takeL (i := 15) (v := ?_) rfl (by kernel_rfl) (by kernel_rfl) (by kernel_rfl) (fun _ _ _ h => h) (Or.inl ⟨by rfl, ?_⟩) HS6.out ?_
        rotate_left
        · intro w hw
          try dsimp only at hw
          go_simp
          try with_reducible rfl
        try simp only [Act.put, List.setIfInBounds_toArray, List.set_cons_zero, List.set_cons_succ]
        refine takeL (i := 16) (v := ?_) rfl (by kernel_rfl) (by kernel_rfl) (by kernel_rfl) (fun _ _ _ h => h) (Or.inl ⟨by rfl, ?_⟩) HS6.out ?_
        rotate_left
        · intro w hw
          try dsimp only at hw
          go_simp
          try with_reducible rfl
        try simp only [Act.put, List.setIfInBounds_toArray, List.set_cons_zero, List.set_cons_succ]
        refine wpAnyH_done (by kernel_rfl) ?_ _
        have d33 := (B6.out.cell (p := ⟨(a.add (k * 34)).block, (a.add (k * 34)).off + 33, none⟩) HAB.out).trans HD33.out
        have e0 := (B6.out.cell (p := ⟨gh, 0, none⟩) hgw).trans ((HB.out.cell (p := ⟨gh, 0, none⟩) HGH.out).trans E0.out)
        have e1 := (B6.out.cell (p := ⟨gh, 1, none⟩) hgw).trans ((HB.out.cell (p := ⟨gh, 1, none⟩) HGH.out).trans E1.out)
        have e2 := (B6.out.cell (p := ⟨gh, 2, none⟩) hgw).trans ((HB.out.cell (p := ⟨gh, 2, none⟩) HGH.out).trans E2.out)
        go_wp2_with fail
        go_roundw
        case rel =>
          refine ⟨k + 1, by omega, by go_num, ?_, ?_, ?_, HB.out.trans (B6.out.mono HB.out.size)⟩
          · rw [HQS.out, HF1.out]; go_num
          · rw [HQW.out, HF2.out]; go_num
          · rw [HQK.out, HF3.out, HKV.out, HRD.out]; go_num
        case measure => simp [intOf]; omega
      · have HKV : Hid (kn kk = false) := Lib.hid (by rw [HKN.out, decide_eq_false hk0, decide_eq_false hk3, Bool.or_false])
        rw [HKV.out] at hv
        simp only [Bool.not_true, Bool.not_false] at hv
        subst hv
        rw [decide_eq_false hk0] at N0
        rw [decide_eq_false hk3] at N3
        clear hk0 hk3
        go_wp2_with fail
        clear d32 d33 e0 e1 e2
        refine wp_region_held_drew (S := (fun V => ∀ j u, X[j]? = some u → V.cell? ((a.add (k * 34)).add j) = some u)) (by kernel_rfl) HKC.out (fun _ => ?_)
        have HS := Lib.hid (show ∀ j u, X[j]? = some u → wr.drew.cell? ((a.add (k * 34)).add j) = some u from HKC.out)
        have BD := Lib.hid (Below.refl wr.heap.size wr).drew
        refine takeL (i := 0) (v := ?_) rfl (by kernel_rfl) (by kernel_rfl) (by kernel_rfl) (fun _ _ _ h => h) (Or.inl ⟨by rfl, ?_⟩) HS.out ?_
        rotate_left
        · intro w hw
          try dsimp only at hw
          go_simp
          try with_reducible rfl
        try simp only [Act.put, List.setIfInBounds_toArray, List.set_cons_zero, List.set_cons_succ]
        refine takeL (i := 1) (v := ?_) rfl (by kernel_rfl) (by kernel_rfl) (by kernel_rfl) (fun _ _ _ h => h) (Or.inl ⟨by rfl, ?_⟩) HS.out ?_
        rotate_left
        · intro w hw
          try dsimp only at hw
          go_simp
          try with_reducible rfl
        try simp only [Act.put, List.setIfInBounds_toArray, List.set_cons_zero, List.set_cons_succ]
        refine takeL (i := 2) (v := ?_) rfl (by kernel_rfl) (by kernel_rfl) (by kernel_rfl) (fun _ _ _ h => h) (Or.inl ⟨by rfl, ?_⟩) HS.out ?_
        rotate_left
        · intro w hw
          try dsimp only at hw
          go_simp
          try with_reducible rfl
        try simp only [Act.put, List.setIfInBounds_toArray, List.set_cons_zero, List.set_cons_succ]
        refine takeL (i := 3) (v := ?_) rfl (by kernel_rfl) (by kernel_rfl) (by kernel_rfl) (fun _ _ _ h => h) (Or.inl ⟨by rfl, ?_⟩) HS.out ?_
        rotate_left
        · intro w hw
          try dsimp only at hw
          go_simp
          try with_reducible rfl
        try simp only [Act.put, List.setIfInBounds_toArray, List.set_cons_zero, List.set_cons_succ]
        refine takeL (i := 4) (v := .agg X.toArray) rfl (by kernel_rfl) (by kernel_rfl) (by kernel_rfl) (fun _ _ _ h => h) (Or.inl ⟨by rfl, fun wz hwz => exec_load_at wz 46 (.tmp 78) rfl (a.add (k * 34)) X _ Try.underlying46 rfl HSZ.out hwz (by go_simp)⟩) HS.out ?_
        try simp only [Act.put, List.setIfInBounds_toArray, List.set_cons_zero, List.set_cons_succ]
        refine readyL (i := 5) rfl (by kernel_rfl) (by kernel_rfl) fun K hK => ?_
        go_simp
        refine (system_ _).mono ?_
        rintro e w5 ⟨rfl, hb5⟩
        have B5 := Lib.hid (BD.out.trans hb5)
        have HS5 : Hid (∀ j u, X[j]? = some u → w5.cell? ((a.add (k * 34)).add j) = some u) := Lib.hid fun j u hu => (B5.out.cell (by rw [addr_block]; exact HAB.out)).trans (HKC.out j u hu)
        clear hb5
        refine hK.out _ _ HS5.out ?_
        clear hK K
        try simp only [Act.put, List.setIfInBounds_toArray, List.set_cons_zero, List.set_cons_succ]
        refine takeL (i := 6) (v := ?_) rfl (by kernel_rfl) (by kernel_rfl) (by kernel_rfl) (fun _ _ _ h => h) (Or.inl ⟨by rfl, ?_⟩) HS5.out ?_
        rotate_left
        · intro w hw
          try dsimp only at hw
          go_simp
          try with_reducible rfl
        try simp only [Act.put, List.setIfInBounds_toArray, List.set_cons_zero, List.set_cons_succ]
        refine takeL (i := 7) (v := ?_) rfl (by kernel_rfl) (by kernel_rfl) (by kernel_rfl) (fun _ _ _ h => h) (Or.inl ⟨by rfl, ?_⟩) HS5.out ?_
        rotate_left
        · intro w hw
          try dsimp only at hw
          go_simp
          try with_reducible rfl
        try simp only [Act.put, List.setIfInBounds_toArray, List.set_cons_zero, List.set_cons_succ]
        refine takeL (i := 8) (v := ?_) rfl (by kernel_rfl) (by kernel_rfl) (by kernel_rfl) (fun _ _ _ h => h) (Or.inl ⟨by rfl, ?_⟩) HS5.out ?_
        rotate_left
        · intro w hw
          try dsimp only at hw
          go_simp
          try with_reducible rfl
        try simp only [Act.put, List.setIfInBounds_toArray, List.set_cons_zero, List.set_cons_succ]
        refine takeL (i := 9) (v := ?_) rfl (by kernel_rfl) (by kernel_rfl) (by kernel_rfl) (fun _ _ _ h => h) (Or.inl ⟨by rfl, ?_⟩) HS5.out ?_
        rotate_left
        · intro w hw
          try dsimp only at hw
          go_simp
          try with_reducible rfl
        try simp only [Act.put, List.setIfInBounds_toArray, List.set_cons_zero, List.set_cons_succ]
        refine takeL (i := 10) (v := ?_) rfl (by kernel_rfl) (by kernel_rfl) (by kernel_rfl) (fun _ _ _ h => h) (Or.inl ⟨by rfl, ?_⟩) HS5.out ?_
        rotate_left
        · intro w hw
          try dsimp only at hw
          go_simp
          try with_reducible rfl
        try simp only [Act.put, List.setIfInBounds_toArray, List.set_cons_zero, List.set_cons_succ]
        refine takeL (i := 11) (v := ?_) rfl (by kernel_rfl) (by kernel_rfl) (by kernel_rfl) (fun _ _ _ h => h) (Or.inl ⟨by rfl, ?_⟩) HS5.out ?_
        rotate_left
        · intro w hw
          try dsimp only at hw
          go_simp
          try with_reducible rfl
        try simp only [Act.put, List.setIfInBounds_toArray, List.set_cons_zero, List.set_cons_succ]
        refine takeL (i := 12) (v := .agg X.toArray) rfl (by kernel_rfl) (by kernel_rfl) (by kernel_rfl) (fun _ _ _ h => h) (Or.inl ⟨by rfl, fun wz hwz => exec_load_at wz 46 (.tmp 86) rfl (a.add (k * 34)) X _ Try.underlying46 rfl HSZ.out hwz (by go_simp)⟩) HS5.out ?_
        try simp only [Act.put, List.setIfInBounds_toArray, List.set_cons_zero, List.set_cons_succ]
        refine readyL (i := 13) rfl (by kernel_rfl) (by kernel_rfl) fun K hK => ?_
        go_simp
        refine (budget_ _).mono ?_
        rintro e w6 ⟨rfl, hb6⟩
        have B6 := Lib.hid (B5.out.trans (hb6.mono B5.out.size))
        have HS6 : Hid (∀ j u, X[j]? = some u → w6.cell? ((a.add (k * 34)).add j) = some u) := Lib.hid fun j u hu => (B6.out.cell (by rw [addr_block]; exact HAB.out)).trans (HKC.out j u hu)
        clear hb6
        refine hK.out _ _ HS6.out ?_
        clear hK K
        try simp only [Act.put, List.setIfInBounds_toArray, List.set_cons_zero, List.set_cons_succ]
        refine takeL (i := 14) (v := ?_) rfl (by kernel_rfl) (by kernel_rfl) (by kernel_rfl) (fun _ _ _ h => h) (Or.inl ⟨by rfl, ?_⟩) HS6.out ?_
        rotate_left
        · intro w hw
          try dsimp only at hw
          go_simp
          try with_reducible rfl
        try simp only [Act.put, List.setIfInBounds_toArray, List.set_cons_zero, List.set_cons_succ]
        refine takeL (i := 15) (v := ?_) rfl (by kernel_rfl) (by kernel_rfl) (by kernel_rfl) (fun _ _ _ h => h) (Or.inl ⟨by rfl, ?_⟩) HS6.out ?_
        rotate_left
        · intro w hw
          try dsimp only at hw
          go_simp
          try with_reducible rfl
        try simp only [Act.put, List.setIfInBounds_toArray, List.set_cons_zero, List.set_cons_succ]
        refine takeL (i := 16) (v := ?_) rfl (by kernel_rfl) (by kernel_rfl) (by kernel_rfl) (fun _ _ _ h => h) (Or.inl ⟨by rfl, ?_⟩) HS6.out ?_
        rotate_left
        · intro w hw
          try dsimp only at hw
          go_simp
          try with_reducible rfl
        try simp only [Act.put, List.setIfInBounds_toArray, List.set_cons_zero, List.set_cons_succ]
        refine wpAnyH_done (by kernel_rfl) ?_ _
        have d33 := (B6.out.cell (p := ⟨(a.add (k * 34)).block, (a.add (k * 34)).off + 33, none⟩) HAB.out).trans HD33.out
        have e0 := (B6.out.cell (p := ⟨gh, 0, none⟩) hgw).trans ((HB.out.cell (p := ⟨gh, 0, none⟩) HGH.out).trans E0.out)
        have e1 := (B6.out.cell (p := ⟨gh, 1, none⟩) hgw).trans ((HB.out.cell (p := ⟨gh, 1, none⟩) HGH.out).trans E1.out)
        have e2 := (B6.out.cell (p := ⟨gh, 2, none⟩) hgw).trans ((HB.out.cell (p := ⟨gh, 2, none⟩) HGH.out).trans E2.out)
        go_wp2_with fail
        go_roundw
        case rel =>
          refine ⟨k + 1, by omega, by go_num, ?_, ?_, ?_, HB.out.trans (B6.out.mono HB.out.size)⟩
          · rw [HQS.out, HF1.out]; go_num
          · rw [HQW.out, HF2.out]; go_num
          · rw [HQK.out, HF3.out, HKV.out, HRD.out]; go_num
        case measure => simp [intOf]; omega
    · subst hs
      have HRD : Hid (rdB s r o n xn k = true) := Lib.hid (by simp only [rdB, Bool.or_eq_true, Bool.and_eq_true, decide_eq_true_iff]; omega)
      have q1 : decide ((k : Int) < s) = false := decide_eq_false (by omega)
      have q3 : decide ((k : Int) < (n : Int)) = false := decide_eq_false (by omega)
      have q5 : (n : Int) + (xn : Int) ≤ (k : Int) := by omega
      by_cases hk0 : kk = k0
      · have HKV : Hid (kn kk = true) := Lib.hid (by rw [HKN.out, decide_eq_true hk0, Bool.true_or])
        subst hv
        rw [decide_eq_true hk0] at N0
        clear hk0 N3
        go_wp2_with fail
        clear d32 d33 e0 e1 e2
        refine wp_region_held_drew (S := (fun V => ∀ j u, X[j]? = some u → V.cell? ((a.add (k * 34)).add j) = some u)) (by kernel_rfl) HKC.out (fun _ => ?_)
        have HS := Lib.hid (show ∀ j u, X[j]? = some u → wr.drew.cell? ((a.add (k * 34)).add j) = some u from HKC.out)
        have BD := Lib.hid (Below.refl wr.heap.size wr).drew
        refine takeL (i := 0) (v := ?_) rfl (by kernel_rfl) (by kernel_rfl) (by kernel_rfl) (fun _ _ _ h => h) (Or.inl ⟨by rfl, ?_⟩) HS.out ?_
        rotate_left
        · intro w hw
          try dsimp only at hw
          go_simp
          try with_reducible rfl
        try simp only [Act.put, List.setIfInBounds_toArray, List.set_cons_zero, List.set_cons_succ]
        refine takeL (i := 1) (v := ?_) rfl (by kernel_rfl) (by kernel_rfl) (by kernel_rfl) (fun _ _ _ h => h) (Or.inl ⟨by rfl, ?_⟩) HS.out ?_
        rotate_left
        · intro w hw
          try dsimp only at hw
          go_simp
          try with_reducible rfl
        try simp only [Act.put, List.setIfInBounds_toArray, List.set_cons_zero, List.set_cons_succ]
        refine takeL (i := 2) (v := ?_) rfl (by kernel_rfl) (by kernel_rfl) (by kernel_rfl) (fun _ _ _ h => h) (Or.inl ⟨by rfl, ?_⟩) HS.out ?_
        rotate_left
        · intro w hw
          try dsimp only at hw
          go_simp
          try with_reducible rfl
        try simp only [Act.put, List.setIfInBounds_toArray, List.set_cons_zero, List.set_cons_succ]
        refine takeL (i := 3) (v := ?_) rfl (by kernel_rfl) (by kernel_rfl) (by kernel_rfl) (fun _ _ _ h => h) (Or.inl ⟨by rfl, ?_⟩) HS.out ?_
        rotate_left
        · intro w hw
          try dsimp only at hw
          go_simp
          try with_reducible rfl
        try simp only [Act.put, List.setIfInBounds_toArray, List.set_cons_zero, List.set_cons_succ]
        refine takeL (i := 4) (v := .agg X.toArray) rfl (by kernel_rfl) (by kernel_rfl) (by kernel_rfl) (fun _ _ _ h => h) (Or.inl ⟨by rfl, fun wz hwz => exec_load_at wz 46 (.tmp 78) rfl (a.add (k * 34)) X _ Try.underlying46 rfl HSZ.out hwz (by go_simp)⟩) HS.out ?_
        try simp only [Act.put, List.setIfInBounds_toArray, List.set_cons_zero, List.set_cons_succ]
        refine readyL (i := 5) rfl (by kernel_rfl) (by kernel_rfl) fun K hK => ?_
        go_simp
        refine (system_ _).mono ?_
        rintro e w5 ⟨rfl, hb5⟩
        have B5 := Lib.hid (BD.out.trans hb5)
        have HS5 : Hid (∀ j u, X[j]? = some u → w5.cell? ((a.add (k * 34)).add j) = some u) := Lib.hid fun j u hu => (B5.out.cell (by rw [addr_block]; exact HAB.out)).trans (HKC.out j u hu)
        clear hb5
        refine hK.out _ _ HS5.out ?_
        clear hK K
        try simp only [Act.put, List.setIfInBounds_toArray, List.set_cons_zero, List.set_cons_succ]
        refine takeL (i := 6) (v := ?_) rfl (by kernel_rfl) (by kernel_rfl) (by kernel_rfl) (fun _ _ _ h => h) (Or.inl ⟨by rfl, ?_⟩) HS5.out ?_
        rotate_left
        · intro w hw
          try dsimp only at hw
          go_simp
          try with_reducible rfl
        try simp only [Act.put, List.setIfInBounds_toArray, List.set_cons_zero, List.set_cons_succ]
        refine takeL (i := 7) (v := ?_) rfl (by kernel_rfl) (by kernel_rfl) (by kernel_rfl) (fun _ _ _ h => h) (Or.inl ⟨by rfl, ?_⟩) HS5.out ?_
        rotate_left
        · intro w hw
          try dsimp only at hw
          go_simp
          try with_reducible rfl
        try simp only [Act.put, List.setIfInBounds_toArray, List.set_cons_zero, List.set_cons_succ]
        refine takeL (i := 8) (v := undef) rfl (by kernel_rfl) (by kernel_rfl) (by kernel_rfl) (fun _ _ _ h => h) (Or.inr ⟨by rfl, rfl⟩) HS5.out ?_
        try simp only [Act.put, List.setIfInBounds_toArray, List.set_cons_zero, List.set_cons_succ]
        refine takeL (i := 9) (v := undef) rfl (by kernel_rfl) (by kernel_rfl) (by kernel_rfl) (fun _ _ _ h => h) (Or.inr ⟨by rfl, rfl⟩) HS5.out ?_
        try simp only [Act.put, List.setIfInBounds_toArray, List.set_cons_zero, List.set_cons_succ]
        refine takeL (i := 10) (v := undef) rfl (by kernel_rfl) (by kernel_rfl) (by kernel_rfl) (fun _ _ _ h => h) (Or.inr ⟨by rfl, rfl⟩) HS5.out ?_
        try simp only [Act.put, List.setIfInBounds_toArray, List.set_cons_zero, List.set_cons_succ]
        refine takeL (i := 11) (v := undef) rfl (by kernel_rfl) (by kernel_rfl) (by kernel_rfl) (fun _ _ _ h => h) (Or.inr ⟨by rfl, rfl⟩) HS5.out ?_
        try simp only [Act.put, List.setIfInBounds_toArray, List.set_cons_zero, List.set_cons_succ]
        refine takeL (i := 12) (v := undef) rfl (by kernel_rfl) (by kernel_rfl) (by kernel_rfl) (fun _ _ _ h => h) (Or.inr ⟨by rfl, rfl⟩) HS5.out ?_
        try simp only [Act.put, List.setIfInBounds_toArray, List.set_cons_zero, List.set_cons_succ]
        refine takeL (i := 13) (v := undef) rfl (by kernel_rfl) (by kernel_rfl) (by kernel_rfl) (fun _ _ _ h => h) (Or.inr ⟨by rfl, rfl⟩) HS5.out ?_
        try simp only [Act.put, List.setIfInBounds_toArray, List.set_cons_zero, List.set_cons_succ]
        refine takeL (i := 14) (v := undef) rfl (by kernel_rfl) (by kernel_rfl) (by kernel_rfl) (fun _ _ _ h => h) (Or.inr ⟨by rfl, rfl⟩) HS5.out ?_
        try simp only [Act.put, List.setIfInBounds_toArray, List.set_cons_zero, List.set_cons_succ]
        refine takeL (i := 15) (v := ?_) rfl (by kernel_rfl) (by kernel_rfl) (by kernel_rfl) (fun _ _ _ h => h) (Or.inl ⟨by rfl, ?_⟩) HS5.out ?_
        rotate_left
        · intro w hw
          try dsimp only at hw
          go_simp
          try with_reducible rfl
        try simp only [Act.put, List.setIfInBounds_toArray, List.set_cons_zero, List.set_cons_succ]
        refine takeL (i := 16) (v := ?_) rfl (by kernel_rfl) (by kernel_rfl) (by kernel_rfl) (fun _ _ _ h => h) (Or.inl ⟨by rfl, ?_⟩) HS5.out ?_
        rotate_left
        · intro w hw
          try dsimp only at hw
          go_simp
          try with_reducible rfl
        try simp only [Act.put, List.setIfInBounds_toArray, List.set_cons_zero, List.set_cons_succ]
        refine wpAnyH_done (by kernel_rfl) ?_ _
        have d33 := (B5.out.cell (p := ⟨(a.add (k * 34)).block, (a.add (k * 34)).off + 33, none⟩) HAB.out).trans HD33.out
        have e0 := (B5.out.cell (p := ⟨gh, 0, none⟩) hgw).trans ((HB.out.cell (p := ⟨gh, 0, none⟩) HGH.out).trans E0.out)
        have e1 := (B5.out.cell (p := ⟨gh, 1, none⟩) hgw).trans ((HB.out.cell (p := ⟨gh, 1, none⟩) HGH.out).trans E1.out)
        have e2 := (B5.out.cell (p := ⟨gh, 2, none⟩) hgw).trans ((HB.out.cell (p := ⟨gh, 2, none⟩) HGH.out).trans E2.out)
        go_wp2_with fail
        go_roundw
        case rel =>
          refine ⟨k + 1, by omega, by go_num, ?_, ?_, ?_, HB.out.trans (B5.out.mono HB.out.size)⟩
          · rw [HQS.out, HF1.out]; go_num
          · rw [HQW.out, HF2.out]; go_num
          · rw [HQK.out, HF3.out, HKV.out, HRD.out]; go_num
        case measure => simp [intOf]; omega
      by_cases hk3 : kk = k3
      · have HKV : Hid (kn kk = true) := Lib.hid (by rw [HKN.out, decide_eq_true hk3, Bool.or_true])
        subst hv
        rw [decide_eq_false hk0] at N0
        rw [decide_eq_true hk3] at N3
        clear hk0 hk3
        go_wp2_with fail
        clear d32 d33 e0 e1 e2
        refine wp_region_held_drew (S := (fun V => ∀ j u, X[j]? = some u → V.cell? ((a.add (k * 34)).add j) = some u)) (by kernel_rfl) HKC.out (fun _ => ?_)
        have HS := Lib.hid (show ∀ j u, X[j]? = some u → wr.drew.cell? ((a.add (k * 34)).add j) = some u from HKC.out)
        have BD := Lib.hid (Below.refl wr.heap.size wr).drew
        refine takeL (i := 0) (v := ?_) rfl (by kernel_rfl) (by kernel_rfl) (by kernel_rfl) (fun _ _ _ h => h) (Or.inl ⟨by rfl, ?_⟩) HS.out ?_
        rotate_left
        · intro w hw
          try dsimp only at hw
          go_simp
          try with_reducible rfl
        try simp only [Act.put, List.setIfInBounds_toArray, List.set_cons_zero, List.set_cons_succ]
        refine takeL (i := 1) (v := ?_) rfl (by kernel_rfl) (by kernel_rfl) (by kernel_rfl) (fun _ _ _ h => h) (Or.inl ⟨by rfl, ?_⟩) HS.out ?_
        rotate_left
        · intro w hw
          try dsimp only at hw
          go_simp
          try with_reducible rfl
        try simp only [Act.put, List.setIfInBounds_toArray, List.set_cons_zero, List.set_cons_succ]
        refine takeL (i := 2) (v := ?_) rfl (by kernel_rfl) (by kernel_rfl) (by kernel_rfl) (fun _ _ _ h => h) (Or.inl ⟨by rfl, ?_⟩) HS.out ?_
        rotate_left
        · intro w hw
          try dsimp only at hw
          go_simp
          try with_reducible rfl
        try simp only [Act.put, List.setIfInBounds_toArray, List.set_cons_zero, List.set_cons_succ]
        refine takeL (i := 3) (v := ?_) rfl (by kernel_rfl) (by kernel_rfl) (by kernel_rfl) (fun _ _ _ h => h) (Or.inl ⟨by rfl, ?_⟩) HS.out ?_
        rotate_left
        · intro w hw
          try dsimp only at hw
          go_simp
          try with_reducible rfl
        try simp only [Act.put, List.setIfInBounds_toArray, List.set_cons_zero, List.set_cons_succ]
        refine takeL (i := 4) (v := .agg X.toArray) rfl (by kernel_rfl) (by kernel_rfl) (by kernel_rfl) (fun _ _ _ h => h) (Or.inl ⟨by rfl, fun wz hwz => exec_load_at wz 46 (.tmp 78) rfl (a.add (k * 34)) X _ Try.underlying46 rfl HSZ.out hwz (by go_simp)⟩) HS.out ?_
        try simp only [Act.put, List.setIfInBounds_toArray, List.set_cons_zero, List.set_cons_succ]
        refine readyL (i := 5) rfl (by kernel_rfl) (by kernel_rfl) fun K hK => ?_
        go_simp
        refine (system_ _).mono ?_
        rintro e w5 ⟨rfl, hb5⟩
        have B5 := Lib.hid (BD.out.trans hb5)
        have HS5 : Hid (∀ j u, X[j]? = some u → w5.cell? ((a.add (k * 34)).add j) = some u) := Lib.hid fun j u hu => (B5.out.cell (by rw [addr_block]; exact HAB.out)).trans (HKC.out j u hu)
        clear hb5
        refine hK.out _ _ HS5.out ?_
        clear hK K
        try simp only [Act.put, List.setIfInBounds_toArray, List.set_cons_zero, List.set_cons_succ]
        refine takeL (i := 6) (v := ?_) rfl (by kernel_rfl) (by kernel_rfl) (by kernel_rfl) (fun _ _ _ h => h) (Or.inl ⟨by rfl, ?_⟩) HS5.out ?_
        rotate_left
        · intro w hw
          try dsimp only at hw
          go_simp
          try with_reducible rfl
        try simp only [Act.put, List.setIfInBounds_toArray, List.set_cons_zero, List.set_cons_succ]
        refine takeL (i := 7) (v := ?_) rfl (by kernel_rfl) (by kernel_rfl) (by kernel_rfl) (fun _ _ _ h => h) (Or.inl ⟨by rfl, ?_⟩) HS5.out ?_
        rotate_left
        · intro w hw
          try dsimp only at hw
          go_simp
          try with_reducible rfl
        try simp only [Act.put, List.setIfInBounds_toArray, List.set_cons_zero, List.set_cons_succ]
        refine takeL (i := 8) (v := ?_) rfl (by kernel_rfl) (by kernel_rfl) (by kernel_rfl) (fun _ _ _ h => h) (Or.inl ⟨by rfl, ?_⟩) HS5.out ?_
        rotate_left
        · intro w hw
          try dsimp only at hw
          go_simp
          try with_reducible rfl
        try simp only [Act.put, List.setIfInBounds_toArray, List.set_cons_zero, List.set_cons_succ]
        refine takeL (i := 9) (v := ?_) rfl (by kernel_rfl) (by kernel_rfl) (by kernel_rfl) (fun _ _ _ h => h) (Or.inl ⟨by rfl, ?_⟩) HS5.out ?_
        rotate_left
        · intro w hw
          try dsimp only at hw
          go_simp
          try with_reducible rfl
        try simp only [Act.put, List.setIfInBounds_toArray, List.set_cons_zero, List.set_cons_succ]
        refine takeL (i := 10) (v := ?_) rfl (by kernel_rfl) (by kernel_rfl) (by kernel_rfl) (fun _ _ _ h => h) (Or.inl ⟨by rfl, ?_⟩) HS5.out ?_
        rotate_left
        · intro w hw
          try dsimp only at hw
          go_simp
          try with_reducible rfl
        try simp only [Act.put, List.setIfInBounds_toArray, List.set_cons_zero, List.set_cons_succ]
        refine takeL (i := 11) (v := ?_) rfl (by kernel_rfl) (by kernel_rfl) (by kernel_rfl) (fun _ _ _ h => h) (Or.inl ⟨by rfl, ?_⟩) HS5.out ?_
        rotate_left
        · intro w hw
          try dsimp only at hw
          go_simp
          try with_reducible rfl
        try simp only [Act.put, List.setIfInBounds_toArray, List.set_cons_zero, List.set_cons_succ]
        refine takeL (i := 12) (v := .agg X.toArray) rfl (by kernel_rfl) (by kernel_rfl) (by kernel_rfl) (fun _ _ _ h => h) (Or.inl ⟨by rfl, fun wz hwz => exec_load_at wz 46 (.tmp 86) rfl (a.add (k * 34)) X _ Try.underlying46 rfl HSZ.out hwz (by go_simp)⟩) HS5.out ?_
        try simp only [Act.put, List.setIfInBounds_toArray, List.set_cons_zero, List.set_cons_succ]
        refine readyL (i := 13) rfl (by kernel_rfl) (by kernel_rfl) fun K hK => ?_
        go_simp
        refine (budget_ _).mono ?_
        rintro e w6 ⟨rfl, hb6⟩
        have B6 := Lib.hid (B5.out.trans (hb6.mono B5.out.size))
        have HS6 : Hid (∀ j u, X[j]? = some u → w6.cell? ((a.add (k * 34)).add j) = some u) := Lib.hid fun j u hu => (B6.out.cell (by rw [addr_block]; exact HAB.out)).trans (HKC.out j u hu)
        clear hb6
        refine hK.out _ _ HS6.out ?_
        clear hK K
        try simp only [Act.put, List.setIfInBounds_toArray, List.set_cons_zero, List.set_cons_succ]
        refine takeL (i := 14) (v := ?_) rfl (by kernel_rfl) (by kernel_rfl) (by kernel_rfl) (fun _ _ _ h => h) (Or.inl ⟨by rfl, ?_⟩) HS6.out ?_
        rotate_left
        · intro w hw
          try dsimp only at hw
          go_simp
          try with_reducible rfl
        try simp only [Act.put, List.setIfInBounds_toArray, List.set_cons_zero, List.set_cons_succ]
        refine takeL (i := 15) (v := ?_) rfl (by kernel_rfl) (by kernel_rfl) (by kernel_rfl) (fun _ _ _ h => h) (Or.inl ⟨by rfl, ?_⟩) HS6.out ?_
        rotate_left
        · intro w hw
          try dsimp only at hw
          go_simp
          try with_reducible rfl
        try simp only [Act.put, List.setIfInBounds_toArray, List.set_cons_zero, List.set_cons_succ]
        refine takeL (i := 16) (v := ?_) rfl (by kernel_rfl) (by kernel_rfl) (by kernel_rfl) (fun _ _ _ h => h) (Or.inl ⟨by rfl, ?_⟩) HS6.out ?_
        rotate_left
        · intro w hw
          try dsimp only at hw
          go_simp
          try with_reducible rfl
        try simp only [Act.put, List.setIfInBounds_toArray, List.set_cons_zero, List.set_cons_succ]
        refine wpAnyH_done (by kernel_rfl) ?_ _
        have d33 := (B6.out.cell (p := ⟨(a.add (k * 34)).block, (a.add (k * 34)).off + 33, none⟩) HAB.out).trans HD33.out
        have e0 := (B6.out.cell (p := ⟨gh, 0, none⟩) hgw).trans ((HB.out.cell (p := ⟨gh, 0, none⟩) HGH.out).trans E0.out)
        have e1 := (B6.out.cell (p := ⟨gh, 1, none⟩) hgw).trans ((HB.out.cell (p := ⟨gh, 1, none⟩) HGH.out).trans E1.out)
        have e2 := (B6.out.cell (p := ⟨gh, 2, none⟩) hgw).trans ((HB.out.cell (p := ⟨gh, 2, none⟩) HGH.out).trans E2.out)
        go_wp2_with fail
        go_roundw
        case rel =>
          refine ⟨k + 1, by omega, by go_num, ?_, ?_, ?_, HB.out.trans (B6.out.mono HB.out.size)⟩
          · rw [HQS.out, HF1.out]; go_num
          · rw [HQW.out, HF2.out]; go_num
          · rw [HQK.out, HF3.out, HKV.out, HRD.out]; go_num
        case measure => simp [intOf]; omega
      · have HKV : Hid (kn kk = false) := Lib.hid (by rw [HKN.out, decide_eq_false hk0, decide_eq_false hk3, Bool.or_false])
        subst hv
        rw [decide_eq_false hk0] at N0
        rw [decide_eq_false hk3] at N3
        clear hk0 hk3
        go_wp2_with fail
        clear d32 d33 e0 e1 e2
        refine wp_region_held_drew (S := (fun V => ∀ j u, X[j]? = some u → V.cell? ((a.add (k * 34)).add j) = some u)) (by kernel_rfl) HKC.out (fun _ => ?_)
        have HS := Lib.hid (show ∀ j u, X[j]? = some u → wr.drew.cell? ((a.add (k * 34)).add j) = some u from HKC.out)
        have BD := Lib.hid (Below.refl wr.heap.size wr).drew
        refine takeL (i := 0) (v := ?_) rfl (by kernel_rfl) (by kernel_rfl) (by kernel_rfl) (fun _ _ _ h => h) (Or.inl ⟨by rfl, ?_⟩) HS.out ?_
        rotate_left
        · intro w hw
          try dsimp only at hw
          go_simp
          try with_reducible rfl
        try simp only [Act.put, List.setIfInBounds_toArray, List.set_cons_zero, List.set_cons_succ]
        refine takeL (i := 1) (v := ?_) rfl (by kernel_rfl) (by kernel_rfl) (by kernel_rfl) (fun _ _ _ h => h) (Or.inl ⟨by rfl, ?_⟩) HS.out ?_
        rotate_left
        · intro w hw
          try dsimp only at hw
          go_simp
          try with_reducible rfl
        try simp only [Act.put, List.setIfInBounds_toArray, List.set_cons_zero, List.set_cons_succ]
        refine takeL (i := 2) (v := ?_) rfl (by kernel_rfl) (by kernel_rfl) (by kernel_rfl) (fun _ _ _ h => h) (Or.inl ⟨by rfl, ?_⟩) HS.out ?_
        rotate_left
        · intro w hw
          try dsimp only at hw
          go_simp
          try with_reducible rfl
        try simp only [Act.put, List.setIfInBounds_toArray, List.set_cons_zero, List.set_cons_succ]
        refine takeL (i := 3) (v := ?_) rfl (by kernel_rfl) (by kernel_rfl) (by kernel_rfl) (fun _ _ _ h => h) (Or.inl ⟨by rfl, ?_⟩) HS.out ?_
        rotate_left
        · intro w hw
          try dsimp only at hw
          go_simp
          try with_reducible rfl
        try simp only [Act.put, List.setIfInBounds_toArray, List.set_cons_zero, List.set_cons_succ]
        refine takeL (i := 4) (v := .agg X.toArray) rfl (by kernel_rfl) (by kernel_rfl) (by kernel_rfl) (fun _ _ _ h => h) (Or.inl ⟨by rfl, fun wz hwz => exec_load_at wz 46 (.tmp 78) rfl (a.add (k * 34)) X _ Try.underlying46 rfl HSZ.out hwz (by go_simp)⟩) HS.out ?_
        try simp only [Act.put, List.setIfInBounds_toArray, List.set_cons_zero, List.set_cons_succ]
        refine readyL (i := 5) rfl (by kernel_rfl) (by kernel_rfl) fun K hK => ?_
        go_simp
        refine (system_ _).mono ?_
        rintro e w5 ⟨rfl, hb5⟩
        have B5 := Lib.hid (BD.out.trans hb5)
        have HS5 : Hid (∀ j u, X[j]? = some u → w5.cell? ((a.add (k * 34)).add j) = some u) := Lib.hid fun j u hu => (B5.out.cell (by rw [addr_block]; exact HAB.out)).trans (HKC.out j u hu)
        clear hb5
        refine hK.out _ _ HS5.out ?_
        clear hK K
        try simp only [Act.put, List.setIfInBounds_toArray, List.set_cons_zero, List.set_cons_succ]
        refine takeL (i := 6) (v := ?_) rfl (by kernel_rfl) (by kernel_rfl) (by kernel_rfl) (fun _ _ _ h => h) (Or.inl ⟨by rfl, ?_⟩) HS5.out ?_
        rotate_left
        · intro w hw
          try dsimp only at hw
          go_simp
          try with_reducible rfl
        try simp only [Act.put, List.setIfInBounds_toArray, List.set_cons_zero, List.set_cons_succ]
        refine takeL (i := 7) (v := ?_) rfl (by kernel_rfl) (by kernel_rfl) (by kernel_rfl) (fun _ _ _ h => h) (Or.inl ⟨by rfl, ?_⟩) HS5.out ?_
        rotate_left
        · intro w hw
          try dsimp only at hw
          go_simp
          try with_reducible rfl
        try simp only [Act.put, List.setIfInBounds_toArray, List.set_cons_zero, List.set_cons_succ]
        refine takeL (i := 8) (v := ?_) rfl (by kernel_rfl) (by kernel_rfl) (by kernel_rfl) (fun _ _ _ h => h) (Or.inl ⟨by rfl, ?_⟩) HS5.out ?_
        rotate_left
        · intro w hw
          try dsimp only at hw
          go_simp
          try with_reducible rfl
        try simp only [Act.put, List.setIfInBounds_toArray, List.set_cons_zero, List.set_cons_succ]
        refine takeL (i := 9) (v := ?_) rfl (by kernel_rfl) (by kernel_rfl) (by kernel_rfl) (fun _ _ _ h => h) (Or.inl ⟨by rfl, ?_⟩) HS5.out ?_
        rotate_left
        · intro w hw
          try dsimp only at hw
          go_simp
          try with_reducible rfl
        try simp only [Act.put, List.setIfInBounds_toArray, List.set_cons_zero, List.set_cons_succ]
        refine takeL (i := 10) (v := ?_) rfl (by kernel_rfl) (by kernel_rfl) (by kernel_rfl) (fun _ _ _ h => h) (Or.inl ⟨by rfl, ?_⟩) HS5.out ?_
        rotate_left
        · intro w hw
          try dsimp only at hw
          go_simp
          try with_reducible rfl
        try simp only [Act.put, List.setIfInBounds_toArray, List.set_cons_zero, List.set_cons_succ]
        refine takeL (i := 11) (v := ?_) rfl (by kernel_rfl) (by kernel_rfl) (by kernel_rfl) (fun _ _ _ h => h) (Or.inl ⟨by rfl, ?_⟩) HS5.out ?_
        rotate_left
        · intro w hw
          try dsimp only at hw
          go_simp
          try with_reducible rfl
        try simp only [Act.put, List.setIfInBounds_toArray, List.set_cons_zero, List.set_cons_succ]
        refine takeL (i := 12) (v := .agg X.toArray) rfl (by kernel_rfl) (by kernel_rfl) (by kernel_rfl) (fun _ _ _ h => h) (Or.inl ⟨by rfl, fun wz hwz => exec_load_at wz 46 (.tmp 86) rfl (a.add (k * 34)) X _ Try.underlying46 rfl HSZ.out hwz (by go_simp)⟩) HS5.out ?_
        try simp only [Act.put, List.setIfInBounds_toArray, List.set_cons_zero, List.set_cons_succ]
        refine readyL (i := 13) rfl (by kernel_rfl) (by kernel_rfl) fun K hK => ?_
        go_simp
        refine (budget_ _).mono ?_
        rintro e w6 ⟨rfl, hb6⟩
        have B6 := Lib.hid (B5.out.trans (hb6.mono B5.out.size))
        have HS6 : Hid (∀ j u, X[j]? = some u → w6.cell? ((a.add (k * 34)).add j) = some u) := Lib.hid fun j u hu => (B6.out.cell (by rw [addr_block]; exact HAB.out)).trans (HKC.out j u hu)
        clear hb6
        refine hK.out _ _ HS6.out ?_
        clear hK K
        try simp only [Act.put, List.setIfInBounds_toArray, List.set_cons_zero, List.set_cons_succ]
        refine takeL (i := 14) (v := ?_) rfl (by kernel_rfl) (by kernel_rfl) (by kernel_rfl) (fun _ _ _ h => h) (Or.inl ⟨by rfl, ?_⟩) HS6.out ?_
        rotate_left
        · intro w hw
          try dsimp only at hw
          go_simp
          try with_reducible rfl
        try simp only [Act.put, List.setIfInBounds_toArray, List.set_cons_zero, List.set_cons_succ]
        refine takeL (i := 15) (v := ?_) rfl (by kernel_rfl) (by kernel_rfl) (by kernel_rfl) (fun _ _ _ h => h) (Or.inl ⟨by rfl, ?_⟩) HS6.out ?_
        rotate_left
        · intro w hw
          try dsimp only at hw
          go_simp
          try with_reducible rfl
        try simp only [Act.put, List.setIfInBounds_toArray, List.set_cons_zero, List.set_cons_succ]
        refine takeL (i := 16) (v := ?_) rfl (by kernel_rfl) (by kernel_rfl) (by kernel_rfl) (fun _ _ _ h => h) (Or.inl ⟨by rfl, ?_⟩) HS6.out ?_
        rotate_left
        · intro w hw
          try dsimp only at hw
          go_simp
          try with_reducible rfl
        try simp only [Act.put, List.setIfInBounds_toArray, List.set_cons_zero, List.set_cons_succ]
        refine wpAnyH_done (by kernel_rfl) ?_ _
        have d33 := (B6.out.cell (p := ⟨(a.add (k * 34)).block, (a.add (k * 34)).off + 33, none⟩) HAB.out).trans HD33.out
        have e0 := (B6.out.cell (p := ⟨gh, 0, none⟩) hgw).trans ((HB.out.cell (p := ⟨gh, 0, none⟩) HGH.out).trans E0.out)
        have e1 := (B6.out.cell (p := ⟨gh, 1, none⟩) hgw).trans ((HB.out.cell (p := ⟨gh, 1, none⟩) HGH.out).trans E1.out)
        have e2 := (B6.out.cell (p := ⟨gh, 2, none⟩) hgw).trans ((HB.out.cell (p := ⟨gh, 2, none⟩) HGH.out).trans E2.out)
        go_wp2_with fail
        go_roundw
        case rel =>
          refine ⟨k + 1, by omega, by go_num, ?_, ?_, ?_, HB.out.trans (B6.out.mono HB.out.size)⟩
          · rw [HQS.out, HF1.out]; go_num
          · rw [HQW.out, HF2.out]; go_num
          · rw [HQK.out, HF3.out, HKV.out, HRD.out]; go_num
        case measure => simp [intOf]; omega
  · obtain rfl : k = n + xn + yn := by omega
    have z1 := HCS.out
    have z2 := HCW.out
    have z3 := HCV.out
    have HCV2 : Hid ((wrK L).length = cw) := Lib.hid (by rw [← z3, List.take_of_length_le (by rw [HLN.out]; exact Nat.le_refl _)])
    have f2 : ((cs : Int) == s) = true := by
      rw [beq_iff_eq, z1]
      split <;> omega
    have f3 : ((cw : Int) == (n : Int) - r - o + (xn : Int) - (ck : Int)) = true := by
      rw [beq_iff_eq]
      have : (cw : Int) + (ck : Int) = (n : Int) + (xn : Int) - o - r := by
        rw [z2]
        repeat (first | omega | split)
      omega
    have f1 : (((n + xn + yn : Nat) : Int) == (n : Int) + (xn : Int) + (yn : Int)) = true := by
      rw [beq_iff_eq]
      omega
    have HWK := Lib.hid (written_ A (n + xn + yn) (n + xn + yn) wr.heap.size L wr (((HL4.out.more HW3.out).below HB.out).more HB.out.size) (Nat.le_refl _) (by omega))
    clear z1 z2 z3 HCS HCW HCV
    go_wp2_with fail
    refine HWK.out.mono ?_
    rintro e w7 ⟨hb7, A7, c7, rfl, ho7⟩
    rw [HCV2.out]
    have B7 := Lib.hid (HB.out.trans (hb7.mono HB.out.size))
    clear hb7 ho7
    go_wp2_with fail
    refine (lives7 _).mono ?_
    rintro e w8 ⟨rfl, hb8⟩
    have B8 := Lib.hid (B7.out.trans (hb8.mono B7.out.size))
    clear hb8
    go_wp2_with fail
    go_ret
    exact ⟨rfl, B4.out.trans (B8.out.mono B4.out.size)⟩
end Go.Proofs.Ytkpdjjhkocmfoaa
