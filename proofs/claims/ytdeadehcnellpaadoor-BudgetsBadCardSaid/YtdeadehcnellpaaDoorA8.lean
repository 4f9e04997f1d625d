/-
  Parts joined: ToldWalk8 Open8 Bad8.
-/
import Derived.Below
import Derived.Laws.OwnMore
import Derived.Deep.AppendLies
import Derived.Deep.Draws
import Derived.Lib.Hide
import Derived.Laws.MakeOwn
import Derived.Laws.CopyOwn
import Derived.Laws.Rows
import Derived.Maps.AppendAt
import Derived.OwnWalk
import Derived.Laws.BitsAllLaws
import Derived.WalkKit
import Derived.Test.YtdeadehcnellpaaDoorRows
import Derived.WalkSpells
import Derived.WalkLawsBesides
import Derived.IntWalk
import Derived.Deep.MidRow
import Derived.Deep.WholeRow
import Derived.Great.BuildSlice
import Derived.Recover
import Derived.Deep.RegionHeld
import Derived.Deep.QuietTactic
import Derived.BigQuiet
import Derived.ChangeKeysEq
import Derived.Deep.RegionHeld2
import Derived.Deep.CutBlock
import Derived.Laws.Tables
import Derived.ProofKit
import Derived.OpenShut
import Derived.ShutString
import Derived.ChangeOld
import Derived.Lib.SmallJoins
import Derived.Deep.Slices
import Derived.Deep.Strs
import Derived.SizedLaws
import Derived.Laws.StructEq
import Derived.Deep.DeepCutAuto
import Derived.Laws.Slices
import Derived.Laws.EntriesVeiled
import Derived.Deep.RegionHeld3
import Derived.Maps.OwnSet
import Derived.DeepKeys4
import Derived.WideKeyArr
import Derived.WideKeyEntry
import Derived.Shelf.SlMaps.Clone
import Derived.LaidMore
import Derived.Laws.Append
import Derived.Laws.AppendOwn
import Derived.Test.YtdeadehcnellpaaDoorA1
import Derived.Test.YtdeadehcnellpaaDoorA2
import Derived.Test.YtdeadehcnellpaaDoorA3
import Derived.Test.YtdeadehcnellpaaDoorA4
import Derived.Test.YtdeadehcnellpaaDoorA5
import Derived.Test.YtdeadehcnellpaaDoorA6
import Derived.Test.YtdeadehcnellpaaDoorA7
/-
  Of part ToldWalk8: what is needed here.
-/
namespace Go.Proofs.YtdeadehcnellpaaDoor
open Go.RowKit
set_option linter.unusedVariables false
theorem u32_wf {z : Int} (h : (Lit.int .u32 z).wf = true) : 0 ≤ z ∧ z < 4294967296 := by
  have h' : (decide ((0 : Int) ≤ z) && decide (z ≤ 4294967295)) = true := h
  rw [Bool.and_eq_true, decide_eq_true_iff, decide_eq_true_iff] at h'
  omega
theorem u64_wf {z : Int} (h : (Lit.int .u64 z).wf = true) : 0 ≤ z ∧ z < 18446744073709551616 := by
  have h' : (decide ((0 : Int) ≤ z) && decide (z ≤ 18446744073709551615)) = true := h
  rw [Bool.and_eq_true, decide_eq_true_iff, decide_eq_true_iff] at h'
  omega
theorem u8_wf {z : Int} (h : (Lit.int .u8 z).wf = true) : 0 ≤ z ∧ z < 256 := by
  have h' : (decide ((0 : Int) ≤ z) && decide (z ≤ 255)) = true := h
  rw [Bool.and_eq_true, decide_eq_true_iff, decide_eq_true_iff] at h'
  omega
theorem two_one8 (A : Option Addr) (n c : Nat) : ∀ u ∈ inCells 1 (.slice none 0 0) (.slice A n c) ++ inCells 1 (.slice none 0 0) (.slice none 0 0), u.oneCell' = true := by
  intro u hu
  rcases List.mem_append.1 hu with hu | hu
  · exact in8_one _ _ _ _ u hu
  · exact in8_one _ _ _ _ u hu
set_option maxRecDepth 100000 in
set_option maxHeartbeats 8000000 in
theorem told_walk (u p : Int) (o : Int) (w : World) (u0 : 0 ≤ u) (u1 : u < 4294967296) (p0 : 0 ≤ p) (p1 : p < 18446744073709551616) (o0 : 0 ≤ o) (o1 : o < 256) (hl : LenAt w) :
    Calls Tryd.prog 4 #[.int .u32 u, .int .u64 p, .int .u8 o] w fun e w' => e = .returned (.bool true) ∧ Below w.heap.size w w' := by
  have HL := Lib.hid hl
  have HP := Lib.hid hl.pos
  have HAB := Lib.hid (And.intro (told_ab u0 u1 p0 p1) (told_ba u0 u1 p0 p1))
  have HNA : Hid (∀ V : World, Calls Tryd.prog 13 #[.int .u64 u, .int .i64 4] V fun e w' => ∃ v, e = .returned v ∧ OwnB w' V.heap.size v (dig u 4) ∧ Below V.heap.size V w') := Lib.hid fun V => number8_ u 4 V u0 (by omega) (by omega)
  have HNB : Hid (∀ V : World, Calls Tryd.prog 13 #[.int .u64 p, .int .i64 8] V fun e w' => ∃ v, e = .returned v ∧ OwnB w' V.heap.size v (dig p 8) ∧ Below V.heap.size V w') := Lib.hid fun V => number8_ p 8 V p0 p1 (by omega)
  have HUB := Lib.hid (And.intro u0 u1)
  have hwu : IntKind.u64.wrap u = u := u64_in _ u0 (by omega)
  obtain ⟨oq, hoq⟩ := Int.eq_ofNat_of_zero_le o0
  subst hoq
  have HO1 := Lib.hid o1
  clear hl p0 p1 o0 u0 u1
  obtain ⟨W0, hW0⟩ : ∃ V, V = w.alloc (.cells (bv [2]).toArray 5) := ⟨_, rfl⟩
  have hb0 : Below w.heap.size w W0 := hW0 ▸ (Below.refl _ w).alloc (Nat.le_refl _) _
  have RA0 : Row W0 w.heap.size 5 (bv [2]) := by rw [hW0]; exact Row.new w 5 (bv [2])
  have OA0 := Lib.hid (RA0.own_all (base := w.heap.size) (Nat.le_refl _) (by show 1 ≤ maxLen; unfold maxLen; omega))
  have HB0 := Lib.hid hb0
  have HX0 := Lib.hid (fun c1 (h1 : c1 = (bv [2]).toArray) => show w.alloc (.cells c1 5) = W0 by rw [h1, hW0])
  clear hb0 RA0 hW0
  go_enter Tryd.func4, Tryd.ntmps4
  go_wp2_with fail
  rw [HX0.out _ (by kernel_rfl)]
  clear HX0
  refine (HNA.out W0).mono ?_
  rintro e w1 ⟨v1, rfl, ho1, hb1⟩
  obtain ⟨A1, c1, rfl, hs1, _, _, _⟩ := own_form2 ho1
  rw [dig_len] at hs1
  have OA1 := Lib.hid (own_below2 OA0.out hb1)
  have HS1 := Lib.hid hs1
  have HB1 := Lib.hid (HB0.out.trans (hb1.mono HB0.out.size))
  clear ho1 hs1 hb1 HNA OA0 HB0
  rw [dig_len]
  go_upto_region 3 with (at_builtin; go_must (refine wpList_appendN rfl (.tmp 16) (.tmp 19) 40 5 (.int .u8 0) 1 1 rfl Tryd.underlying40 info_u8 (by kernel_rfl) (by omega) (.slice (some ⟨w.heap.size, 0, none⟩) 1 1) 1 (bv [2]) w.heap.size w1.heap.size A1 4 c1 (bv (dig u 4)) ?_ OA1.out ?_ (by have := HS1.out; rwa [Nat.mul_one] at this ⊢) (bv_one _) (by unfold maxLen; omega) (by omega) HB1.out.size ?_; go_simp; go_simp; intro v2 w2 ho2 hg2; obtain ⟨Aa, ca, rfl, _, _, _, _⟩ := own_form2 ho2; have HB2 := Lib.hid (HB1.out.grown hg2.grown HB1.out.size fun k hk => (OA1.out.lt k hk).1); have HA2 := Lib.hid (bytes_own (l := dA8 u) ho2 (dA8_len u)); clear ho2 hg2))
  clear OA1 HS1 HB1
  obtain ⟨W2, hW2⟩ : ∃ V, V = w2.alloc (.cells (bv [3]).toArray 5) := ⟨_, rfl⟩
  have hb3 : Below w2.heap.size w2 W2 := hW2 ▸ (Below.refl _ w2).alloc (Nat.le_refl _) _
  have RB0 : Row W2 w2.heap.size 5 (bv [3]) := by rw [hW2]; exact Row.new w2 5 (bv [3])
  have OB0 := Lib.hid (RB0.own_all (base := w2.heap.size) (Nat.le_refl _) (by show 1 ≤ maxLen; unfold maxLen; omega))
  have HA3 := Lib.hid (HA2.out.below hb3)
  have HB3 := Lib.hid (HB2.out.trans (hb3.mono HB2.out.size))
  have HZ3 := Lib.hid hb3.size
  have HX2 := Lib.hid (fun c1 (h1 : c1 = (bv [3]).toArray) => show w2.alloc (.cells c1 5) = W2 by rw [h1, hW2])
  clear hb3 RB0 hW2 HA2
  go_wp2_with fail
  rw [HX2.out _ (by kernel_rfl)]
  clear HX2
  refine (HNB.out W2).mono ?_
  rintro e w3 ⟨v3, rfl, ho3, hb4⟩
  obtain ⟨A3, c3, rfl, hs3, _, _, _⟩ := own_form2 ho3
  rw [dig_len] at hs3
  have OB1 := Lib.hid (own_below2 OB0.out hb4)
  have HS3 := Lib.hid hs3
  have HA4 := Lib.hid (HA3.out.below (hb4.mono HZ3.out))
  have HB4 := Lib.hid (HB3.out.trans (hb4.mono HB3.out.size))
  have HZ4 := Lib.hid (Nat.le_trans HZ3.out hb4.size)
  clear ho3 hs3 hb4 HNB OB0 HA3 HB3 HZ3
  rw [dig_len]
  go_upto_region 4 with (at_builtin; go_must (refine wpList_appendN rfl (.tmp 21) (.tmp 23) 40 5 (.int .u8 0) 1 1 rfl Tryd.underlying40 info_u8 (by kernel_rfl) (by omega) (.slice (some ⟨w2.heap.size, 0, none⟩) 1 1) 1 (bv [3]) w2.heap.size w3.heap.size A3 8 c3 (bv (dig p 8)) ?_ OB1.out ?_ (by have := HS3.out; rwa [Nat.mul_one] at this ⊢) (bv_one _) (by unfold maxLen; omega) (by omega) HZ4.out ?_; go_simp; go_simp; intro v4 w4 ho4 hg4; obtain ⟨Ab, cb, rfl, _, _, _, _⟩ := own_form2 ho4; have hb5 : Below w2.heap.size w3 w4 := (Below.refl _ w3).grown hg4.grown HZ4.out fun k hk => (OB1.out.lt k hk).1; have HA5 := Lib.hid (HA4.out.below hb5); have HB5 := Lib.hid (HB4.out.trans (hb5.mono HB2.out.size)); have HV5 := Lib.hid (bytes_own (l := dB8 p) ho4 (dB8_len p)); have HZ5 : Hid (w2.heap.size ≤ w4.heap.size) := Lib.hid (Nat.le_trans HZ4.out hb5.size); clear ho4 hg4 hb5))
  clear OB1 HS3 HA4 HB4 HZ4
  go_upto_if 28 with fail
  go_cut [7, 10] (fun _ s10 wx => ∃ (gl : Nat) (l : List (List Int)), s10 = .slice (some ⟨gl, 0, none⟩) 2 2 ∧ Told u p l ∧ BssIn wx wx.heap.size (some ⟨gl, 0, none⟩) 2 l ∧ BytesIn wx wx.heap.size (.slice Aa 5 ca) (dA8 u) ∧ BytesIn wx wx.heap.size (.slice Ab 9 cb) (dB8 p) ∧ Below w.heap.size w wx)
  case first =>
    have hb6 := (Below.refl w4.heap.size w4).alloc (Nat.le_refl _) (.cells #[.slice Aa 5 ca, .slice Ab 9 cb] 40)
    have HA6 := Lib.hid (((HA5.out.more HZ5.out).below hb6).more hb6.size)
    have HV6 := Lib.hid ((HV5.out.below hb6).more hb6.size)
    have HB6 := Lib.hid (HB5.out.trans (hb6.mono HB5.out.size))
    have R6 := Lib.hid (Row.new w4 40 [.slice Aa 5 ca, .slice Ab 9 cb])
    clear hb6
    by_cases ho : (128 : Int) ≤ (oq : Int)
    · have ho' : decide ((128 : Int) ≤ (oq : Int)) = true := decide_eq_true ho
      have hb7 := (Below.refl (w4.alloc (.cells #[.slice Aa 5 ca, .slice Ab 9 cb] 40)).heap.size _).alloc (Nat.le_refl _) (.cells #[.slice Ab 9 cb, .slice Aa 5 ca] 40)
      have HA7 := Lib.hid ((HA6.out.below hb7).more hb7.size)
      have HV7 := Lib.hid ((HV6.out.below hb7).more hb7.size)
      have HB7 := Lib.hid (HB6.out.trans (hb7.mono HB6.out.size))
      have HS7 : Hid ((w4.alloc (.cells #[.slice Aa 5 ca, .slice Ab 9 cb] 40)).heap.size = w4.heap.size + 1) := Lib.hid (by simp)
      have R7 := Lib.hid (Row.new (w4.alloc (.cells #[.slice Aa 5 ca, .slice Ab 9 cb] 40)) 40 [.slice Ab 9 cb, .slice Aa 5 ca])
      clear hb7
      go_wp2_with fail
      go_meet
      refine ⟨w4.heap.size + 1, [dB8 p, dA8 u], rfl, HAB.out.2, ?_, HA7.out, HV7.out, HB7.out⟩
      have hr7 := R7.out
      rw [HS7.out] at hr7
      exact bss_row hr7 hr7.lt rfl (fun i d hd => match i, hd with
        | 0, e => by cases e; exact ⟨_, rfl, HV7.out⟩
        | 1, e => by cases e; exact ⟨_, rfl, HA7.out⟩
        | j + 2, e => by simp at e)
    · have ho' : decide ((128 : Int) ≤ (oq : Int)) = false := decide_eq_false ho
      go_wp2_with fail
      go_meet
      exact ⟨w4.heap.size, [dA8 u, dB8 p], rfl, HAB.out.1, bss_row R6.out R6.out.lt rfl (fun i d hd => match i, hd with
        | 0, e => by cases e; exact ⟨_, rfl, HA6.out⟩
        | 1, e => by cases e; exact ⟨_, rfl, HV6.out⟩
        | j + 2, e => by simp at e), HA6.out, HV6.out, HB6.out⟩
  case rest =>
  obtain ⟨gl, l, rfl, htold, hbs, hav, hbv, hbel⟩ := hcut
  have HT := Lib.hid htold
  have HLN := Lib.hid htold.1
  have HA8 := Lib.hid hav
  have HV8 := Lib.hid hbv
  have HB8 := Lib.hid hbel
  have HW := Lib.hid (with_ (some ⟨gl, 0, none⟩) 2 2 wc.heap.size l wc hbs (Nat.le_refl _) (by omega))
  clear htold hbs hav hbv hbel HA5 HB5 HV5 HZ5 HAB HB2
  go_wp2_with fail
  refine HW.out.mono ?_
  rintro e w6 ⟨⟨gk, gm, A, c, rfl, h8⟩, hb6⟩
  rw [HLN.out] at h8 ⊢
  have T6 : Hid (T8 w w6 wc.heap.size gk gm A 4 c (insW l) (.slice Aa 5 ca) (.slice Ab 9 cb) (dA8 u) (dB8 p)) := Lib.hid ⟨h8, HA8.out.below hb6, HV8.out.below hb6, HB8.out.trans (hb6.mono HB8.out.size), HB8.out.size⟩
  obtain ⟨B, hB⟩ : ∃ B, B = wc.heap.size := ⟨_, rfl⟩
  rw [← hB] at T6
  clear hB HW HA8 HV8 HB8 h8 hb6
  have HMS := Lib.hid (m8_size gk A 4 c (insW l))
  have HML := Lib.hid (m8_len gk A 4 c (insW l))
  have HMO := Lib.hid (m8_one gk A 4 c (insW l))
  obtain ⟨MC, hMC⟩ : ∃ MC, MC = (q8 gk A (2 + 2) c).cells (m8 (insW l)) := ⟨_, rfl⟩
  have hMC' : MC = (q8 gk A 4 c).cells (m8 (insW l)) := hMC
  rw [← hMC] at ⊢
  rw [← hMC'] at HMS HML HMO
  have HMC := Lib.hid hMC'
  clear hMC hMC'
  go_upto_region 8 with ((with_reducible show wpList _ _ _ ({ dst := none, op := Op.store 30 _ _, type := _, pos := _, after := _, guard := _ } :: _) _ _); go_must (refine wpList_store_new rfl 30 (.tmp 11) (.tmp 33) rfl MC HMS.out HMO.out (by rw [HML.out]; rfl) ?_ ?_ ?_; go_simp; go_simp; intro w7 hr7 hb7 hz7; have R7 := Lib.hid hr7; have B7 := Lib.hid hb7; clear hr7 hb7 hz7))
  have T7 : Hid (T8 w w7 B gk w6.heap.size A 4 c (insO l (dA8 u) 0) (.slice Aa 5 ca) (.slice Ab 9 cb) (dA8 u) (dB8 p)) := Lib.hid (by
    have h := T6.out.below B7.out
    have hr := R7.out
    rw [HMC.out] at hr
    rw [insO_zero]
    exact ⟨⟨h.m.rk, hr, h.m.own, h.m.hk, Nat.le_of_lt T6.out.size, h.m.len, h.m.bl⟩, h.a, h.b, h.bel, h.lo⟩)
  obtain ⟨gM, hgM⟩ : ∃ g, g = w6.heap.size := ⟨_, rfl⟩
  rw [← hgM] at T7 ⊢
  clear hgM T6 R7 B7 HMS HML HMO HMC
  have HRR : Hid ((oq % 20 : Nat) < 20) := Lib.hid (Nat.mod_lt _ (by omega))
  have hrm : Int.tmod (oq : Int) 20 = ((oq % 20 : Nat) : Int) := by rw [Int.tmod_eq_emod_of_nonneg (by omega)]; omega
  have hrn := HRR.out
  obtain ⟨r, hr⟩ : ∃ r, r = oq % 20 := ⟨_, rfl⟩
  rw [← hr] at HRR hrm hrn
  have hwr : IntKind.i64.wrap (r : Int) = (r : Int) := IntWalk.i64_in _ (by omega)
  have hwr8 : IntKind.u8.wrap (r : Int) = (r : Int) := by rw [IntKind.wrap_u8]; omega
  clear hr
  have ho1 := HO1.out
  go_wp2_with fail
  go_loopw [12] (fun i wr => ∃ (k : Nat) (A2 : Option Addr) (c2 : Nat), k ≤ r ∧ i = .int .i64 k ∧ T8 w wr B gk gM A2 (4 + k) c2 (insO l (dA8 u) k) (.slice Aa 5 ca) (.slice Ab 9 cb) (dA8 u) (dB8 p)) (fun i _ => r - (intOf i).toNat)
  case atStart => exact ⟨0, A, c, Nat.zero_le _, rfl, T7.out⟩
  case round =>
    obtain ⟨k, A2, c2, hk, rfl, ht⟩ := hrel
    have T := Lib.hid ht
    clear ht T7
    by_cases hlt : k < r
    · obtain ⟨t3, ht3⟩ : ∃ t, t = k % 3 := ⟨_, rfl⟩
      have hk3 : t3 < 3 := by omega
      have hk3i : (t3 : Int) < 3 := by omega
      have hkm : Int.tmod (k : Int) 3 = (t3 : Int) := by rw [Int.tmod_eq_emod_of_nonneg (by omega)]; omega
      have hkm2 : (k : Int) % 3 = (t3 : Int) := by omega
      have HSU := Lib.hid (insO_succ l (dA8 u) k)
      have HZV : Hid ((bv [0, 2, 9])[t3]? = some (.int .u8 (othr (dA8 u) k).p)) := Lib.hid (by
        unfold othr
        rw [ht3]
        rcases (show k % 3 = 0 ∨ k % 3 = 1 ∨ k % 3 = 2 by omega) with h | h | h <;> rw [h] <;> rfl)
      have HZB := Lib.hid (othr_ok (dA8_ok u) k).1
      have HY : Hid (othr (dA8 u) k = ⟨(othr (dA8 u) k).p, [], dA8 u⟩) := Lib.hid rfl
      obtain ⟨zp, hzp⟩ : ∃ z, (othr (dA8 u) k).p = z := ⟨_, rfl⟩
      rw [hzp] at HZV HZB HY
      clear hzp ht3
      obtain ⟨news, ho, hi⟩ := T.out.m.own
      have O0 : Hid (wr.drew.ownsRow (B + 1) 45 3 (.slice A2 (4 + k) c2) (4 + k) news) := Lib.hid ho
      have I0 : Hid (InsCells wr.drew B (insO l (dA8 u) k) news) := Lib.hid (hi.below (Below.refl _ _).drew)
      clear ho hi
      go_upto_region 11 with fail
      refine wp_region_held_drew (S := (fun _ => True)) (by kernel_rfl) trivial (fun _ => ?_)
      have T0 := Lib.hid T.out.drew
      clear T
      generalize wr.drew = V0 at *
      refine takeL (i := 0) (v := ?_) rfl (by kernel_rfl) (by kernel_rfl) (by kernel_rfl) (fun _ _ _ h => h) (Or.inl ⟨by rfl, ?_⟩) trivial ?_
      rotate_left
      · intro w hw
        try dsimp only at hw
        go_simp
        try with_reducible rfl
      try simp only [Act.put, List.setIfInBounds_toArray, List.set_cons_zero, List.set_cons_succ]
      refine takeL (i := 3) (v := ?_) rfl (by kernel_rfl) (by kernel_rfl) (by kernel_rfl) (fun _ _ _ h => h) (Or.inl ⟨by rfl, ?_⟩) trivial ?_
      rotate_left
      · intro w hw
        try dsimp only at hw
        go_simp
        try with_reducible rfl
      try simp only [Act.put, List.setIfInBounds_toArray, List.set_cons_zero, List.set_cons_succ]
      refine takeL (i := 4) (v := ?_) rfl (by kernel_rfl) (by kernel_rfl) (by kernel_rfl) (fun _ _ _ h => h) (Or.inl ⟨by rfl, ?_⟩) trivial ?_
      rotate_left
      · intro w hw
        try dsimp only at hw
        go_simp
        try with_reducible rfl
      try simp only [Act.put, List.setIfInBounds_toArray, List.set_cons_zero, List.set_cons_succ]
      refine takeL (i := 7) (v := ?_) rfl (by kernel_rfl) (by kernel_rfl) (by kernel_rfl) (fun _ _ _ h => h) (Or.inl ⟨by rfl, ?_⟩) trivial ?_
      rotate_left
      · intro w hw
        try dsimp only at hw
        go_simp
        try with_reducible rfl
      try simp only [Act.put, List.setIfInBounds_toArray, List.set_cons_zero, List.set_cons_succ]
      refine readyL2 (i := 1) (j := 2) rfl rfl (by kernel_rfl) (by kernel_rfl) (by kernel_rfl) (fun K hK => ?_) (fun K hK => ?_)
      · have c37 : V0.cell? ⟨gM, 37, none⟩ = some (.slice A2 (4 + k) c2) := T0.out.m.rm.cell 37
        go_simp
        refine hK.out _ _ trivial ?_
        clear hK K
        try simp only [Act.put, List.setIfInBounds_toArray, List.set_cons_zero, List.set_cons_succ]
        refine readyL (i := 2) rfl (by kernel_rfl) (by kernel_rfl) fun K hK => ?_
        have hb1 := (Below.refl V0.heap.size V0).alloc (Nat.le_refl _) (.cells (bv [0, 2, 9]).toArray 5)
        have hr1 := Row.new V0 5 (bv [0, 2, 9])
        have T1 := Lib.hid (T0.out.below hb1)
        have O1 := Lib.hid (own_below2 O0.out hb1)
        have I1 := Lib.hid (I0.out.below (hb1.mono (by have := T0.out.size; omega)))
        have E1 := Lib.hid (hb1.mono (show B + 1 ≤ V0.heap.size from Nat.le_of_lt T0.out.size))
        have R1 := Lib.hid hr1
        have HQ1 := Lib.hid (fun c1 (h1 : c1 = (bv [0, 2, 9]).toArray) => show V0.alloc (.cells c1 5) = V0.alloc (.cells (bv [0, 2, 9]).toArray 5) by rw [h1])
        clear hb1 hr1
        obtain ⟨g1, hg1⟩ : ∃ g, g = V0.heap.size := ⟨_, rfl⟩
        rw [← hg1] at R1
        have HG1 := Lib.hid hg1
        clear hg1
        go_simp
        rw [HQ1.out _ (by kernel_rfl), ← HG1.out]
        clear HQ1
        generalize V0.alloc (.cells (bv [0, 2, 9]).toArray 5) = V1 at *
        have hcz : V1.cell? ⟨g1, t3, none⟩ = some (.int .u8 zp) := (R1.out.cell _).trans HZV.out
        refine hK.out _ _ trivial ?_
        clear hK K
        try simp only [Act.put, List.setIfInBounds_toArray, List.set_cons_zero, List.set_cons_succ]
        refine takeL (i := 5) (v := ?_) rfl (by kernel_rfl) (by kernel_rfl) (by kernel_rfl) (fun _ _ _ h => h) (Or.inl ⟨by rfl, ?_⟩) trivial ?_
        rotate_left
        · intro w hw
          try dsimp only at hw
          go_simp
          try with_reducible rfl
        try simp only [Act.put, List.setIfInBounds_toArray, List.set_cons_zero, List.set_cons_succ]
        refine readyL (i := 6) rfl (by kernel_rfl) (by kernel_rfl) fun K hK => ?_
        go_simp
        refine hK.out _ _ trivial ?_
        clear hK K
        try simp only [Act.put, List.setIfInBounds_toArray, List.set_cons_zero, List.set_cons_succ]
        refine takeL (i := 8) (v := .agg (inCells zp (.slice none 0 0) (.slice Aa 5 ca)).toArray) rfl (by kernel_rfl) (by kernel_rfl) (by kernel_rfl) (fun _ _ _ h => h) (Or.inl ⟨by rfl, fun wz hwz => exec_built wz _ _ _ rfl (by simp only [List.map_toArray, List.map_cons, List.map_nil]; exact built_in8 zp Aa 5 ca)⟩) trivial ?_
        try simp only [Act.put, List.setIfInBounds_toArray, List.set_cons_zero, List.set_cons_succ]
        refine readyL (i := 9) rfl (by kernel_rfl) (by kernel_rfl) fun K hK => ?_
        refine wp_buildOne 27 45 (.tmp 49) rfl (inCells zp (.slice none 0 0) (.slice Aa 5 ca)) _ 3 56 Tryd.underlying27 info_ins5 (by kernel_rfl) (by omega) (by omega) rfl (by go_simp) ?_
        have hb2 := (Below.refl V1.heap.size V1).alloc (Nat.le_refl _) (.cells (inCells zp (.slice none 0 0) (.slice Aa 5 ca)).toArray 45)
        have T2 := Lib.hid (T1.out.below hb2)
        have O2 := Lib.hid (own_below2 O1.out hb2)
        have I2 := Lib.hid ((I1.out.below (hb2.mono (by have := T1.out.size; omega))).snoc (y := ⟨zp, [], dA8 u⟩) HZB.out (bytes_nil _ _) T2.out.a)
        have E2 := Lib.hid (E1.out.trans (hb2.mono (Nat.le_of_lt T1.out.size)))
        have R2 := Lib.hid (Row.new V1 45 (inCells zp (.slice none 0 0) (.slice Aa 5 ca)))
        clear hb2
        obtain ⟨g2, hg2⟩ : ∃ g, g = V1.heap.size := ⟨_, rfl⟩
        rw [← hg2] at R2 ⊢
        clear hg2
        generalize V1.alloc (.cells (inCells zp (.slice none 0 0) (.slice Aa 5 ca)).toArray 45) = V2 at *
        refine hK.out _ _ trivial ?_
        clear hK K
        try simp only [Act.put, List.setIfInBounds_toArray, List.set_cons_zero, List.set_cons_succ]
        refine readyL (i := 10) rfl (by kernel_rfl) (by kernel_rfl) fun K hK => ?_
        refine wp_appendN (.tmp 42) (.tmp 50) 27 45 _ 3 56 rfl Tryd.underlying27 info_ins5 (by kernel_rfl) (by omega) (.slice A2 (4 + k) c2) (4 + k) news (B + 1) V2.heap.size (some ⟨g2, 0, none⟩) 1 1 (inCells zp (.slice none 0 0) (.slice Aa 5 ca)) (by go_simp) O2.out (by go_simp) (by have := R2.out.sees0; exact this) (in8_one _ _ _ _) (by unfold maxLen; omega) (by omega) (Nat.le_of_lt T2.out.size) ?_
        intro v2 V3 ho3 hg3
        obtain ⟨A3, c3, rfl, _, _, _, _⟩ := own_form2 ho3
        have hb3 : Below (B + 1) V2 V3 := (Below.refl _ V2).grown hg3.grown (Nat.le_of_lt T2.out.size) fun j hj => (O2.out.lt j hj).1
        have RM3 := Lib.hid (T2.out.m.rm.grown hg3.grown (own_apart O2.out T2.out.m.rm (by decide)))
        have H3 := T2.out.m.grow (ins2 := [⟨zp, [], dA8 u⟩]) O2.out hg3 ho3 I2.out rfl
        have T3 := Lib.hid (T2.out.step H3 (hb3.setCell (p := ⟨gM, 37, none⟩) T2.out.m.hm (.slice A3 (4 + k + 1) c3)))
        clear ho3 hg3 hb3 H3
        refine hK.out _ _ trivial ?_
        clear hK K
        try simp only [Act.put, List.setIfInBounds_toArray, List.set_cons_zero, List.set_cons_succ]
        refine takeL (i := 11) (v := ?_) rfl (by kernel_rfl) (by kernel_rfl) (by kernel_rfl) (fun _ _ _ h => h) (Or.inl ⟨by rfl, ?_⟩) trivial ?_
        rotate_left
        · intro w hw
          try dsimp only at hw
          go_simp
          try with_reducible rfl
        try simp only [Act.put, List.setIfInBounds_toArray, List.set_cons_zero, List.set_cons_succ]
        have d37 : V3.cell? ⟨gM, 37, none⟩ = some (.slice A2 (4 + k) c2) := RM3.out.cell 37
        have f37 := RM3.out.frozen 37
        refine readyL (i := 12) rfl (by kernel_rfl) (by kernel_rfl) fun K hK => ?_
        go_simp
        refine hK.out _ _ trivial ?_
        clear hK K
        try simp only [Act.put, List.setIfInBounds_toArray, List.set_cons_zero, List.set_cons_succ]
        refine wpAnyH_done (by kernel_rfl) ?_ _
        go_wp2_with fail
        go_roundw
        case rel => exact ⟨k + 1, A3, c3, by omega, by go_num, by rw [HSU.out, HY.out]; exact T3.out⟩
        case measure => simp [intOf]; omega
      · have hb1 := (Below.refl V0.heap.size V0).alloc (Nat.le_refl _) (.cells (bv [0, 2, 9]).toArray 5)
        have hr1 := Row.new V0 5 (bv [0, 2, 9])
        have T1 := Lib.hid (T0.out.below hb1)
        have O1 := Lib.hid (own_below2 O0.out hb1)
        have I1 := Lib.hid (I0.out.below (hb1.mono (by have := T0.out.size; omega)))
        have E1 := Lib.hid (hb1.mono (show B + 1 ≤ V0.heap.size from Nat.le_of_lt T0.out.size))
        have R1 := Lib.hid hr1
        have HQ1 := Lib.hid (fun c1 (h1 : c1 = (bv [0, 2, 9]).toArray) => show V0.alloc (.cells c1 5) = V0.alloc (.cells (bv [0, 2, 9]).toArray 5) by rw [h1])
        clear hb1 hr1
        obtain ⟨g1, hg1⟩ : ∃ g, g = V0.heap.size := ⟨_, rfl⟩
        rw [← hg1] at R1
        have HG1 := Lib.hid hg1
        clear hg1
        go_simp
        rw [HQ1.out _ (by kernel_rfl), ← HG1.out]
        clear HQ1
        generalize V0.alloc (.cells (bv [0, 2, 9]).toArray 5) = V1 at *
        have hcz : V1.cell? ⟨g1, t3, none⟩ = some (.int .u8 zp) := (R1.out.cell _).trans HZV.out
        refine hK.out _ _ trivial ?_
        clear hK K
        try simp only [Act.put, List.setIfInBounds_toArray, List.set_cons_zero, List.set_cons_succ]
        refine takeL (i := 5) (v := ?_) rfl (by kernel_rfl) (by kernel_rfl) (by kernel_rfl) (fun _ _ _ h => h) (Or.inl ⟨by rfl, ?_⟩) trivial ?_
        rotate_left
        · intro w hw
          try dsimp only at hw
          go_simp
          try with_reducible rfl
        try simp only [Act.put, List.setIfInBounds_toArray, List.set_cons_zero, List.set_cons_succ]
        refine readyL2 (i := 1) (j := 6) rfl rfl (by kernel_rfl) (by kernel_rfl) (by kernel_rfl) (fun K hK => ?_) (fun K hK => ?_)
        · have c37 : V1.cell? ⟨gM, 37, none⟩ = some (.slice A2 (4 + k) c2) := T1.out.m.rm.cell 37
          go_simp
          refine hK.out _ _ trivial ?_
          clear hK K
          try simp only [Act.put, List.setIfInBounds_toArray, List.set_cons_zero, List.set_cons_succ]
          refine readyL (i := 6) rfl (by kernel_rfl) (by kernel_rfl) fun K hK => ?_
          go_simp
          refine hK.out _ _ trivial ?_
          clear hK K
          try simp only [Act.put, List.setIfInBounds_toArray, List.set_cons_zero, List.set_cons_succ]
          refine takeL (i := 8) (v := .agg (inCells zp (.slice none 0 0) (.slice Aa 5 ca)).toArray) rfl (by kernel_rfl) (by kernel_rfl) (by kernel_rfl) (fun _ _ _ h => h) (Or.inl ⟨by rfl, fun wz hwz => exec_built wz _ _ _ rfl (by simp only [List.map_toArray, List.map_cons, List.map_nil]; exact built_in8 zp Aa 5 ca)⟩) trivial ?_
          try simp only [Act.put, List.setIfInBounds_toArray, List.set_cons_zero, List.set_cons_succ]
          refine readyL (i := 9) rfl (by kernel_rfl) (by kernel_rfl) fun K hK => ?_
          refine wp_buildOne 27 45 (.tmp 49) rfl (inCells zp (.slice none 0 0) (.slice Aa 5 ca)) _ 3 56 Tryd.underlying27 info_ins5 (by kernel_rfl) (by omega) (by omega) rfl (by go_simp) ?_
          have hb2 := (Below.refl V1.heap.size V1).alloc (Nat.le_refl _) (.cells (inCells zp (.slice none 0 0) (.slice Aa 5 ca)).toArray 45)
          have T2 := Lib.hid (T1.out.below hb2)
          have O2 := Lib.hid (own_below2 O1.out hb2)
          have I2 := Lib.hid ((I1.out.below (hb2.mono (by have := T1.out.size; omega))).snoc (y := ⟨zp, [], dA8 u⟩) HZB.out (bytes_nil _ _) T2.out.a)
          have E2 := Lib.hid (E1.out.trans (hb2.mono (Nat.le_of_lt T1.out.size)))
          have R2 := Lib.hid (Row.new V1 45 (inCells zp (.slice none 0 0) (.slice Aa 5 ca)))
          clear hb2
          obtain ⟨g2, hg2⟩ : ∃ g, g = V1.heap.size := ⟨_, rfl⟩
          rw [← hg2] at R2 ⊢
          clear hg2
          generalize V1.alloc (.cells (inCells zp (.slice none 0 0) (.slice Aa 5 ca)).toArray 45) = V2 at *
          refine hK.out _ _ trivial ?_
          clear hK K
          try simp only [Act.put, List.setIfInBounds_toArray, List.set_cons_zero, List.set_cons_succ]
          refine readyL (i := 10) rfl (by kernel_rfl) (by kernel_rfl) fun K hK => ?_
          refine wp_appendN (.tmp 42) (.tmp 50) 27 45 _ 3 56 rfl Tryd.underlying27 info_ins5 (by kernel_rfl) (by omega) (.slice A2 (4 + k) c2) (4 + k) news (B + 1) V2.heap.size (some ⟨g2, 0, none⟩) 1 1 (inCells zp (.slice none 0 0) (.slice Aa 5 ca)) (by go_simp) O2.out (by go_simp) (by have := R2.out.sees0; exact this) (in8_one _ _ _ _) (by unfold maxLen; omega) (by omega) (Nat.le_of_lt T2.out.size) ?_
          intro v2 V3 ho3 hg3
          obtain ⟨A3, c3, rfl, _, _, _, _⟩ := own_form2 ho3
          have hb3 : Below (B + 1) V2 V3 := (Below.refl _ V2).grown hg3.grown (Nat.le_of_lt T2.out.size) fun j hj => (O2.out.lt j hj).1
          have RM3 := Lib.hid (T2.out.m.rm.grown hg3.grown (own_apart O2.out T2.out.m.rm (by decide)))
          have H3 := T2.out.m.grow (ins2 := [⟨zp, [], dA8 u⟩]) O2.out hg3 ho3 I2.out rfl
          have T3 := Lib.hid (T2.out.step H3 (hb3.setCell (p := ⟨gM, 37, none⟩) T2.out.m.hm (.slice A3 (4 + k + 1) c3)))
          clear ho3 hg3 hb3 H3
          refine hK.out _ _ trivial ?_
          clear hK K
          try simp only [Act.put, List.setIfInBounds_toArray, List.set_cons_zero, List.set_cons_succ]
          refine takeL (i := 11) (v := ?_) rfl (by kernel_rfl) (by kernel_rfl) (by kernel_rfl) (fun _ _ _ h => h) (Or.inl ⟨by rfl, ?_⟩) trivial ?_
          rotate_left
          · intro w hw
            try dsimp only at hw
            go_simp
            try with_reducible rfl
          try simp only [Act.put, List.setIfInBounds_toArray, List.set_cons_zero, List.set_cons_succ]
          have d37 : V3.cell? ⟨gM, 37, none⟩ = some (.slice A2 (4 + k) c2) := RM3.out.cell 37
          have f37 := RM3.out.frozen 37
          refine readyL (i := 12) rfl (by kernel_rfl) (by kernel_rfl) fun K hK => ?_
          go_simp
          refine hK.out _ _ trivial ?_
          clear hK K
          try simp only [Act.put, List.setIfInBounds_toArray, List.set_cons_zero, List.set_cons_succ]
          refine wpAnyH_done (by kernel_rfl) ?_ _
          go_wp2_with fail
          go_roundw
          case rel => exact ⟨k + 1, A3, c3, by omega, by go_num, by rw [HSU.out, HY.out]; exact T3.out⟩
          case measure => simp [intOf]; omega
        · go_simp
          refine hK.out _ _ trivial ?_
          clear hK K
          try simp only [Act.put, List.setIfInBounds_toArray, List.set_cons_zero, List.set_cons_succ]
          refine takeL (i := 8) (v := .agg (inCells zp (.slice none 0 0) (.slice Aa 5 ca)).toArray) rfl (by kernel_rfl) (by kernel_rfl) (by kernel_rfl) (fun _ _ _ h => h) (Or.inl ⟨by rfl, fun wz hwz => exec_built wz _ _ _ rfl (by simp only [List.map_toArray, List.map_cons, List.map_nil]; exact built_in8 zp Aa 5 ca)⟩) trivial ?_
          try simp only [Act.put, List.setIfInBounds_toArray, List.set_cons_zero, List.set_cons_succ]
          refine readyL2 (i := 1) (j := 9) rfl rfl (by kernel_rfl) (by kernel_rfl) (by kernel_rfl) (fun K hK => ?_) (fun K hK => ?_)
          · have c37 : V1.cell? ⟨gM, 37, none⟩ = some (.slice A2 (4 + k) c2) := T1.out.m.rm.cell 37
            go_simp
            refine hK.out _ _ trivial ?_
            clear hK K
            try simp only [Act.put, List.setIfInBounds_toArray, List.set_cons_zero, List.set_cons_succ]
            refine readyL (i := 9) rfl (by kernel_rfl) (by kernel_rfl) fun K hK => ?_
            refine wp_buildOne 27 45 (.tmp 49) rfl (inCells zp (.slice none 0 0) (.slice Aa 5 ca)) _ 3 56 Tryd.underlying27 info_ins5 (by kernel_rfl) (by omega) (by omega) rfl (by go_simp) ?_
            have hb2 := (Below.refl V1.heap.size V1).alloc (Nat.le_refl _) (.cells (inCells zp (.slice none 0 0) (.slice Aa 5 ca)).toArray 45)
            have T2 := Lib.hid (T1.out.below hb2)
            have O2 := Lib.hid (own_below2 O1.out hb2)
            have I2 := Lib.hid ((I1.out.below (hb2.mono (by have := T1.out.size; omega))).snoc (y := ⟨zp, [], dA8 u⟩) HZB.out (bytes_nil _ _) T2.out.a)
            have E2 := Lib.hid (E1.out.trans (hb2.mono (Nat.le_of_lt T1.out.size)))
            have R2 := Lib.hid (Row.new V1 45 (inCells zp (.slice none 0 0) (.slice Aa 5 ca)))
            clear hb2
            obtain ⟨g2, hg2⟩ : ∃ g, g = V1.heap.size := ⟨_, rfl⟩
            rw [← hg2] at R2 ⊢
            clear hg2
            generalize V1.alloc (.cells (inCells zp (.slice none 0 0) (.slice Aa 5 ca)).toArray 45) = V2 at *
            refine hK.out _ _ trivial ?_
            clear hK K
            try simp only [Act.put, List.setIfInBounds_toArray, List.set_cons_zero, List.set_cons_succ]
            refine readyL (i := 10) rfl (by kernel_rfl) (by kernel_rfl) fun K hK => ?_
            refine wp_appendN (.tmp 42) (.tmp 50) 27 45 _ 3 56 rfl Tryd.underlying27 info_ins5 (by kernel_rfl) (by omega) (.slice A2 (4 + k) c2) (4 + k) news (B + 1) V2.heap.size (some ⟨g2, 0, none⟩) 1 1 (inCells zp (.slice none 0 0) (.slice Aa 5 ca)) (by go_simp) O2.out (by go_simp) (by have := R2.out.sees0; exact this) (in8_one _ _ _ _) (by unfold maxLen; omega) (by omega) (Nat.le_of_lt T2.out.size) ?_
            intro v2 V3 ho3 hg3
            obtain ⟨A3, c3, rfl, _, _, _, _⟩ := own_form2 ho3
            have hb3 : Below (B + 1) V2 V3 := (Below.refl _ V2).grown hg3.grown (Nat.le_of_lt T2.out.size) fun j hj => (O2.out.lt j hj).1
            have RM3 := Lib.hid (T2.out.m.rm.grown hg3.grown (own_apart O2.out T2.out.m.rm (by decide)))
            have H3 := T2.out.m.grow (ins2 := [⟨zp, [], dA8 u⟩]) O2.out hg3 ho3 I2.out rfl
            have T3 := Lib.hid (T2.out.step H3 (hb3.setCell (p := ⟨gM, 37, none⟩) T2.out.m.hm (.slice A3 (4 + k + 1) c3)))
            clear ho3 hg3 hb3 H3
            refine hK.out _ _ trivial ?_
            clear hK K
            try simp only [Act.put, List.setIfInBounds_toArray, List.set_cons_zero, List.set_cons_succ]
            refine takeL (i := 11) (v := ?_) rfl (by kernel_rfl) (by kernel_rfl) (by kernel_rfl) (fun _ _ _ h => h) (Or.inl ⟨by rfl, ?_⟩) trivial ?_
            rotate_left
            · intro w hw
              try dsimp only at hw
              go_simp
              try with_reducible rfl
            try simp only [Act.put, List.setIfInBounds_toArray, List.set_cons_zero, List.set_cons_succ]
            have d37 : V3.cell? ⟨gM, 37, none⟩ = some (.slice A2 (4 + k) c2) := RM3.out.cell 37
            have f37 := RM3.out.frozen 37
            refine readyL (i := 12) rfl (by kernel_rfl) (by kernel_rfl) fun K hK => ?_
            go_simp
            refine hK.out _ _ trivial ?_
            clear hK K
            try simp only [Act.put, List.setIfInBounds_toArray, List.set_cons_zero, List.set_cons_succ]
            refine wpAnyH_done (by kernel_rfl) ?_ _
            go_wp2_with fail
            go_roundw
            case rel => exact ⟨k + 1, A3, c3, by omega, by go_num, by rw [HSU.out, HY.out]; exact T3.out⟩
            case measure => simp [intOf]; omega
          · refine wp_buildOne 27 45 (.tmp 49) rfl (inCells zp (.slice none 0 0) (.slice Aa 5 ca)) _ 3 56 Tryd.underlying27 info_ins5 (by kernel_rfl) (by omega) (by omega) rfl (by go_simp) ?_
            have hb2 := (Below.refl V1.heap.size V1).alloc (Nat.le_refl _) (.cells (inCells zp (.slice none 0 0) (.slice Aa 5 ca)).toArray 45)
            have T2 := Lib.hid (T1.out.below hb2)
            have O2 := Lib.hid (own_below2 O1.out hb2)
            have I2 := Lib.hid ((I1.out.below (hb2.mono (by have := T1.out.size; omega))).snoc (y := ⟨zp, [], dA8 u⟩) HZB.out (bytes_nil _ _) T2.out.a)
            have E2 := Lib.hid (E1.out.trans (hb2.mono (Nat.le_of_lt T1.out.size)))
            have R2 := Lib.hid (Row.new V1 45 (inCells zp (.slice none 0 0) (.slice Aa 5 ca)))
            clear hb2
            obtain ⟨g2, hg2⟩ : ∃ g, g = V1.heap.size := ⟨_, rfl⟩
            rw [← hg2] at R2 ⊢
            clear hg2
            generalize V1.alloc (.cells (inCells zp (.slice none 0 0) (.slice Aa 5 ca)).toArray 45) = V2 at *
            refine hK.out _ _ trivial ?_
            clear hK K
            try simp only [Act.put, List.setIfInBounds_toArray, List.set_cons_zero, List.set_cons_succ]
            refine readyL (i := 1) rfl (by kernel_rfl) (by kernel_rfl) fun K hK => ?_
            have c37 : V2.cell? ⟨gM, 37, none⟩ = some (.slice A2 (4 + k) c2) := T2.out.m.rm.cell 37
            go_simp
            refine hK.out _ _ trivial ?_
            clear hK K
            try simp only [Act.put, List.setIfInBounds_toArray, List.set_cons_zero, List.set_cons_succ]
            refine readyL (i := 10) rfl (by kernel_rfl) (by kernel_rfl) fun K hK => ?_
            refine wp_appendN (.tmp 42) (.tmp 50) 27 45 _ 3 56 rfl Tryd.underlying27 info_ins5 (by kernel_rfl) (by omega) (.slice A2 (4 + k) c2) (4 + k) news (B + 1) V2.heap.size (some ⟨g2, 0, none⟩) 1 1 (inCells zp (.slice none 0 0) (.slice Aa 5 ca)) (by go_simp) O2.out (by go_simp) (by have := R2.out.sees0; exact this) (in8_one _ _ _ _) (by unfold maxLen; omega) (by omega) (Nat.le_of_lt T2.out.size) ?_
            intro v2 V3 ho3 hg3
            obtain ⟨A3, c3, rfl, _, _, _, _⟩ := own_form2 ho3
            have hb3 : Below (B + 1) V2 V3 := (Below.refl _ V2).grown hg3.grown (Nat.le_of_lt T2.out.size) fun j hj => (O2.out.lt j hj).1
            have RM3 := Lib.hid (T2.out.m.rm.grown hg3.grown (own_apart O2.out T2.out.m.rm (by decide)))
            have H3 := T2.out.m.grow (ins2 := [⟨zp, [], dA8 u⟩]) O2.out hg3 ho3 I2.out rfl
            have T3 := Lib.hid (T2.out.step H3 (hb3.setCell (p := ⟨gM, 37, none⟩) T2.out.m.hm (.slice A3 (4 + k + 1) c3)))
            clear ho3 hg3 hb3 H3
            refine hK.out _ _ trivial ?_
            clear hK K
            try simp only [Act.put, List.setIfInBounds_toArray, List.set_cons_zero, List.set_cons_succ]
            refine takeL (i := 11) (v := ?_) rfl (by kernel_rfl) (by kernel_rfl) (by kernel_rfl) (fun _ _ _ h => h) (Or.inl ⟨by rfl, ?_⟩) trivial ?_
            rotate_left
            · intro w hw
              try dsimp only at hw
              go_simp
              try with_reducible rfl
            try simp only [Act.put, List.setIfInBounds_toArray, List.set_cons_zero, List.set_cons_succ]
            have d37 : V3.cell? ⟨gM, 37, none⟩ = some (.slice A2 (4 + k) c2) := RM3.out.cell 37
            have f37 := RM3.out.frozen 37
            refine readyL (i := 12) rfl (by kernel_rfl) (by kernel_rfl) fun K hK => ?_
            go_simp
            refine hK.out _ _ trivial ?_
            clear hK K
            try simp only [Act.put, List.setIfInBounds_toArray, List.set_cons_zero, List.set_cons_succ]
            refine wpAnyH_done (by kernel_rfl) ?_ _
            go_wp2_with fail
            go_roundw
            case rel => exact ⟨k + 1, A3, c3, by omega, by go_num, by rw [HSU.out, HY.out]; exact T3.out⟩
            case measure => simp [intOf]; omega
    · obtain rfl : k = r := by omega
      obtain ⟨nn, hnn⟩ : ∃ nn, nn = 4 + k := ⟨_, rfl⟩
      rw [← hnn] at T
      have HNN := Lib.hid hnn
      have hn24 : nn ≤ 24 := by omega
      clear hnn
      obtain ⟨um, hum⟩ : ∃ um, units8 ⟨some u, some p, 2 + k, -1⟩ = um := ⟨_, rfl⟩
      have HUM : Hid (∀ z, units8 ⟨some u, some p, 2 + k, z⟩ = um) := Lib.hid fun z => hum
      have HU1 := Lib.hid (show (if (1400000 : Int) < u then (1400000 : Int) else u) = um from hum)
      clear hum
      have HBD : Hid (∀ z, bud8 ⟨some u, some p, 2 + k, z⟩ = [.int .u64 um, .int .u64 p, .int .i64 z]) := Lib.hid fun z => by unfold bud8; rw [HUM.out z]; rfl
      have HA0 : Hid (bud8 (all8 keys8 (insO l (dA8 u) k)) = [.int .u64 um, .int .u64 p, .int .i64 (-1)]) := Lib.hid (by rw [all_O HT.out, HBD.out])
      have HA1 : Hid (bud8 (all8 keys8 (insO l (dA8 u) k ++ [⟨1, [], dB8 p⟩])) = [.int .u64 um, .int .u64 p, .int .i64 nn]) := Lib.hid (by rw [all_P HT.out, HBD.out, HNN.out])
      have HA2 : Hid (bud8 (all8 keys8 (insO l (dA8 u) k ++ [⟨1, [], dB8 p⟩] ++ [⟨1, [], dA8 u⟩, ⟨1, [], []⟩])) = [.int .u64 um, .int .u64 p, .int .i64 nn]) := Lib.hid (by rw [all_Q HT.out, HBD.out, HNN.out])
      have HK0 := Lib.hid (insO_ok HT.out.2.1 (dA8_ok u) k)
      have HK1 : Hid (∀ i ∈ insO l (dA8 u) k ++ [⟨1, [], dB8 p⟩], IsByte i.p ∧ AllBytes i.dat) := Lib.hid (ok_app HK0.out (fun i hi => by rw [List.mem_singleton.1 hi]; exact one_ok (dB8_ok p)))
      have HK2 : Hid (∀ i ∈ insO l (dA8 u) k ++ [⟨1, [], dB8 p⟩] ++ [⟨1, [], dA8 u⟩, ⟨1, [], []⟩], IsByte i.p ∧ AllBytes i.dat) := Lib.hid (ok_app HK1.out (fun i hi => by
        simp only [List.mem_cons, List.not_mem_nil, or_false] at hi
        rcases hi with rfl | rfl
        · exact one_ok (dA8_ok u)
        · exact one_ok (fun z hz => by simp at hz)))
      clear HT
      generalize insO l (dA8 u) k = I0 at *
      generalize dA8 u = dA at *
      generalize dB8 p = dB at *
      have hu0 := HUB.out.1
      have hu1 := HUB.out.2
      go_upto_region 12 with fail
      go_cut [13] (fun s13 wx => ∃ gw : Nat, s13 = .pointer (some ⟨gw, 0, none⟩) ∧ B + 1 ≤ gw ∧ Row wx gw 36 [.int .u64 um, .int .u64 p, .int .i64 (-1)] ∧ T8 w wx B gk gM A2 nn c2 I0 (.slice Aa 5 ca) (.slice Ab 9 cb) dA dB)
      case first =>
        rcases (show 1400000 < u ∨ u ≤ 1400000 by omega) with h | h
        · have HU2 : Hid (um = 1400000) := Lib.hid (by rw [← HU1.out, if_pos h])
          go_wp2_with (first
            | ((with_reducible show wpList _ _ _ ({ dst := some 57, op := Op.build _ _, type := _, pos := _, after := _, guard := _ } :: _) _ _); go_must (refine wpList_plain rfl fun K hK => wp_built _ _ _ rfl (by simp only [List.map_toArray, List.map_cons, List.map_nil]; exact built_bud _ _ _) (hK _ _ ?_)))
            | ((with_reducible show wpList _ _ _ ({ dst := none, op := Op.store 36 _ _, type := _, pos := _, after := _, guard := _ } :: _) _ _); go_must (refine wpList_store_new rfl 36 (.tmp 13) (.tmp 57) rfl [.int .u64 (1400000), .int .u64 p, .int .i64 (-1)] (size_bud _ _ _) (bud_one _ _ _) rfl ?_ ?_ ?_; go_simp; go_simp; intro w9 hr9 hb9 hz9; have R9 := Lib.hid hr9; have B9 := Lib.hid hb9; clear hr9 hb9 hz9)))
          go_meet
          exact ⟨_, rfl, Nat.le_of_lt T.out.size, by rw [HU2.out]; exact R9.out, T.out.below B9.out⟩
        · have HU2 : Hid (um = u) := Lib.hid (by rw [← HU1.out, if_neg (by omega)])
          go_wp2_with (first
            | ((with_reducible show wpList _ _ _ ({ dst := some 57, op := Op.build _ _, type := _, pos := _, after := _, guard := _ } :: _) _ _); go_must (refine wpList_plain rfl fun K hK => wp_built _ _ _ rfl (by simp only [List.map_toArray, List.map_cons, List.map_nil]; exact built_bud _ _ _) (hK _ _ ?_)))
            | ((with_reducible show wpList _ _ _ ({ dst := none, op := Op.store 36 _ _, type := _, pos := _, after := _, guard := _ } :: _) _ _); go_must (refine wpList_store_new rfl 36 (.tmp 13) (.tmp 57) rfl [.int .u64 (u), .int .u64 p, .int .i64 (-1)] (size_bud _ _ _) (bud_one _ _ _) rfl ?_ ?_ ?_; go_simp; go_simp; intro w9 hr9 hb9 hz9; have R9 := Lib.hid hr9; have B9 := Lib.hid hb9; clear hr9 hb9 hz9)))
          go_meet
          exact ⟨_, rfl, Nat.le_of_lt T.out.size, by rw [HU2.out]; exact R9.out, T.out.below B9.out⟩
      case rest =>
      obtain ⟨gw, rfl, hgw, hrw, ht8⟩ := hcut
      have T9 := Lib.hid ht8
      have RW9 := Lib.hid hrw
      have HGW := Lib.hid hgw
      clear hgw hrw ht8 T HU1 HUM HBD hu0 hu1
      go_upto_region 13 with fail
      have TXa := Lib.hid T9.out.drew
      have RXa := Lib.hid RW9.out.drew
      have HSZa := Lib.hid (m8_size gk A2 (nn) c2 (I0))
      have HOFa : Hid (Calls Tryd.prog 10 #[.agg ((q8 gk A2 (nn) c2).cells (m8 (I0))).toArray] wc.drew fun e w' => e = .returned (.agg ([.int .u64 um, .int .u64 p, .int .i64 (-1)] : List Value).toArray) ∧ Below wc.drew.heap.size wc.drew w') := Lib.hid (by
        have h := ofW8 TXa.out.m HK0.out (by omega) (HL.out.below TXa.out.bel HP.out)
        rw [HA0.out] at h
        exact h)
      have HRMa := Lib.hid TXa.out.m.rm
      generalize (q8 gk A2 (nn) c2).cells (m8 (I0)) = MXa at *
      have HSSa : Hid (∀ V : World, Row V gM 30 MXa → Row V gw 36 [.int .u64 um, .int .u64 p, .int .i64 (-1)] → V.rangeAt gM 0 MXa ∧ V.rangeAt gw 0 [.int .u64 um, .int .u64 p, .int .i64 (-1)]) := Lib.hid fun V h1 h2 => ⟨fun j u hu => by rw [h1.cell, Nat.zero_add]; exact hu, fun j u hu => by rw [h2.cell, Nat.zero_add]; exact hu⟩
      have SSa := Lib.hid (HSSa.out _ HRMa.out RXa.out)
      have Na := bud_neq um p (-1)
      refine wp_region_held_drew (S := fun V => V.rangeAt gM 0 MXa ∧ V.rangeAt gw 0 [.int .u64 um, .int .u64 p, .int .i64 (-1)]) (by kernel_rfl) SSa.out (fun _ => ?_)
      generalize wc.drew = VXa at *
      refine takeL (i := 0) (v := .agg (MXa).toArray) rfl (by kernel_rfl) (by kernel_rfl) (by kernel_rfl) (fun _ _ _ h => h) (yieldsIf_load_mid (by kernel_rfl) 30 (.tmp 11) rfl gM 0 (by go_simp) (MXa) _ (fun w hw => hw.1) Tryd.underlying30 rfl HSZa.out) SSa.out ?_
      try simp only [Act.put, List.setIfInBounds_toArray, List.set_cons_zero, List.set_cons_succ]
      refine takeL (i := 2) (v := .agg ([.int .u64 um, .int .u64 p, .int .i64 (-1)]).toArray) rfl (by kernel_rfl) (by kernel_rfl) (by kernel_rfl) (fun _ _ _ h => h) (yieldsIf_load_mid (by kernel_rfl) 36 (.tmp 13) rfl gw 0 (by go_simp) ([.int .u64 um, .int .u64 p, .int .i64 (-1)]) _ (fun w hw => hw.2) Tryd.underlying36 rfl (size_bud _ _ _)) SSa.out ?_
      try simp only [Act.put, List.setIfInBounds_toArray, List.set_cons_zero, List.set_cons_succ]
      refine readyL (i := 1) rfl (by kernel_rfl) (by kernel_rfl) fun K hK => ?_
      go_simp
      refine HOFa.out.mono ?_
      rintro e VYa ⟨rfl, hb⟩
      simp only []
      have TYa := Lib.hid (TXa.out.below hb)
      have RYa := Lib.hid (RXa.out.below hb RXa.out.lt)
      have SYa := Lib.hid (HSSa.out _ (HRMa.out.below hb HRMa.out.lt) RYa.out)
      clear hb
      refine hK.out _ _ SYa.out ?_
      clear hK K
      try simp only [Act.put, List.setIfInBounds_toArray, List.set_cons_zero, List.set_cons_succ]
      refine takeL (i := 3) (v := .bool false) rfl (by kernel_rfl) (by kernel_rfl) (by kernel_rfl) (fun _ _ _ h => h) (Or.inl ⟨by kernel_rfl, fun w hw => by go_simp⟩) SYa.out ?_
      try simp only [Act.put, List.setIfInBounds_toArray, List.set_cons_zero, List.set_cons_succ]
      refine wpAnyH_done (by kernel_rfl) ?_ _
      have c37 : VYa.cell? ⟨gM, 37, none⟩ = some (.slice A2 nn c2) := TYa.out.m.rm.cell 37
      have dw2 : VYa.cell? ⟨gw, 2, none⟩ = some (.int .i64 (-1)) := RYa.out.cell 2
      have fw2 := RYa.out.frozen 2
      go_upto_region 16 with fail
      clear c37 dw2 fw2
      have T10 := Lib.hid (TYa.out.far RYa.out HGW.out (by decide) (by decide) (by decide) 2 (.int .i64 nn))
      have RW10 : Hid (Row (VYa.setCell ⟨gw, 2, none⟩ (.int .i64 nn)) gw 36 [.int .u64 um, .int .u64 p, .int .i64 nn]) := Lib.hid (RYa.out.set_ 2 (.int .i64 nn))
      clear TXa RXa HSZa HOFa HRMa HSSa SSa TYa RYa SYa T9 RW9
      generalize VYa.setCell ⟨gw, 2, none⟩ (.int .i64 nn) = V10 at *
      obtain ⟨newsb, ho, hi⟩ := T10.out.m.own
      have OGb := Lib.hid ho
      have IGb := Lib.hid hi
      clear ho hi
      have hbb : Below V10.heap.size V10 (V10.alloc (.cells (inCells 1 (.slice none 0 0) (.slice Ab 9 cb)).toArray 45)) := (Below.refl _ _).alloc (Nat.le_refl _) _
      have TGb := Lib.hid (T10.out.below hbb)
      have RGb := Lib.hid (RW10.out.below hbb RW10.out.lt)
      have OHb := Lib.hid (own_below2 OGb.out hbb)
      have RRb := Lib.hid (Row.new V10 45 (inCells 1 (.slice none 0 0) (.slice Ab 9 cb)))
      have IHb : Hid (InsCells (V10.alloc (.cells (inCells 1 (.slice none 0 0) (.slice Ab 9 cb)).toArray 45)) B (I0 ++ [⟨1, [], dB⟩]) (newsb ++ (inCells 1 (.slice none 0 0) (.slice Ab 9 cb)))) := Lib.hid ((IGb.out.below ((Below.refl V10.heap.size V10).alloc (Nat.le_refl _) _ |>.mono (by have := T10.out.size; omega))).snoc (y := ⟨1, [], dB⟩) byte_1 (bytes_nil _ _) TGb.out.b)
      clear hbb
      have c37 : V10.cell? ⟨gM, 37, none⟩ = some (.slice A2 (nn) c2) := T10.out.m.rm.cell 37
      go_upto_region 17 with (first
        | ((with_reducible show wpList _ _ _ ({ dst := some 69, op := Op.build _ _, type := _, pos := _, after := _, guard := _ } :: _) _ _); go_must (refine wpList_plain rfl fun K hK => wp_built _ _ _ rfl (by simp only [List.map_toArray, List.map_cons, List.map_nil]; exact built_in8 1 Ab 9 cb) (hK _ _ ?_)))
        | ((with_reducible show wpList _ _ _ ({ dst := some 70, op := Op.buildSlice _ _ _, type := _, pos := _, after := _, guard := _ } :: _) _ _); go_must (refine wpList_buildOne rfl 27 45 (.tmp 69) rfl (inCells 1 (.slice none 0 0) (.slice Ab 9 cb)) _ 3 56 Tryd.underlying27 info_ins5 (by kernel_rfl) (by omega) (by omega) rfl ?_ ?_; go_simp))
        | ((with_reducible show wpList _ _ _ ({ dst := some 71, op := _, type := _, pos := _, after := _, guard := _ } :: _) _ _); go_must (refine wpList_appendN rfl (.tmp 67) (.tmp 70) 27 45 _ 3 56 rfl Tryd.underlying27 info_ins5 (by kernel_rfl) (by omega) (.slice A2 (nn) c2) (nn) newsb (B + 1) _ (some ⟨V10.heap.size, 0, none⟩) 1 1 (inCells 1 (.slice none 0 0) (.slice Ab 9 cb)) ?_ OHb.out ?_ RRb.out.sees0 (in8_one _ _ _ _) (by unfold maxLen; omega) (by omega) (Nat.le_of_lt TGb.out.size) ?_; go_simp; go_simp; intro vb VGb ho3 hg3; obtain ⟨A4, c4, rfl, _, _, _, _⟩ := own_form2 ho3; have hb3 : Below (B + 1) _ VGb := (Below.refl _ _).grown hg3.grown (Nat.le_of_lt TGb.out.size) fun j hj => (OHb.out.lt j hj).1; have RMb := Lib.hid (TGb.out.m.rm.grown hg3.grown (own_apart OHb.out TGb.out.m.rm (by decide))); have RWGb := Lib.hid (RGb.out.grown hg3.grown (own_apart OHb.out RGb.out (by decide))); have TSb := Lib.hid (TGb.out.step (TGb.out.m.grow (ins2 := [⟨1, [], dB⟩]) OHb.out hg3 ho3 IHb.out rfl) (hb3.setCell (p := ⟨gM, 37, none⟩) TGb.out.m.hm (.slice A4 (nn + 1) c4))); have d37 : VGb.cell? ⟨gM, 37, none⟩ = some (.slice A2 (nn) c2) := RMb.out.cell 37; have f37 := RMb.out.frozen 37; clear ho3 hg3 hb3)))
      clear c37 d37 f37
      have HNEb : gw ≠ gM := fun e => by
        have h1 := RWGb.out.is
        rw [e, RMb.out.is] at h1
        injection (Option.some.inj h1) with _ h3 _
        exact absurd h3 (by decide)
      have RSb := Lib.hid (RWGb.out.far (p := ⟨gM, 37, none⟩) HNEb (.slice A4 (nn + 1) c4))
      clear HNEb OGb IGb TGb RGb OHb RRb IHb RMb RWGb
      generalize VGb.setCell ⟨gM, 37, none⟩ (.slice A4 (nn + 1) c4) = VSb at *
      have TXc := Lib.hid TSb.out.drew
      have RXc := Lib.hid RSb.out.drew
      have HSZc := Lib.hid (m8_size gk A4 (nn + 1) c4 (I0 ++ [⟨1, [], dB⟩]))
      have HOFc : Hid (Calls Tryd.prog 10 #[.agg ((q8 gk A4 (nn + 1) c4).cells (m8 (I0 ++ [⟨1, [], dB⟩]))).toArray] VSb.drew fun e w' => e = .returned (.agg ([.int .u64 um, .int .u64 p, .int .i64 (nn)] : List Value).toArray) ∧ Below VSb.drew.heap.size VSb.drew w') := Lib.hid (by
        have h := ofW8 TXc.out.m HK1.out (by omega) (HL.out.below TXc.out.bel HP.out)
        rw [HA1.out] at h
        exact h)
      have HRMc := Lib.hid TXc.out.m.rm
      generalize (q8 gk A4 (nn + 1) c4).cells (m8 (I0 ++ [⟨1, [], dB⟩])) = MXc at *
      have HSSc : Hid (∀ V : World, Row V gM 30 MXc → Row V gw 36 [.int .u64 um, .int .u64 p, .int .i64 (nn)] → V.rangeAt gM 0 MXc ∧ V.rangeAt gw 0 [.int .u64 um, .int .u64 p, .int .i64 (nn)]) := Lib.hid fun V h1 h2 => ⟨fun j u hu => by rw [h1.cell, Nat.zero_add]; exact hu, fun j u hu => by rw [h2.cell, Nat.zero_add]; exact hu⟩
      have SSc := Lib.hid (HSSc.out _ HRMc.out RXc.out)
      have Nc := bud_neq um p (nn)
      refine wp_region_held_drew (S := fun V => V.rangeAt gM 0 MXc ∧ V.rangeAt gw 0 [.int .u64 um, .int .u64 p, .int .i64 (nn)]) (by kernel_rfl) SSc.out (fun _ => ?_)
      generalize VSb.drew = VXc at *
      refine takeL (i := 0) (v := .agg (MXc).toArray) rfl (by kernel_rfl) (by kernel_rfl) (by kernel_rfl) (fun _ _ _ h => h) (yieldsIf_load_mid (by kernel_rfl) 30 (.tmp 11) rfl gM 0 (by go_simp) (MXc) _ (fun w hw => hw.1) Tryd.underlying30 rfl HSZc.out) SSc.out ?_
      try simp only [Act.put, List.setIfInBounds_toArray, List.set_cons_zero, List.set_cons_succ]
      refine takeL (i := 2) (v := .agg ([.int .u64 um, .int .u64 p, .int .i64 (nn)]).toArray) rfl (by kernel_rfl) (by kernel_rfl) (by kernel_rfl) (fun _ _ _ h => h) (yieldsIf_load_mid (by kernel_rfl) 36 (.tmp 13) rfl gw 0 (by go_simp) ([.int .u64 um, .int .u64 p, .int .i64 (nn)]) _ (fun w hw => hw.2) Tryd.underlying36 rfl (size_bud _ _ _)) SSc.out ?_
      try simp only [Act.put, List.setIfInBounds_toArray, List.set_cons_zero, List.set_cons_succ]
      refine readyL (i := 1) rfl (by kernel_rfl) (by kernel_rfl) fun K hK => ?_
      go_simp
      refine HOFc.out.mono ?_
      rintro e VYc ⟨rfl, hb⟩
      simp only []
      have TYc := Lib.hid (TXc.out.below hb)
      have RYc := Lib.hid (RXc.out.below hb RXc.out.lt)
      have SYc := Lib.hid (HSSc.out _ (HRMc.out.below hb HRMc.out.lt) RYc.out)
      clear hb
      refine hK.out _ _ SYc.out ?_
      clear hK K
      try simp only [Act.put, List.setIfInBounds_toArray, List.set_cons_zero, List.set_cons_succ]
      refine takeL (i := 3) (v := .bool false) rfl (by kernel_rfl) (by kernel_rfl) (by kernel_rfl) (fun _ _ _ h => h) (Or.inl ⟨by kernel_rfl, fun w hw => by go_simp⟩) SYc.out ?_
      try simp only [Act.put, List.setIfInBounds_toArray, List.set_cons_zero, List.set_cons_succ]
      refine wpAnyH_done (by kernel_rfl) ?_ _
      go_upto_region 19 with fail
      clear TXc RXc HSZc HOFc HRMc HSSc SSc SYc TSb RSb
      obtain ⟨newsd, ho, hi⟩ := TYc.out.m.own
      have OGd := Lib.hid ho
      have IGd := Lib.hid hi
      clear ho hi
      have hbd : Below VYc.heap.size VYc (VYc.alloc (.cells (inCells 1 (.slice none 0 0) (.slice Aa 5 ca) ++ inCells 1 (.slice none 0 0) (.slice none 0 0)).toArray 45)) := (Below.refl _ _).alloc (Nat.le_refl _) _
      have TGd := Lib.hid (TYc.out.below hbd)
      have RGd := Lib.hid (RYc.out.below hbd RYc.out.lt)
      have OHd := Lib.hid (own_below2 OGd.out hbd)
      have RRd := Lib.hid (Row.new VYc 45 (inCells 1 (.slice none 0 0) (.slice Aa 5 ca) ++ inCells 1 (.slice none 0 0) (.slice none 0 0)))
      have IHd : Hid (InsCells (VYc.alloc (.cells (inCells 1 (.slice none 0 0) (.slice Aa 5 ca) ++ inCells 1 (.slice none 0 0) (.slice none 0 0)).toArray 45)) B ((I0 ++ [⟨1, [], dB⟩]) ++ [⟨1, [], dA⟩, ⟨1, [], []⟩]) (newsd ++ (inCells 1 (.slice none 0 0) (.slice Aa 5 ca) ++ inCells 1 (.slice none 0 0) (.slice none 0 0)))) := Lib.hid (app_two (((IGd.out.below ((Below.refl VYc.heap.size VYc).alloc (Nat.le_refl _) _ |>.mono (by have := TYc.out.size; omega))).snoc (y := ⟨1, [], dA⟩) byte_1 (bytes_nil _ _) TGd.out.a).snoc (y := ⟨1, [], []⟩) byte_1 (bytes_nil _ _) (bytes_nil _ _)))
      clear hbd
      have c37 : VYc.cell? ⟨gM, 37, none⟩ = some (.slice A4 (nn + 1) c4) := TYc.out.m.rm.cell 37
      go_upto_region 20 with (first
        | ((with_reducible show wpList _ _ _ ({ dst := some 80, op := Op.build _ _, type := _, pos := _, after := _, guard := _ } :: _) _ _); go_must (refine wpList_plain rfl fun K hK => wp_built _ _ _ rfl (by simp only [List.map_toArray, List.map_cons, List.map_nil]; exact built_in8 1 Aa 5 ca) (hK _ _ ?_)))
        | ((with_reducible show wpList _ _ _ ({ dst := some 81, op := Op.build _ _, type := _, pos := _, after := _, guard := _ } :: _) _ _); go_must (refine wpList_plain rfl fun K hK => wp_built _ _ _ rfl (by simp only [List.map_toArray, List.map_cons, List.map_nil]; exact built_in0 1) (hK _ _ ?_)))
        | ((with_reducible show wpList _ _ _ ({ dst := some 82, op := Op.buildSlice _ _ _, type := _, pos := _, after := _, guard := _ } :: _) _ _); go_must (refine wpList_buildTwo rfl 27 45 (.tmp 80) (.tmp 81) rfl (inCells 1 (.slice none 0 0) (.slice Aa 5 ca)) (inCells 1 (.slice none 0 0) (.slice none 0 0)) _ 3 56 Tryd.underlying27 info_ins5 (by kernel_rfl) (by omega) (by omega) rfl rfl ?_ ?_ ?_; go_simp; go_simp))
        | ((with_reducible show wpList _ _ _ ({ dst := some 83, op := _, type := _, pos := _, after := _, guard := _ } :: _) _ _); go_must (refine wpList_appendN rfl (.tmp 78) (.tmp 82) 27 45 _ 3 56 rfl Tryd.underlying27 info_ins5 (by kernel_rfl) (by omega) (.slice A4 (nn + 1) c4) (nn + 1) newsd (B + 1) _ (some ⟨VYc.heap.size, 0, none⟩) 2 2 (inCells 1 (.slice none 0 0) (.slice Aa 5 ca) ++ inCells 1 (.slice none 0 0) (.slice none 0 0)) ?_ OHd.out ?_ RRd.out.sees0 (two_one8 _ _ _) (by unfold maxLen; omega) (by omega) (Nat.le_of_lt TGd.out.size) ?_; go_simp; go_simp; intro vd VGd ho3 hg3; obtain ⟨A5, c5, rfl, _, _, _, _⟩ := own_form2 ho3; have hb3 : Below (B + 1) _ VGd := (Below.refl _ _).grown hg3.grown (Nat.le_of_lt TGd.out.size) fun j hj => (OHd.out.lt j hj).1; have RMd := Lib.hid (TGd.out.m.rm.grown hg3.grown (own_apart OHd.out TGd.out.m.rm (by decide))); have RWGd := Lib.hid (RGd.out.grown hg3.grown (own_apart OHd.out RGd.out (by decide))); have TSd := Lib.hid (TGd.out.step (TGd.out.m.grow (ins2 := [⟨1, [], dA⟩, ⟨1, [], []⟩]) OHd.out hg3 ho3 IHd.out rfl) (hb3.setCell (p := ⟨gM, 37, none⟩) TGd.out.m.hm (.slice A5 (nn + 1 + 2) c5))); have d37 : VGd.cell? ⟨gM, 37, none⟩ = some (.slice A4 (nn + 1) c4) := RMd.out.cell 37; have f37 := RMd.out.frozen 37; clear ho3 hg3 hb3)))
      clear c37 d37 f37
      have HNEd : gw ≠ gM := fun e => by
        have h1 := RWGd.out.is
        rw [e, RMd.out.is] at h1
        injection (Option.some.inj h1) with _ h3 _
        exact absurd h3 (by decide)
      have RSd := Lib.hid (RWGd.out.far (p := ⟨gM, 37, none⟩) HNEd (.slice A5 (nn + 1 + 2) c5))
      clear HNEd OGd IGd TGd RGd OHd RRd IHd RMd RWGd
      generalize VGd.setCell ⟨gM, 37, none⟩ (.slice A5 (nn + 1 + 2) c5) = VSd at *
      have TXe := Lib.hid TSd.out.drew
      have RXe := Lib.hid RSd.out.drew
      have HSZe := Lib.hid (m8_size gk A5 (nn + 1 + 2) c5 (I0 ++ [⟨1, [], dB⟩] ++ [⟨1, [], dA⟩, ⟨1, [], []⟩]))
      have HOFe : Hid (Calls Tryd.prog 10 #[.agg ((q8 gk A5 (nn + 1 + 2) c5).cells (m8 (I0 ++ [⟨1, [], dB⟩] ++ [⟨1, [], dA⟩, ⟨1, [], []⟩]))).toArray] VSd.drew fun e w' => e = .returned (.agg ([.int .u64 um, .int .u64 p, .int .i64 (nn)] : List Value).toArray) ∧ Below VSd.drew.heap.size VSd.drew w') := Lib.hid (by
        have h := ofW8 TXe.out.m HK2.out (by omega) (HL.out.below TXe.out.bel HP.out)
        rw [HA2.out] at h
        exact h)
      have HRMe := Lib.hid TXe.out.m.rm
      generalize (q8 gk A5 (nn + 1 + 2) c5).cells (m8 (I0 ++ [⟨1, [], dB⟩] ++ [⟨1, [], dA⟩, ⟨1, [], []⟩])) = MXe at *
      have HSSe : Hid (∀ V : World, Row V gM 30 MXe → Row V gw 36 [.int .u64 um, .int .u64 p, .int .i64 (nn)] → V.rangeAt gM 0 MXe ∧ V.rangeAt gw 0 [.int .u64 um, .int .u64 p, .int .i64 (nn)]) := Lib.hid fun V h1 h2 => ⟨fun j u hu => by rw [h1.cell, Nat.zero_add]; exact hu, fun j u hu => by rw [h2.cell, Nat.zero_add]; exact hu⟩
      have SSe := Lib.hid (HSSe.out _ HRMe.out RXe.out)
      have Ne := bud_eql um p (nn)
      refine wp_region_held_drew (S := fun V => V.rangeAt gM 0 MXe ∧ V.rangeAt gw 0 [.int .u64 um, .int .u64 p, .int .i64 (nn)]) (by kernel_rfl) SSe.out (fun _ => ?_)
      generalize VSd.drew = VXe at *
      refine takeL (i := 0) (v := .agg (MXe).toArray) rfl (by kernel_rfl) (by kernel_rfl) (by kernel_rfl) (fun _ _ _ h => h) (yieldsIf_load_mid (by kernel_rfl) 30 (.tmp 11) rfl gM 0 (by go_simp) (MXe) _ (fun w hw => hw.1) Tryd.underlying30 rfl HSZe.out) SSe.out ?_
      try simp only [Act.put, List.setIfInBounds_toArray, List.set_cons_zero, List.set_cons_succ]
      refine takeL (i := 2) (v := .agg ([.int .u64 um, .int .u64 p, .int .i64 (nn)]).toArray) rfl (by kernel_rfl) (by kernel_rfl) (by kernel_rfl) (fun _ _ _ h => h) (yieldsIf_load_mid (by kernel_rfl) 36 (.tmp 13) rfl gw 0 (by go_simp) ([.int .u64 um, .int .u64 p, .int .i64 (nn)]) _ (fun w hw => hw.2) Tryd.underlying36 rfl (size_bud _ _ _)) SSe.out ?_
      try simp only [Act.put, List.setIfInBounds_toArray, List.set_cons_zero, List.set_cons_succ]
      refine readyL (i := 1) rfl (by kernel_rfl) (by kernel_rfl) fun K hK => ?_
      go_simp
      refine HOFe.out.mono ?_
      rintro e VYe ⟨rfl, hb⟩
      simp only []
      have TYe := Lib.hid (TXe.out.below hb)
      have RYe := Lib.hid (RXe.out.below hb RXe.out.lt)
      have RMY := Lib.hid (HRMe.out.below hb HRMe.out.lt)
      have SYe := Lib.hid (HSSe.out _ RMY.out RYe.out)
      clear hb
      refine hK.out _ _ SYe.out ?_
      clear hK K
      try simp only [Act.put, List.setIfInBounds_toArray, List.set_cons_zero, List.set_cons_succ]
      refine takeL (i := 3) (v := .bool true) rfl (by kernel_rfl) (by kernel_rfl) (by kernel_rfl) (fun _ _ _ h => h) (Or.inl ⟨by kernel_rfl, fun w hw => by go_simp⟩) SYe.out ?_
      try simp only [Act.put, List.setIfInBounds_toArray, List.set_cons_zero, List.set_cons_succ]
      refine takeL (i := 4) (v := ?_) rfl (by kernel_rfl) (by kernel_rfl) (by kernel_rfl) (fun _ _ _ h => h) (Or.inl ⟨by rfl, ?_⟩) SYe.out ?_
      rotate_left
      · intro w hw
        try dsimp only at hw
        go_simp
        try with_reducible rfl
      try simp only [Act.put, List.setIfInBounds_toArray, List.set_cons_zero, List.set_cons_succ]
      refine readyL (i := 5) rfl (by kernel_rfl) (by kernel_rfl) fun K hK => ?_
      go_simp
      refine (lives8 VYe (HL.out.below TYe.out.bel HP.out)).mono ?_
      rintro e VZ ⟨rfl, hb⟩
      simp only []
      have BZ := Lib.hid (TYe.out.bel.trans (hb.mono TYe.out.bel.size))
      have SZ := Lib.hid (HSSe.out _ (RMY.out.below hb RMY.out.lt) (RYe.out.below hb RYe.out.lt))
      clear hb
      refine hK.out _ _ SZ.out ?_
      clear hK K
      try simp only [Act.put, List.setIfInBounds_toArray, List.set_cons_zero, List.set_cons_succ]
      refine takeL (i := 6) (v := ?_) rfl (by kernel_rfl) (by kernel_rfl) (by kernel_rfl) (fun _ _ _ h => h) (Or.inl ⟨by rfl, ?_⟩) SZ.out ?_
      rotate_left
      · intro w hw
        try dsimp only at hw
        go_simp
        try with_reducible rfl
      try simp only [Act.put, List.setIfInBounds_toArray, List.set_cons_zero, List.set_cons_succ]
      refine takeL (i := 7) (v := ?_) rfl (by kernel_rfl) (by kernel_rfl) (by kernel_rfl) (fun _ _ _ h => h) (Or.inl ⟨by rfl, ?_⟩) SZ.out ?_
      rotate_left
      · intro w hw
        try dsimp only at hw
        go_simp
        try with_reducible rfl
      try simp only [Act.put, List.setIfInBounds_toArray, List.set_cons_zero, List.set_cons_succ]
      refine wpAnyH_done (by kernel_rfl) ?_ _
      go_wp2_with fail
      go_ret
      exact ⟨rfl, BZ.out⟩
end Go.Proofs.YtdeadehcnellpaaDoor

/-
  Of part Open8: what is needed here.
-/
namespace Go.Proofs.YtdeadehcnellpaaDoor
open Go.ChangeShapes Go.WideShapes Go.RowKit
set_option linter.unusedVariables false
section
variable {H : Type} {enc : TypeId × Value → H} {w : World} {base b0 : Nat} {held : Bool}
theorem open_instr {r : Reach} {v : Value} {d : DataW H} {p : List MemPlace} (hv : Value.okWide Tryd.prog w r b0 45 v) (h : DataW.Trod enc Tryd.prog w base (fun _ => true) held 45 v d p) (hw : Wt 45 d) :
    ∃ (x : LIn) (va vd : Value), v = .agg (inCells x.p va vd).toArray ∧ BytesIn w w.heap.size va x.acc ∧ BytesIn w w.heap.size vd x.dat ∧ (IsByte x.p ∧ AllBytes x.acc ∧ AllBytes x.dat) := by
  simp only [Value.okWide, Tryd.underlying45] at hv
  obtain ⟨arr, rfl, h2, _⟩ := hv
  obtain ⟨fuel, hf⟩ := h
  obtain ⟨y0, y1, y2, k, hk, hl, t0, t1, t2⟩ := Go.Deep.trod_struct3 Tryd.underlying45 hf
  rw [cellsIn] at hl
  have hl' : arr.toList.length = 3 := hl
  obtain ⟨c0, c1, c2, hc⟩ : ∃ c0 c1 c2, arr.toList = [c0, c1, c2] := three_of hl'
  have hx1 : d = .agg [y0.1, y1.1, y2.1] := by simpa using congrArg Prod.fst hk
  rw [hx1] at hw
  obtain ⟨w1, w2⟩ := wt_in hw
  have hc' : (Value.agg arr).cells.toList = [c0, c1, c2] := hc
  rw [hc'] at t0 t1 t2
  have t0' : DataW.trod enc Tryd.prog w base (fun _ => true) held k 5 [c0] = some y0 := by simpa [cellsU8] using t0
  have t1' : DataW.trod enc Tryd.prog w base (fun _ => true) held k 40 [c1] = some y1 := by simpa [cellsBs] using t1
  have t2' : DataW.trod enc Tryd.prog w base (fun _ => true) held k 40 [c2] = some y2 := by simpa [cellsBs] using t2
  obtain ⟨z, hz, _, hz'⟩ := DataW.trod_int Tryd.underlying5 t0'
  obtain rfl : c0 = .int .u8 z := by simpa using hz
  obtain ⟨la, a1, a2, a3⟩ := open_bytes t1' w1
  obtain ⟨ld, d1, d2, d3⟩ := open_bytes t2' w2
  refine ⟨⟨z, la, ld⟩, c1, c2, ?_, a1, d1, byte_wf hz', a2, d2⟩
  have : arr = (arr.toList).toArray := by simp
  rw [this, hc]
  rfl
end
/-- another list of instructions -/
def insM (m : LMsg) (l : List LIn) : LMsg := { m with ins := l }
def rawM (q : Raw) (A : Option Addr) (n c : Nat) : Raw := { q with IA := A, n := n, ic := c }
theorem cells_insM (q : Raw) (m : LMsg) (h : m.recent.length = 32) (A : Option Addr) (n c : Nat) (l : List LIn) : (Raw.cells q m).set 37 (.slice A n c) = Raw.cells (rawM q A n c) (insM m l) := by
  unfold Raw.cells
  rw [List.set_append_right _ _ (by simp), List.set_append_right _ _ (by rw [bv_length, h]; simp), bv_length, h]
  rfl
theorem in_insM {w : World} {B c : Nat} {q : Raw} {m : LMsg} {l : List LIn} (h : MsgIn w B q m) {A : Option Addr} {n : Nat} (hs : InsIn w B A n l) (hc : n ≤ c ∧ c ≤ maxLen) : MsgIn w B (rawM q A n c) (insM m l) :=
  ⟨h.recent, h.keys, hs, h.looks, h.kn, hc, h.ln⟩
theorem msg_c37 {w : World} {g t : Nat} {q : Raw} {m : LMsg} (hr : Row w g t (q.cells m)) (h : m.recent.length = 32) : w.cell? ⟨g, 37, none⟩ = some (.slice q.IA q.n q.ic) := (hr.cell 37).trans (cells_37 h)
end Go.Proofs.YtdeadehcnellpaaDoor

/-
  Of part Bad8: what is needed here.
-/
namespace Go.Proofs.YtdeadehcnellpaaDoor
open Go.RowKit
set_option linter.unusedVariables false
/-- other data, from behind the place b to ahead of the place k -/
def setTo (l : List LIn) (d : List Int) (b k : Nat) : List LIn := l.mapIdx fun j x => if b < j ∧ j < k then ⟨x.p, x.acc, d⟩ else x
section
variable {l : List LIn} {d : List Int} {b k : Nat}
theorem setTo_get (i : Nat) : (setTo l d b k)[i]? = l[i]?.map fun x => if b < i ∧ i < k then (⟨x.p, x.acc, d⟩ : LIn) else x := by unfold setTo; rw [List.getElem?_mapIdx]
theorem setTo_len : (setTo l d b k).length = l.length := by unfold setTo; simp
theorem setTo_start : setTo l d b (b + 1) = l := by
  apply List.ext_getElem?
  intro i
  rw [setTo_get]
  cases l[i]? with
  | none => rfl
  | some x => rw [Option.map_some, if_neg (by omega)]
theorem setTo_at {x : LIn} (h : l[k]? = some x) : (setTo l d b k)[k]? = some x := by rw [setTo_get, h, Option.map_some, if_neg (by omega)]
theorem setTo_succ {x : LIn} (hb : b < k) (h : l[k]? = some x) : setTo l d b (k + 1) = (setTo l d b k).set k ⟨x.p, x.acc, d⟩ := by
  have hk := (List.getElem?_eq_some_iff.1 h).1
  apply List.ext_getElem?
  intro i
  by_cases e : k = i
  · subst e
    rw [List.getElem?_set_self (by rw [setTo_len]; exact hk), setTo_get, h, Option.map_some, if_pos (by omega)]
  · rw [List.getElem?_set_ne e, setTo_get, setTo_get]
    cases l[i]? with
    | none => rfl
    | some y =>
      rw [Option.map_some, Option.map_some]
      by_cases hi : b < i ∧ i < k
      · rw [if_pos hi, if_pos (by omega)]
      · rw [if_neg hi, if_neg (by omega)]
theorem setTo_same : ∀ i x y, l[i]? = some x → (setTo l d b k)[i]? = some y → y.p = x.p ∧ (i ≤ b → y.dat = x.dat) := by
  intro i x y hx hy
  rw [setTo_get, hx, Option.map_some] at hy
  obtain rfl := Option.some.inj hy
  by_cases hi : b < i ∧ i < k
  · rw [if_pos hi]; exact ⟨rfl, fun h => by omega⟩
  · rw [if_neg hi]; exact ⟨rfl, fun _ => rfl⟩
theorem setTo_ok (h : ∀ i ∈ l, IsByte i.p ∧ AllBytes i.dat) (hd : AllBytes d) : ∀ i ∈ setTo l d b k, IsByte i.p ∧ AllBytes i.dat := by
  intro x hx
  obtain ⟨i, hi⟩ := List.getElem?_of_mem hx
  rw [setTo_get] at hi
  obtain ⟨y, hy, rfl⟩ := Option.map_eq_some_iff.1 hi
  have := h y (List.mem_of_getElem? hy)
  split
  · exact ⟨this.1, hd⟩
  · exact this
end
theorem InsIn.take {w : World} {B n k : Nat} {A : Option Addr} {l : List LIn} (h : InsIn w B A n l) (hk : k ≤ n) : InsIn w B A k (l.take k) :=
  ⟨by rw [List.length_take, h.len]; omega, fun i x hx => by
    rw [List.getElem?_take] at hx
    split at hx
    · exact h.at_ i x hx
    · cases hx⟩
section
variable {P : Program} {w : World} {o : Oper} {a : Act}
theorem run_head (t e : TypeId) (x j : Operand) (sz : Nat) (ho : o.op = .slice t x none (some j) none) (ht : P.underlying t = some (.slice e)) (hsz : (P.info? e).map (·.size) = some sz)
    (A : Option Addr) (n c k : Nat) (hx : a.eval x = .slice A n c) (hj : a.eval j = .int .i64 k) (hk : k ≤ c) :
    (execOp a.eval o).run P w = .ok (.value (.slice A k c)) w := by
  obtain ⟨ie, hie, hs1⟩ : ∃ i, P.info? e = some i ∧ i.size = sz := by
    cases h : P.info? e with
    | none => rw [h] at hsz; cases hsz
    | some i => rw [h] at hsz; exact ⟨i, rfl, by simpa using hsz⟩
  have he : P.elem t = e := by simp [Program.elem, ht]
  have ht' : P.underlying t = some (.slice (P.elem t)) := by rw [he]; exact ht
  have hso : (sizeOf e).run P w = .ok sz w := by simp [sizeOf, typeInfo, hie, hs1]
  have h0 : (0 : Int) ≤ k := by omega
  have h2 : (k : Int) ≤ c := by omega
  have ha : (if c = 0 then A else A.map (·.add (0 * sz))) = A := by
    split
    · rfl
    · cases A with
      | none => rfl
      | some ad => simp [Addr.add]
  unfold execOp
  simp only [ho, hx, hj, Option.map_some, Option.map_none]
  simp only [Sem.run_bind, run_sliceAt_slice w t _ _ _ _ ht', run_slice_h w t A n c ht' .i64 k h0 h2, he, hso, Result.andThen_ok, sliced, Int.toNat_natCast, Sem.run_pure, Nat.sub_zero, ha]
theorem wpList_head {ops : Array Oper} {rest : List Oper} {Q : Exit → Act → World → Prop} (hgd : o.guard = none) (t e : TypeId) (x j : Operand) (sz : Nat) (ho : o.op = .slice t x none (some j) none) (ht : P.underlying t = some (.slice e)) (hsz : (P.info? e).map (·.size) = some sz)
    (A : Option Addr) (n c k : Nat) (hx : a.eval x = .slice A n c) (hj : a.eval j = .int .i64 k) (hk : k ≤ c)
    (h : wpList P ops Q rest (a.put o.dst (.slice A k c)) w) : wpList P ops Q (o :: rest) a w :=
  wpList_plain hgd fun K hK => by
    unfold Oper.wp
    rw [run_head t e x j sz ho ht hsz A n c k hx hj hk]
    exact hK _ _ h
end
theorem came_bytes {W : World} {A : Option Addr} {n c : Nat} {zs : List Int} (h : CameIn .u8 W A n c zs) : BytesIn W W.heap.size (.slice A n c) zs := by
  have hl : zs.length = n := by have := h.sees.len; rwa [cv_length] at this
  exact ⟨A, c, by rw [hl], by rw [hl]; exact h.sees, by rw [hl]; exact h.cap, h.max⟩
/-- what the law holds on to -/
structure BCtx (w V : World) (q : Raw) (m : LMsg) (MC : List Value) (D : Value) (dz : List Int) : Prop where
  msg : Row V w.heap.size 30 MC
  m : MsgIn V w.heap.size q m
  d : BytesIn V w.heap.size D dz
  b : Below w.heap.size w V
section
variable {w V V' : World} {q : Raw} {m : LMsg} {MC : List Value} {D : Value} {dz : List Int}
theorem BCtx.low {B : Nat} (h : BCtx w V q m MC D dz) (hb : Below B V V') (hB : w.heap.size + 1 ≤ B) : BCtx w V' q m MC D dz :=
  ⟨h.msg.below hb (by omega), h.m.below (hb.mono (by omega)), h.d.below (hb.mono (by omega)), h.b.trans (hb.mono (by omega))⟩
theorem BCtx.size (h : BCtx w V q m MC D dz) : w.heap.size + 1 ≤ V.heap.size := h.msg.lt
theorem BCtx.below (h : BCtx w V q m MC D dz) (hb : Below V.heap.size V V') : BCtx w V' q m MC D dz := h.low hb h.size
theorem BCtx.drew (h : BCtx w V q m MC D dz) : BCtx w V.drew q m MC D dz := h.below (Below.refl _ _).drew
end
set_option maxRecDepth 100000 in
set_option maxHeartbeats 8000000 in
theorem bad_walk (q : Raw) (m : LMsg) (DA : Option Addr) (dn dc : Nat) (dz : List Int) (w : World) (hm : MsgIn w w.heap.size q m) (hs : Sized m) (hwf : m.Wf) (hd : BytesIn w w.heap.size (.slice DA dn dc) dz) (hdz : AllBytes dz) (hl : LenAt w) :
    Calls Tryd.prog 5 #[.agg (q.cells m).toArray, .slice DA dn dc] w fun e w' => e = .returned (.bool true) ∧ Below w.heap.size w w' := by
  have hb0 := (Below.refl w.heap.size w).alloc (Nat.le_refl _) (.cells (q.cells m).toArray 30)
  have hc0 : BCtx w (w.alloc (.cells (q.cells m).toArray 30)) q m (q.cells m) (.slice DA dn dc) dz := ⟨Row.new w 30 (q.cells m), hm.below hb0, hd.below hb0, hb0⟩
  have HG := Lib.hid (great_ q m w.heap.size _ hc0.m hb0.size hs)
  have HTS := Lib.hid (show (Tryd.prog.info? 30).map (·.size) = some (q.cells m).length by rw [size_msg, cells_len hm.recent])
  have HTO := Lib.hid (cells_one (q := q) (m := m))
  have HTL := Lib.hid (cells_len (q := q) (m := m) hm.recent)
  have H37 := Lib.hid (fun (V : World) (g : Nat) (h : Row V g 30 (q.cells m)) => msg_c37 h hm.recent)
  have HSET := Lib.hid (fun A n c l => cells_insM q m hm.recent A n c l)
  have HINM := Lib.hid (fun (V : World) (A : Option Addr) (n c : Nat) (l : List LIn) (h : MsgIn V V.heap.size q m) (hs : InsIn V V.heap.size A n l) (hc : n ≤ c ∧ c ≤ maxLen) => in_insM h hs hc)
  have HSZ := Lib.hid (fun (A : Option Addr) (n c : Nat) (l : List LIn) => show (Tryd.prog.info? 30).map (·.size) = some ((rawM q A n c).cells (insM m l)).length by rw [size_msg, cells_len (by exact hm.recent)])
  have HX37 := Lib.hid (fun (A : Option Addr) (n c : Nat) (l : List LIn) => show ((rawM q A n c).cells (insM m l))[37]? = some (.slice A n c) from cells_37 hm.recent)
  have hib : ∀ i ∈ m.ins, IsByte i.p ∧ AllBytes i.dat := fun i hi => ⟨(hwf.ins i hi).1, (hwf.ins i hi).2.2⟩
  have HIB := Lib.hid hib
  have HOK := Lib.hid (run8_ok (keys := m.keys) (ins_bytes hib) m.ins.length (Nat.le_refl _))
  have HDZ := Lib.hid hdz
  have HL := Lib.hid hl
  have HP := Lib.hid hl.pos
  have li := hm.ins.len
  have hnc := hm.n
  obtain ⟨KA, kn, kc, IA, n, ic, LA, ln, lc⟩ := q
  dsimp only at *
  have HLI := Lib.hid li
  have HNC := Lib.hid hnc
  have HC0 := Lib.hid hc0
  clear hb0 hm hs hwf hd hdz hl li hc0 hib hnc
  generalize hMC : Raw.cells ⟨KA, kn, kc, IA, n, ic, LA, ln, lc⟩ m = MC at *
  have HMC := Lib.hid hMC
  clear hMC
  generalize hQ : (⟨KA, kn, kc, IA, n, ic, LA, ln, lc⟩ : Raw) = Q at *
  have HIAN : Hid (∀ V : World, MsgIn V w.heap.size Q m → InsIn V w.heap.size IA n m.ins) := Lib.hid fun V h => by rw [← hQ] at h; exact h.ins
  have HQN : Hid (Q.n = n) := Lib.hid (by rw [← hQ])
  have HQ37 : Hid (∀ (V : World) (g : Nat), Row V g 30 MC → V.cell? ⟨g, 37, none⟩ = some (.slice IA n ic)) := Lib.hid fun V g h => H37.out V g h
  clear hQ H37
  go_enter Tryd.func5, Tryd.ntmps5
  go_wp2_with ((with_reducible show wpList _ _ _ ({ dst := some 10, op := Op.load _ _, type := _, pos := _, after := _, guard := _ } :: _) _ _); go_must (refine wpList_load_whole rfl 30 (.tmp 2) rfl w.heap.size 30 MC _ Tryd.underlying30 rfl HTS.out HC0.out.msg ?_ ?_; go_simp))
  refine HG.out.mono ?_
  rintro e w1 ⟨⟨gb, rfl, hgr⟩, hb1⟩
  have C1 := Lib.hid (HC0.out.below hb1)
  clear hb1 HG HC0
  cases gb with
  | true =>
    clear hgr
    go_wp2_with fail
    refine (lives8 _ (HL.out.below C1.out.b HP.out)).mono ?_
    rintro e w2 ⟨rfl, hb2⟩
    go_wp2_with fail
    go_ret
    exact ⟨rfl, C1.out.b.trans (hb2.mono C1.out.b.size)⟩
  | false =>
  have ht := hgr rfl
  have HIN : Hid (n ≤ 3000) := Lib.hid (by have := HLI.out; unfold total at ht; omega)
  clear hgr ht
  by_cases h5 : (500 : Int) < (dn : Int)
  · go_wp2_with fail
    refine (lives8 _ (HL.out.below C1.out.b HP.out)).mono ?_
    rintro e w2 ⟨rfl, hb2⟩
    go_wp2_with fail
    go_ret
    exact ⟨rfl, C1.out.b.trans (hb2.mono C1.out.b.size)⟩
  have h5' : decide ((500 : Int) < (dn : Int)) = false := decide_eq_false h5
  have HO1 : Hid (∀ V : World, MsgIn V w.heap.size Q m → w.heap.size ≤ V.heap.size → LenAt V → Calls Tryd.prog 10 #[.agg MC.toArray] V fun e w' => e = .returned (.agg (bud8 (all8 m.keys m.ins)).toArray) ∧ Below V.heap.size V w') := Lib.hid fun V h hb hl => by
    have := ofB_ Q m w.heap.size V h hb HIB.out (by have := HIN.out; rw [HQN.out]; omega) hl
    rw [HMC.out] at this
    exact this
  have HOX : Hid (∀ (V : World) (A : Option Addr) (k c : Nat) (l : List LIn), MsgIn V V.heap.size (rawM Q A k c) (insM m l) → k ≤ 4000 → (∀ i ∈ l, IsByte i.p ∧ AllBytes i.dat) → LenAt V → Calls Tryd.prog 10 #[.agg ((rawM Q A k c).cells (insM m l)).toArray] V fun e w' => e = .returned (.agg (bud8 (all8 m.keys l)).toArray) ∧ Below V.heap.size V w') := Lib.hid fun V A k c l h hk hi hl => ofB_ _ _ V.heap.size V h (Nat.le_refl _) hi hk hl
  obtain ⟨S, hS⟩ : ∃ S, all8 m.keys m.ins = S := ⟨_, rfl⟩
  have hok : BSOk m.ins.length S := by rw [← hS]; exact HOK.out
  have HS := Lib.hid hS
  have HB8 : Hid (bud8 S = [.int .u64 (units8 S), .int .u64 (S.p.getD 0), .int .i64 S.bad]) := Lib.hid rfl
  rw [hS] at HO1
  rw [HB8.out] at HO1
  have HOKS := Lib.hid hok
  clear hS hok HOK
  have hu2 := units8_le S
  obtain ⟨ux, hux⟩ : ∃ x, units8 S = x := ⟨_, rfl⟩
  obtain ⟨px, hpx⟩ : ∃ x, S.p.getD 0 = x := ⟨_, rfl⟩
  obtain ⟨bx, hbx⟩ : ∃ x, S.bad = x := ⟨_, rfl⟩
  rw [hux, hpx, hbx] at HO1
  rw [hux] at hu2
  have HUX := Lib.hid hux
  have HPX := Lib.hid hpx
  have HBX := Lib.hid hbx
  have HU2 := Lib.hid hu2
  clear hux hpx hbx hu2
  go_wp2_with ((with_reducible show wpList _ _ _ ({ dst := some 18, op := Op.load _ _, type := _, pos := _, after := _, guard := _ } :: _) _ _); go_must (refine wpList_load_whole rfl 30 (.tmp 2) rfl w.heap.size 30 MC _ Tryd.underlying30 rfl HTS.out C1.out.msg ?_ ?_; go_simp))
  refine (HO1.out w1 C1.out.m C1.out.b.size (HL.out.below C1.out.b HP.out)).mono ?_
  rintro e w2 ⟨rfl, hb2⟩
  have C2 := Lib.hid (C1.out.below hb2)
  clear hb2 HO1 C1
  go_upto_region 4 with ((with_reducible show wpList _ _ _ ({ dst := none, op := Op.store 36 _ _, type := _, pos := _, after := _, guard := _ } :: _) _ _); go_must (refine wpList_store_new rfl 36 (.tmp 5) (.tmp 19) rfl [.int .u64 ux, .int .u64 px, .int .i64 bx] (size_bud _ _ _) (bud_one _ _ _) rfl ?_ ?_ ?_; go_simp; go_simp; intro w3 hr3 hb3 hz3; have R3 := Lib.hid hr3; have C3 := Lib.hid (C2.out.below hb3); clear hr3 hb3 hz3))
  obtain ⟨gb, hgb⟩ : ∃ g, g = w2.heap.size := ⟨_, rfl⟩
  have HGB : Hid (w.heap.size + 1 ≤ gb) := Lib.hid (by rw [hgb]; exact C2.out.size)
  rw [← hgb] at R3 ⊢
  clear hgb C2
  have d0 : w3.cell? ⟨gb, 0, none⟩ = some (.int .u64 ux) := R3.out.cell 0
  have d2 : w3.cell? ⟨gb, 2, none⟩ = some (.int .i64 bx) := R3.out.cell 2
  have HLV := Lib.hid (lives8 w3 (HL.out.below C3.out.b HP.out))
  rcases HOKS.out.bad with hneg | ⟨hpos, hlt⟩
  · obtain rfl : bx = -1 := by rw [← HBX.out]; exact hneg
    have hu2 := HU2.out
    have hu2' : decide (ux ≤ 1400000) = true := decide_eq_true hu2
    clear hneg
    go_wp2_with fail
    refine HLV.out.mono ?_
    rintro e w4 ⟨rfl, hb4⟩
    go_wp2_with fail
    go_ret
    exact ⟨rfl, C3.out.b.trans (hb4.mono C3.out.b.size)⟩
  obtain ⟨b, hb⟩ := Int.eq_ofNat_of_zero_le hpos
  have hbb : S.bad = (b : Int) := hb
  obtain rfl : bx = (b : Int) := by rw [← HBX.out]; exact hbb
  have hbn : b < n := by have := HLI.out; rw [hbb, this] at hlt; omega
  have HBAD : Hid ((all8 m.keys m.ins).bad = (b : Int)) := Lib.hid (by rw [HS.out]; exact hbb)
  clear hb hbb hpos hlt HLV HOKS
  have hg1 : decide ((n : Int) ≤ (b : Int)) = false := decide_eq_false (by omega)
  have hg2 : ¬ (n : Int) ≤ (b : Int) := by omega
  have hg3 : ¬ n ≤ b := by omega
  have hg4 : decide ((1400000 : Int) < ux) = false := decide_eq_false (by have := HU2.out; omega)
  have hg5 : ¬ (1400000 : Int) < ux := by have := HU2.out; omega
  have hn0 : ¬ (b : Int) < 0 := by omega
  have c37 : w3.cell? ⟨w.heap.size, 37, none⟩ = some (.slice IA n ic) := HQ37.out w3 _ C3.out.msg
  go_upto_region 9 with (first
    | ((with_reducible show wpList _ _ _ ({ dst := some 45, op := Op.load _ _, type := _, pos := _, after := _, guard := _ } :: _) _ _); go_must (refine wpList_load_whole rfl 30 (.tmp 2) rfl w.heap.size 30 MC _ Tryd.underlying30 rfl HTS.out C3.out.msg ?_ ?_; go_simp))
    | ((with_reducible show wpList _ _ _ ({ dst := none, op := Op.store 30 _ _, type := _, pos := _, after := _, guard := _ } :: _) _ _); go_must (refine wpList_store_new rfl 30 (.tmp 6) (.tmp 45) rfl MC HTS.out HTO.out (by rw [HTL.out]; rfl) ?_ ?_ ?_; go_simp; go_simp; intro w4 hr4 hb4 hz4; have RY := Lib.hid hr4; have B4 := Lib.hid hb4; clear hr4 hb4 hz4)))
  have C4 := Lib.hid (C3.out.below B4.out)
  have RB4 := Lib.hid (R3.out.below B4.out R3.out.lt)
  have HG6 : Hid (gb < w3.heap.size) := Lib.hid R3.out.lt
  obtain ⟨gy, hgy⟩ : ∃ g, g = w3.heap.size := ⟨_, rfl⟩
  rw [← hgy] at RY HG6 ⊢
  clear hgy R3 C3 B4 d0 d2 c37
  have c37 : w4.cell? ⟨w.heap.size, 37, none⟩ = some (.slice IA n ic) := HQ37.out w4 _ C4.out.msg
  have y37 : w4.cell? ⟨gy, 37, none⟩ = some (.slice IA n ic) := HQ37.out w4 _ RY.out
  obtain ⟨news, hic, hsee⟩ := (HIAN.out w4 C4.out.m).cells
  have HN := Lib.hid hic
  have HSE := Lib.hid hsee
  have HG7 : Hid (gy < w4.heap.size) := Lib.hid RY.out.lt
  clear hic hsee
  go_upto_region 10 with ((with_reducible show wpList _ _ _ ({ dst := some 48, op := _, type := _, pos := _, after := _, guard := _ } :: _) _ _); go_must (refine wpList_appendN rfl (.const (.slice none 0 0)) (.tmp 47) 27 45 _ 3 56 rfl Tryd.underlying27 info_ins5 (by kernel_rfl) (by omega) (.slice none 0 0) 0 [] w4.heap.size w.heap.size IA n ic news rfl (own_nilN _ _ _ _) ?_ HSE.out HN.out.one (by have := HIN.out; unfold maxLen; omega) (by have := HIN.out; omega) (Nat.le_refl _) ?_; go_simp; intro v1 u1 ho1 hg1; rw [Nat.zero_add, List.nil_append] at ho1; obtain ⟨A1, c1, rfl, _, hca, hcb, hlt1⟩ := own_form2 ho1; have hb1 : Below w4.heap.size w4 u1 := (Below.refl _ _).grown hg1.grown (Nat.le_refl _) (fun k hk => by cases hk); have BU := Lib.hid hb1; have O1 := Lib.hid ho1; have CC1 := Lib.hid (And.intro hca hcb); have RY1 := Lib.hid (RY.out.below hb1 RY.out.lt); have e37 : u1.cell? ⟨gy, 37, none⟩ = some (.slice IA n ic) := HQ37.out u1 _ RY1.out; have f37 := RY1.out.frozen 37; clear ho1 hg1 hlt1 hb1 hca hcb))
  clear c37 y37 e37 f37
  have hbs := (Below.refl gy u1).setCell (p := ⟨gy, 37, none⟩) (Nat.le_refl gy) (.slice A1 n c1)
  have hry := RY1.out.set_ 37 (.slice A1 n c1)
  rw [HSET.out A1 n c1 m.ins] at hry
  have RY2 := Lib.hid hry
  have BW : Hid (Below gy w4 (u1.setCell ⟨gy, 37, none⟩ (.slice A1 n c1))) := Lib.hid ((BU.out.mono (Nat.le_of_lt HG7.out)).trans hbs)
  have C5 := Lib.hid (C4.out.low BW.out (by have := HG6.out; have := HGB.out; omega))
  have RB5 := Lib.hid (RB4.out.below BW.out HG6.out)
  have O5 := Lib.hid (own_turned O1.out RY1.out (by decide) (turned_setCell u1 ⟨gy, 37, none⟩ (.slice A1 n c1)))
  have N5 := Lib.hid (HN.out.below (BW.out.mono (by have := HG6.out; have := HGB.out; omega)))
  have G5 : Hid (w4.heap.size ≤ (u1.setCell ⟨gy, 37, none⟩ (.slice A1 n c1)).heap.size) := Lib.hid (Nat.le_trans BU.out.size hbs.size)
  obtain ⟨g0, hg0⟩ : ∃ g, g = w4.heap.size := ⟨_, rfl⟩
  rw [← hg0] at O5 HG7 G5
  clear hry hbs BU O1 RY1 RY C4 RB4 HN HSE BW hg0
  generalize u1.setCell ⟨gy, 37, none⟩ (.slice A1 n c1) = W5 at *
  have d2 : W5.cell? ⟨gb, 2, none⟩ = some (.int .i64 (b : Int)) := RB5.out.cell 2
  have hwb : IntKind.i64.wrap ((b : Int) + 1) = (b : Int) + 1 := IntWalk.i64_in _ (by have := HIN.out; omega)
  go_wp2_with fail
  go_loopw [7] (fun i wr => ∃ (k : Nat) (ns : List Value), b + 1 ≤ k ∧ k ≤ n ∧ i = .int .i64 k ∧ InsCells wr w.heap.size (setTo m.ins dz b k) ns ∧ BCtx w wr Q m MC (.slice DA dn dc) dz ∧ Row wr gy 30 ((rawM Q A1 n c1).cells (insM m m.ins)) ∧ Row wr gb 36 [.int .u64 ux, .int .u64 px, .int .i64 b] ∧ wr.ownsRow g0 45 3 (.slice A1 n c1) n ns ∧ g0 ≤ wr.heap.size) (fun i _ => n - (intOf i).toNat)
  case atStart => exact ⟨b + 1, news, Nat.le_refl _, hbn, by go_num, by rw [setTo_start]; exact N5.out, C5.out, RY2.out, RB5.out, O5.out, G5.out⟩
  case round =>
    obtain ⟨k, ns, hk1, hk2, rfl, hnc, hc, hy, hrb, ho, hgz⟩ := hrel
    have N6 := Lib.hid hnc
    have C6 := Lib.hid hc
    have Y6 := Lib.hid hy
    have RB6 := Lib.hid hrb
    have O6 := Lib.hid ho
    have G6 := Lib.hid hgz
    clear hnc hc hy hrb ho hgz d2 C5 RY2 RB5 O5 N5 G5
    have y37 : wr.cell? ⟨gy, 37, none⟩ = some (.slice A1 n c1) := (Y6.out.cell 37).trans (HX37.out A1 n c1 m.ins)
    by_cases hlt : k < n
    · obtain ⟨x, hx⟩ : ∃ x, m.ins[k]? = some x := ⟨_, List.getElem?_eq_getElem (by rw [HLI.out]; exact hlt)⟩
      have hst := setTo_at (d := dz) (b := b) hx
      have HSU := Lib.hid (setTo_succ (d := dz) (b := b) (by omega) hx)
      have HST := Lib.hid hst
      obtain ⟨g, c, rest, hv, hrow, hc1, hc2, hbg, hlen⟩ := own_rows2 O6.out (by rw [N6.out.len, setTo_len, HLI.out]; omega) (by omega)
      injection hv with hA _ hC
      subst hA
      subst hC
      obtain ⟨va, vd, n0, n1, n2, n3, n4⟩ := N6.out.at_ k x hst
      have hcell : wr.cell? ⟨g, k * 3 + 2, none⟩ = some vd := (hrow.cell _).trans (by rw [List.getElem?_append_left (List.getElem?_eq_some_iff.1 n2).1]; exact n2)
      have hfz := hrow.frozen (k * 3 + 2)
      have HROW := Lib.hid hrow
      have HCC := Lib.hid (And.intro hc1 hc2)
      have HBG := Lib.hid hbg
      have HLEN := Lib.hid hlen
      have HN2 := Lib.hid n2
      have hvd : ∃ A' n' c', vd = .slice A' n' c' := by obtain ⟨A', c', e, _⟩ := n4.is; exact ⟨_, _, _, e⟩
      obtain ⟨A', n', c', rfl⟩ := hvd
      clear hrow hc2 hbg hlen n0 n1 n2 n3 n4 hx hst
      have hnn := HIN.out
      go_wp2_with fail
      go_roundw
      case rel =>
        have hr := HROW.out.set_ (k * 3 + 2) (.slice DA dn dc)
        have hlt3 := (List.getElem?_eq_some_iff.1 HN2.out).1
        rw [List.set_append_left _ _ hlt3] at hr
        have hge : w.heap.size + 1 ≤ g := by have := HBG.out; have := HG7.out; have := HG6.out; have := HGB.out; omega
        refine ⟨k + 1, ns.set (k * 3 + 2) (.slice DA dn dc), by omega, by omega, by go_num, ?_, C6.out.low ((Below.refl (w.heap.size + 1) wr).setCell (p := ⟨g, k * 3 + 2, none⟩) hge _) (Nat.le_refl _), Y6.out.far (p := ⟨g, k * 3 + 2, none⟩) (show gy ≠ g by have := HBG.out; have := HG7.out; omega) _, RB6.out.far (p := ⟨g, k * 3 + 2, none⟩) (show gb ≠ g by have := HBG.out; have := HG7.out; have := HG6.out; omega) _, own_of_row hr ?_ ?_ HCC.out.1 HCC.out.2 HBG.out, Nat.le_trans G6.out (by simp)⟩
        · rw [HSU.out]
          exact (N6.out.setDat HST.out C6.out.d).below ((Below.refl w.heap.size wr).setCell (p := ⟨g, k * 3 + 2, none⟩) (show w.heap.size ≤ g by omega) _)
        · rw [List.length_set]; exact O6.out.1
        · rw [List.length_append, List.length_set, ← List.length_append]; exact HLEN.out
      case measure => simp [intOf]; omega
    obtain rfl : k = n := by omega
    obtain ⟨W8, hW8⟩ : ∃ u : World, u = wr := ⟨_, rfl⟩
    subst hW8
    have b2 : W8.cell? ⟨gb, 2, none⟩ = some (.int .i64 (b : Int)) := RB6.out.cell 2
    go_upto_region 15 with (first
      | ((with_reducible show wpList _ _ _ ({ dst := some 66, op := Op.load _ _, type := _, pos := _, after := _, guard := _ } :: _) _ _); go_must (refine wpList_load_whole rfl 30 (.tmp 2) rfl w.heap.size 30 MC _ Tryd.underlying30 rfl HTS.out C6.out.msg ?_ ?_; go_simp))
      | ((with_reducible show wpList _ _ _ ({ dst := none, op := Op.store 30 _ _, type := _, pos := _, after := _, guard := _ } :: _) _ _); go_must (refine wpList_store_new rfl 30 (.tmp 8) (.tmp 66) rfl MC HTS.out HTO.out (by rw [HTL.out]; rfl) ?_ ?_ ?_; go_simp; go_simp; intro w9 hr9 hb9 hz9; have RZ := Lib.hid hr9; have B9 := Lib.hid hb9; clear hr9 hb9 hz9)))
    have C9 := Lib.hid (C6.out.below B9.out)
    have Y9 := Lib.hid (Y6.out.below B9.out Y6.out.lt)
    have RB9 := Lib.hid (RB6.out.below B9.out RB6.out.lt)
    have O9 := Lib.hid (own_below2 O6.out B9.out)
    have N9 := Lib.hid (N6.out.below (B9.out.mono C6.out.b.size))
    have HG8 : Hid (g0 ≤ W8.heap.size) := G6
    obtain ⟨gz, hgz⟩ : ∃ g, g = W8.heap.size := ⟨_, rfl⟩
    rw [← hgz] at RZ HG8 ⊢
    clear hgz C6 Y6 RB6 O6 N6 G6 B9 b2 y37
    have b2 : w9.cell? ⟨gb, 2, none⟩ = some (.int .i64 (b : Int)) := RB9.out.cell 2
    have c37 : w9.cell? ⟨w.heap.size, 37, none⟩ = some (.slice IA k ic) := HQ37.out w9 _ C9.out.msg
    have HG9 : Hid (gz < w9.heap.size) := Lib.hid RZ.out.lt
    obtain ⟨nt, hic, hsee⟩ := ((HIAN.out w9 C9.out.m).take (Nat.le_of_lt hbn)).cells
    have HN := Lib.hid hic
    have HSE := Lib.hid hsee
    clear hic hsee
    go_upto_region 16 with (first
      | ((with_reducible show wpList _ _ _ ({ dst := some 71, op := _, type := _, pos := _, after := _, guard := _ } :: _) _ _); go_must (refine wpList_head rfl 27 45 (.tmp 68) (.tmp 70) 3 rfl Tryd.underlying27 size_instr IA k ic b ?_ ?_ (by have := HNC.out.1; omega) ?_; go_simp; go_simp))
      | ((with_reducible show wpList _ _ _ ({ dst := some 72, op := _, type := _, pos := _, after := _, guard := _ } :: _) _ _); go_must (refine wpList_appendN rfl (.const (.slice none 0 0)) (.tmp 71) 27 45 _ 3 56 rfl Tryd.underlying27 info_ins5 (by kernel_rfl) (by omega) (.slice none 0 0) 0 [] w9.heap.size w.heap.size IA b ic nt rfl (own_nilN _ _ _ _) ?_ HSE.out HN.out.one (by have := HIN.out; unfold maxLen; omega) (by have := HIN.out; omega) (Nat.le_refl _) ?_; go_simp; intro v1 u2 ho1 hg1; rw [Nat.zero_add, List.nil_append] at ho1; obtain ⟨A2, c2, rfl, _, hca, hcb, hlt1⟩ := own_form2 ho1; have hb1 : Below w9.heap.size w9 u2 := (Below.refl _ _).grown hg1.grown (Nat.le_refl _) (fun k hk => by cases hk); have BU := Lib.hid hb1; have O1 := Lib.hid ho1; have CC2 := Lib.hid (And.intro hca hcb); have RZ1 := Lib.hid (RZ.out.below hb1 RZ.out.lt); have e37 : u2.cell? ⟨gz, 37, none⟩ = some (.slice IA k ic) := HQ37.out u2 _ RZ1.out; have f37 := RZ1.out.frozen 37; clear ho1 hg1 hlt1 hb1 hca hcb)))
    clear c37 b2 e37 f37
    have hbs := (Below.refl gz u2).setCell (p := ⟨gz, 37, none⟩) (Nat.le_refl gz) (.slice A2 b c2)
    have hrz := RZ1.out.set_ 37 (.slice A2 b c2)
    rw [HSET.out A2 b c2 (m.ins.take b)] at hrz
    have RZ2 := Lib.hid hrz
    have BW : Hid (Below gz w9 (u2.setCell ⟨gz, 37, none⟩ (.slice A2 b c2))) := Lib.hid ((BU.out.mono (Nat.le_of_lt HG9.out)).trans hbs)
    have C10 := Lib.hid (C9.out.low BW.out (by have := HG8.out; have := HG7.out; have := HG6.out; have := HGB.out; omega))
    have RB10 := Lib.hid (RB9.out.below BW.out (by have := HG8.out; have := HG7.out; have := HG6.out; omega))
    have Y10 := Lib.hid (Y9.out.below BW.out (by have := HG8.out; have := HG7.out; omega))
    have O10 := Lib.hid (own_turned (own_below2 O9.out BU.out) RZ1.out (by decide) (turned_setCell u2 ⟨gz, 37, none⟩ (.slice A2 b c2)))
    have OZ10 := Lib.hid (own_turned O1.out RZ1.out (by decide) (turned_setCell u2 ⟨gz, 37, none⟩ (.slice A2 b c2)))
    have N10 := Lib.hid (N9.out.below (BW.out.mono (by have := HG8.out; have := HG7.out; have := HG6.out; have := HGB.out; omega)))
    have NZ10 := Lib.hid (HN.out.below (BW.out.mono (by have := HG8.out; have := HG7.out; have := HG6.out; have := HGB.out; omega)))
    clear hrz hbs BU O1 RZ1 RZ C9 RB9 Y9 O9 N9 HN HSE BW
    generalize u2.setCell ⟨gz, 37, none⟩ (.slice A2 b c2) = W10 at *
    have HMZ : Hid (MsgIn W10 W10.heap.size (rawM Q A2 b c2) (insM m (m.ins.take b))) := Lib.hid (by
      obtain ⟨A', c', he, hs', _, _, _⟩ := own_form2 OZ10.out
      injection he with e1 e2 e3
      subst e1 e3
      exact HINM.out W10 A2 b c2 _ (C10.out.m.more C10.out.b.size) ((NZ10.out.more C10.out.b.size).in_ hs' (by rw [List.length_take, HLI.out]; omega)) CC2.out)
    have HOZ := Lib.hid (HOX.out W10 A2 b c2 (m.ins.take b) HMZ.out (by have := HIN.out; omega) (fun i hi => HIB.out i (List.mem_of_mem_take hi)) (HL.out.below C10.out.b HP.out))
    have HBT := Lib.hid (bad_take (keys := m.keys) (ins_bytes HIB.out) HBAD.out)
    have HSZ2 := Lib.hid (HSZ.out A2 b c2 (m.ins.take b))
    generalize (rawM Q A2 b c2).cells (insM m (m.ins.take b)) = MZ at *
    obtain ⟨e1, e2, e3⟩ := HBT.out
    have HBZ : Hid (bud8 (all8 m.keys (m.ins.take b)) = [.int .u64 (units8 (all8 m.keys (m.ins.take b))), .int .u64 px, .int .i64 (-1)]) := Lib.hid (by
      unfold bud8
      rw [e2, e3, HS.out, HPX.out])
    rw [HBZ.out] at HOZ
    generalize units8 (all8 m.keys (m.ins.take b)) = uz at *
    clear e1 e2 e3 HBT HBZ HMZ OZ10 NZ10 CC2
    go_wp2_with ((with_reducible show wpList _ _ _ ({ dst := some 74, op := Op.load _ _, type := _, pos := _, after := _, guard := _ } :: _) _ _); go_must (refine wpList_load_whole rfl 30 (.tmp 8) rfl gz 30 MZ _ Tryd.underlying30 rfl HSZ2.out RZ2.out ?_ ?_; go_simp))
    refine HOZ.out.mono ?_
    rintro e w11 ⟨rfl, hb11⟩
    have C11 := Lib.hid (C10.out.below hb11)
    have RB11 := Lib.hid (RB10.out.below hb11 RB10.out.lt)
    have Y11 := Lib.hid (Y10.out.below hb11 Y10.out.lt)
    have O11 := Lib.hid (own_below2 O10.out hb11)
    have N11 := Lib.hid (N10.out.below (hb11.mono C10.out.b.size))
    clear hb11 HOZ C10 RB10 Y10 O10 N10 RZ2
    go_upto_region 17 with ((with_reducible show wpList _ _ _ ({ dst := none, op := Op.store 36 _ _, type := _, pos := _, after := _, guard := _ } :: _) _ _); go_must (refine wpList_store_new rfl 36 (.tmp 9) (.tmp 75) rfl [.int .u64 uz, .int .u64 px, .int .i64 (-1)] (size_bud _ _ _) (bud_one _ _ _) rfl ?_ ?_ ?_; go_simp; go_simp; intro w12 hr12 hb12 hz12; have R12 := Lib.hid hr12; have B12 := Lib.hid hb12; clear hr12 hb12 hz12))
    obtain ⟨gc, hgc⟩ : ∃ g, g = w11.heap.size := ⟨_, rfl⟩
    have C12 := Lib.hid (C11.out.below B12.out).drew
    have RB12 := Lib.hid (RB11.out.below B12.out RB11.out.lt).drew
    have Y12 := Lib.hid (Y11.out.below B12.out Y11.out.lt).drew
    have O12 : Hid (w12.drew.ownsRow g0 45 3 (.slice A1 k c1) k ns) := Lib.hid (own_below2 O11.out B12.out.drew)
    have N12 := Lib.hid ((N11.out.below (B12.out.mono C11.out.b.size)).below (Below.refl _ _).drew)
    have RC12 := Lib.hid R12.out.drew
    rw [← hgc] at RC12 ⊢
    clear hgc R12 B12 C11 RB11 Y11 O11 N11
    have hset : (rawM Q A1 k c1).cells (insM m m.ins) = (rawM Q A1 k c1).cells (insM m (setTo m.ins dz b k)) := rfl
    rw [hset] at Y12
    clear hset
    have HMX : Hid (MsgIn w12.drew w12.drew.heap.size (rawM Q A1 k c1) (insM m (setTo m.ins dz b k))) := Lib.hid (by
      obtain ⟨A', c', he, hs', _, _, _⟩ := own_form2 O12.out
      injection he with e1 e2 e3
      subst e1 e3
      exact HINM.out _ A1 k c1 _ (C12.out.m.more C12.out.b.size) ((N12.out.more C12.out.b.size).in_ hs' (by rw [setTo_len, HLI.out])) CC1.out)
    have HOY := Lib.hid (HOX.out _ A1 k c1 (setTo m.ins dz b k) HMX.out (by have := HIN.out; omega) (setTo_ok HIB.out HDZ.out) (HL.out.below C12.out.b HP.out))
    have HSZ3 := Lib.hid (HSZ.out A1 k c1 (setTo m.ins dz b k))
    have HSA := Lib.hid (bad_same (keys := m.keys) HBAD.out (setTo_len (d := dz) (b := b) (k := k)) setTo_same)
    rw [HSA.out, HS.out, HB8.out, HUX.out, HPX.out, HBX.out] at HOY
    generalize (rawM Q A1 k c1).cells (insM m (setTo m.ins dz b k)) = MX at *
    have HSS : Hid (∀ V : World, Row V gy 30 MX → Row V gb 36 [.int .u64 ux, .int .u64 px, .int .i64 b] → Row V gc 36 [.int .u64 uz, .int .u64 px, .int .i64 (-1)] → V.rangeAt gy 0 MX ∧ V.rangeAt gb 0 [.int .u64 ux, .int .u64 px, .int .i64 b] ∧ V.cell? ⟨gc, 2, none⟩ = some (.int .i64 (-1)) ∧ V.cell? ⟨gc, 1, none⟩ = some (.int .u64 px) ∧ V.cell? ⟨gb, 1, none⟩ = some (.int .u64 px)) := Lib.hid fun V h1 h2 h3 => ⟨fun j u hu => by rw [h1.cell, Nat.zero_add]; exact hu, fun j u hu => by rw [h2.cell, Nat.zero_add]; exact hu, h3.cell 2, h3.cell 1, h2.cell 1⟩
    have S0 := Lib.hid (HSS.out _ Y12.out RB12.out RC12.out)
    have NB := bud_eql ux px (b : Int)
    refine wp_region_held_drew (S := fun V => V.rangeAt gy 0 MX ∧ V.rangeAt gb 0 [.int .u64 ux, .int .u64 px, .int .i64 b] ∧ V.cell? ⟨gc, 2, none⟩ = some (.int .i64 (-1)) ∧ V.cell? ⟨gc, 1, none⟩ = some (.int .u64 px) ∧ V.cell? ⟨gb, 1, none⟩ = some (.int .u64 px)) (by kernel_rfl) S0.out (fun _ => ?_)
    generalize w12.drew = V0 at *
    clear O12 N12 HMX HSA
    refine takeL (i := 0) (v := .agg (MX).toArray) rfl (by kernel_rfl) (by kernel_rfl) (by kernel_rfl) (fun _ _ _ h => h) (yieldsIf_load_mid (by kernel_rfl) 30 (.tmp 6) rfl gy 0 (by go_simp) (MX) _ (fun w hw => hw.1) Tryd.underlying30 rfl HSZ3.out) S0.out ?_
    try simp only [Act.put, List.setIfInBounds_toArray, List.set_cons_zero, List.set_cons_succ]
    refine takeL (i := 2) (v := .agg ([.int .u64 ux, .int .u64 px, .int .i64 b]).toArray) rfl (by kernel_rfl) (by kernel_rfl) (by kernel_rfl) (fun _ _ _ h => h) (yieldsIf_load_mid (by kernel_rfl) 36 (.tmp 5) rfl gb 0 (by go_simp) ([.int .u64 ux, .int .u64 px, .int .i64 b]) _ (fun w hw => hw.2.1) Tryd.underlying36 rfl (size_bud _ _ _)) S0.out ?_
    try simp only [Act.put, List.setIfInBounds_toArray, List.set_cons_zero, List.set_cons_succ]
    refine readyL (i := 1) rfl (by kernel_rfl) (by kernel_rfl) fun K hK => ?_
    go_simp
    refine HOY.out.mono ?_
    rintro e V1 ⟨rfl, hb⟩
    simp only []
    have C13 := Lib.hid (C12.out.below hb)
    have RB13 := Lib.hid (RB12.out.below hb RB12.out.lt)
    have Y13 := Lib.hid (Y12.out.below hb Y12.out.lt)
    have RC13 := Lib.hid (RC12.out.below hb RC12.out.lt)
    have S1 := Lib.hid (HSS.out _ Y13.out RB13.out RC13.out)
    clear hb
    refine hK.out _ _ S1.out ?_
    clear hK K
    try simp only [Act.put, List.setIfInBounds_toArray, List.set_cons_zero, List.set_cons_succ]
    refine takeL (i := 3) (v := .bool true) rfl (by kernel_rfl) (by kernel_rfl) (by kernel_rfl) (fun _ _ _ h => h) (Or.inl ⟨by kernel_rfl, fun w hw => by obtain ⟨q0, q1, q2, q3, q4⟩ := hw; go_simp⟩) S1.out ?_
    try simp only [Act.put, List.setIfInBounds_toArray, List.set_cons_zero, List.set_cons_succ]
    refine takeL (i := 4) (v := ?_) rfl (by kernel_rfl) (by kernel_rfl) (by kernel_rfl) (fun _ _ _ h => h) (Or.inl ⟨by rfl, ?_⟩) S1.out ?_
    rotate_left
    · intro w hw
      try dsimp only at hw
      obtain ⟨q0, q1, q2, q3, q4⟩ := hw
      go_simp
      try with_reducible rfl
    try simp only [Act.put, List.setIfInBounds_toArray, List.set_cons_zero, List.set_cons_succ]
    refine takeL (i := 5) (v := ?_) rfl (by kernel_rfl) (by kernel_rfl) (by kernel_rfl) (fun _ _ _ h => h) (Or.inl ⟨by rfl, ?_⟩) S1.out ?_
    rotate_left
    · intro w hw
      try dsimp only at hw
      obtain ⟨q0, q1, q2, q3, q4⟩ := hw
      go_simp
      try with_reducible rfl
    try simp only [Act.put, List.setIfInBounds_toArray, List.set_cons_zero, List.set_cons_succ]
    refine takeL (i := 6) (v := ?_) rfl (by kernel_rfl) (by kernel_rfl) (by kernel_rfl) (fun _ _ _ h => h) (Or.inl ⟨by rfl, ?_⟩) S1.out ?_
    rotate_left
    · intro w hw
      try dsimp only at hw
      obtain ⟨q0, q1, q2, q3, q4⟩ := hw
      go_simp
      try with_reducible rfl
    try simp only [Act.put, List.setIfInBounds_toArray, List.set_cons_zero, List.set_cons_succ]
    refine takeL (i := 7) (v := .bool true) rfl (by kernel_rfl) (by kernel_rfl) (by kernel_rfl) (fun _ _ _ h => h) (Or.inl ⟨by kernel_rfl, fun w hw => by obtain ⟨q0, q1, q2, q3, q4⟩ := hw; go_simp⟩) S1.out ?_
    try simp only [Act.put, List.setIfInBounds_toArray, List.set_cons_zero, List.set_cons_succ]
    refine takeL (i := 8) (v := .bool true) rfl (by kernel_rfl) (by kernel_rfl) (by kernel_rfl) (fun _ _ _ h => h) (Or.inl ⟨by kernel_rfl, fun w hw => by obtain ⟨q0, q1, q2, q3, q4⟩ := hw; go_simp⟩) S1.out ?_
    try simp only [Act.put, List.setIfInBounds_toArray, List.set_cons_zero, List.set_cons_succ]
    refine takeL (i := 9) (v := ?_) rfl (by kernel_rfl) (by kernel_rfl) (by kernel_rfl) (fun _ _ _ h => h) (Or.inl ⟨by rfl, ?_⟩) S1.out ?_
    rotate_left
    · intro w hw
      try dsimp only at hw
      obtain ⟨q0, q1, q2, q3, q4⟩ := hw
      go_simp
      try with_reducible rfl
    try simp only [Act.put, List.setIfInBounds_toArray, List.set_cons_zero, List.set_cons_succ]
    refine takeL (i := 10) (v := ?_) rfl (by kernel_rfl) (by kernel_rfl) (by kernel_rfl) (fun _ _ _ h => h) (Or.inl ⟨by rfl, ?_⟩) S1.out ?_
    rotate_left
    · intro w hw
      try dsimp only at hw
      obtain ⟨q0, q1, q2, q3, q4⟩ := hw
      go_simp
      try with_reducible rfl
    try simp only [Act.put, List.setIfInBounds_toArray, List.set_cons_zero, List.set_cons_succ]
    refine takeL (i := 11) (v := ?_) rfl (by kernel_rfl) (by kernel_rfl) (by kernel_rfl) (fun _ _ _ h => h) (Or.inl ⟨by rfl, ?_⟩) S1.out ?_
    rotate_left
    · intro w hw
      try dsimp only at hw
      obtain ⟨q0, q1, q2, q3, q4⟩ := hw
      go_simp
      try with_reducible rfl
    try simp only [Act.put, List.setIfInBounds_toArray, List.set_cons_zero, List.set_cons_succ]
    refine takeL (i := 12) (v := ?_) rfl (by kernel_rfl) (by kernel_rfl) (by kernel_rfl) (fun _ _ _ h => h) (Or.inl ⟨by rfl, ?_⟩) S1.out ?_
    rotate_left
    · intro w hw
      try dsimp only at hw
      obtain ⟨q0, q1, q2, q3, q4⟩ := hw
      go_simp
      try with_reducible rfl
    try simp only [Act.put, List.setIfInBounds_toArray, List.set_cons_zero, List.set_cons_succ]
    refine takeL (i := 13) (v := ?_) rfl (by kernel_rfl) (by kernel_rfl) (by kernel_rfl) (fun _ _ _ h => h) (Or.inl ⟨by rfl, ?_⟩) S1.out ?_
    rotate_left
    · intro w hw
      try dsimp only at hw
      obtain ⟨q0, q1, q2, q3, q4⟩ := hw
      go_simp
      try with_reducible rfl
    try simp only [Act.put, List.setIfInBounds_toArray, List.set_cons_zero, List.set_cons_succ]
    refine takeL (i := 14) (v := .bool true) rfl (by kernel_rfl) (by kernel_rfl) (by kernel_rfl) (fun _ _ _ h => h) (Or.inl ⟨by kernel_rfl, fun w hw => by obtain ⟨q0, q1, q2, q3, q4⟩ := hw; go_simp⟩) S1.out ?_
    try simp only [Act.put, List.setIfInBounds_toArray, List.set_cons_zero, List.set_cons_succ]
    refine takeL (i := 15) (v := .bool true) rfl (by kernel_rfl) (by kernel_rfl) (by kernel_rfl) (fun _ _ _ h => h) (Or.inl ⟨by kernel_rfl, fun w hw => by obtain ⟨q0, q1, q2, q3, q4⟩ := hw; go_simp⟩) S1.out ?_
    try simp only [Act.put, List.setIfInBounds_toArray, List.set_cons_zero, List.set_cons_succ]
    refine takeL (i := 16) (v := ?_) rfl (by kernel_rfl) (by kernel_rfl) (by kernel_rfl) (fun _ _ _ h => h) (Or.inl ⟨by rfl, ?_⟩) S1.out ?_
    rotate_left
    · intro w hw
      try dsimp only at hw
      obtain ⟨q0, q1, q2, q3, q4⟩ := hw
      go_simp
      try with_reducible rfl
    try simp only [Act.put, List.setIfInBounds_toArray, List.set_cons_zero, List.set_cons_succ]
    refine readyL (i := 17) rfl (by kernel_rfl) (by kernel_rfl) fun K hK => ?_
    go_simp
    refine (lives8 V1 (HL.out.below C13.out.b HP.out)).mono ?_
    rintro e V2 ⟨rfl, hb⟩
    simp only []
    have C14 := Lib.hid (C13.out.below hb)
    have S2 := Lib.hid (HSS.out _ (Y13.out.below hb Y13.out.lt) (RB13.out.below hb RB13.out.lt) (RC13.out.below hb RC13.out.lt))
    clear hb
    refine hK.out _ _ S2.out ?_
    clear hK K
    try simp only [Act.put, List.setIfInBounds_toArray, List.set_cons_zero, List.set_cons_succ]
    refine takeL (i := 18) (v := .bool true) rfl (by kernel_rfl) (by kernel_rfl) (by kernel_rfl) (fun _ _ _ h => h) (Or.inl ⟨by kernel_rfl, fun w hw => by obtain ⟨q0, q1, q2, q3, q4⟩ := hw; go_simp⟩) S2.out ?_
    try simp only [Act.put, List.setIfInBounds_toArray, List.set_cons_zero, List.set_cons_succ]
    refine takeL (i := 19) (v := ?_) rfl (by kernel_rfl) (by kernel_rfl) (by kernel_rfl) (fun _ _ _ h => h) (Or.inl ⟨by rfl, ?_⟩) S2.out ?_
    rotate_left
    · intro w hw
      try dsimp only at hw
      obtain ⟨q0, q1, q2, q3, q4⟩ := hw
      go_simp
      try with_reducible rfl
    try simp only [Act.put, List.setIfInBounds_toArray, List.set_cons_zero, List.set_cons_succ]
    refine wpAnyH_done (by kernel_rfl) ?_ _
    go_wp2_with fail
    go_ret
    exact ⟨rfl, C14.out.b⟩
end Go.Proofs.YtdeadehcnellpaaDoor
