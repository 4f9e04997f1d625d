/-
  Parts joined: Put17 Gone17 Acts17 Ent17 TurnMath7 Ref17 RefGet17 RefPut17 RefFree17.
-/
import Derived.Below
import Derived.Laws.OwnMore
import Derived.Deep.AppendLies
import Derived.Deep.Draws
import Derived.Lib.Hide
import Derived.Laws.BitsAllLaws
import Derived.WalkSmall
import Derived.Laws.MakeOwn
import Derived.Laws.CopyOwn
import Derived.Laws.Rows
import Derived.Maps.AppendAt
import Derived.OwnWalk
import Derived.WalkKit
import Derived.Test.YtkhcgclnmdgpbaaRows
import Derived.WalkSpells
import Derived.WalkLawsBesides
import Derived.IntWalk
import Derived.Deep.MidRow
import Derived.Deep.WholeRow
import Derived.Great.BuildSlice
import Derived.Recover
import Derived.Deep.RegionHeld
import Derived.Deep.QuietTactic
import Derived.BigQuiet
import Derived.Deep.RegionHeld2
import Derived.Deep.CutBlock
import Derived.Laws.Tables
import Derived.ChangeKeysEq
import Derived.ProofKit
import Derived.OpenShut
import Derived.ShutString
import Derived.ChangeOld
import Derived.Lib.SmallJoins
import Derived.Deep.Slices
import Derived.Deep.Strs
import Derived.SizedLaws
import Derived.Laws.StructEq
import Derived.Laws.Slices
import Derived.Deep.DeepCutAuto
import Derived.Laws.EntriesVeiled
import Derived.Deep.RegionHeld3
import Derived.Maps.OwnSet
import Derived.DeepKeys4
import Derived.WideKeyArr
import Derived.WideKeyEntry
import Derived.Shelf.SlMaps.Clone
import Derived.Laws.Append
import Derived.Laws.AppendOwn
import Derived.LaidMore
import Derived.WalkMore
import Derived.Test.YtkhcgclnmdgpbaaW1
/-
  Of part Put17: what is needed here.
-/
namespace Go.Proofs.Ytkhcgclnmdgpbaa
open Go.RowKit
set_option linter.unusedVariables false
set_option maxRecDepth 100000
def thS17 (th : Nat → Option Nat) (n : Nat) (v : Option Nat) : Nat → Option Nat := fun i => if i = n then v else th i
theorem ths_self17 (th : Nat → Option Nat) (n : Nat) (v : Option Nat) : thS17 th n v n = v := by unfold thS17; rw [if_pos rfl]
theorem ths_ne17 (th : Nat → Option Nat) {n i : Nat} (v : Option Nat) (h : ¬ i = n) : thS17 th n v i = th i := by unfold thS17; rw [if_neg h]
section
variable {w w' : World} {P : Nat → Prop} {sb gb room : Nat} {f : F17}
theorem slab_up17 {n i0 : Nat} {v : Option Int} {t' : Option Nat} {xs zs : List Value} {th : Nat → Option Nat} (h : Slab17 w P sb gb room f) (hn : n < room) (hi0 : i0 = n / 64) (h1 : Row w gb 67 xs) (h2 : xs.length = (room + 63) / 64 * 2)
    (h3 : ∀ i, i < (room + 63) / 64 → xs[i * 2]? = some (.int .u64 (wd17 (seg17 f i))) ∧ xs[i * 2 + 1]? = some (thV17 (th i)) ∧ Th17 w P (seg17 f i) (th i))
    (h4 : ∀ i j t, i ≠ j → i < (room + 63) / 64 → j < (room + 63) / 64 → th i = some t → th j ≠ some t)
    (hs : w'.heap[sb]? = w.heap[sb]?) (hg : Row w' gb 67 zs) (hzl : zs.length = xs.length) (hz1 : zs[i0 * 2]? = some (.int .u64 (wd17 (seg17 (up17 f n v) i0)))) (hz2 : zs[i0 * 2 + 1]? = some (thV17 t')) (hzk : ∀ k, k ≠ i0 * 2 → k ≠ i0 * 2 + 1 → zs[k]? = xs[k]?)
    (ht : Th17 w' P (seg17 (up17 f n v) i0) t') (hk : ∀ k, k < w.heap.size → k ≠ gb → th i0 ≠ some k → w'.heap[k]? = w.heap[k]?) (hne : ∀ t, t' = some t → t = w.heap.size ∨ th i0 = some t) : Slab17 w' P sb gb room (up17 f n v) := by
  subst hi0
  have hnm : n / 64 < (room + 63) / 64 := by omega
  have hlt : ∀ i t, i < (room + 63) / 64 → th i = some t → t < w.heap.size ∧ t ≠ gb := fun i t hi e => by
    obtain ⟨_, ys, hr, _⟩ := (h3 i hi).2.2.yes t e
    exact ⟨hr.lt, row_ne12 hr h1 (by decide)⟩
  refine ⟨h.rm, fun k hk2 => ?_, ⟨hs.trans h.top.is⟩, h.own, _, thS17 th (n / 64) t', hg, by rw [hzl]; exact h2, fun i hi => ?_, fun i j t hij hi hj e1 e2 => ?_⟩
  · simp only [up17]
    rw [if_neg (by omega)]
    exact h.out k hk2
  · by_cases hin : i = n / 64
    · subst hin
      rw [ths_self17]
      exact ⟨hz1, hz2, ht⟩
    · rw [ths_ne17 th t' hin, hzk _ (by omega) (by omega), hzk _ (by omega) (by omega), seg_ne17 f v hin]
      refine ⟨(h3 i hi).1, (h3 i hi).2.1, (h3 i hi).2.2.no, fun g hg2 => ?_⟩
      obtain ⟨k1, ys, k2, k3⟩ := (h3 i hi).2.2.yes g hg2
      exact ⟨k1, ys, ⟨(hk g k2.lt (hlt i g hi hg2).2 (h4 i (n / 64) g hin hi hnm hg2)).trans k2.is⟩, k3⟩
  · by_cases hin : i = n / 64
    · rw [hin, ths_self17] at e1
      rw [ths_ne17 th t' (by omega)] at e2
      rcases hne t e1 with h5 | h5
      · have := (hlt j t hj e2).1; omega
      · exact h4 j (n / 64) t (by omega) hj hnm e2 h5
    · rw [ths_ne17 th t' hin] at e1
      by_cases hjn : j = n / 64
      · rw [hjn, ths_self17] at e2
        rcases hne t e2 with h5 | h5
        · have := (hlt i t hi e1).1; omega
        · exact h4 i (n / 64) t hin hi hnm e1 h5
      · rw [ths_ne17 th t' hjn] at e2
        exact h4 i j t hij hi hj e1 e2
theorem th_up17 {n i j t : Nat} {x : Int} {ys : List Value} (hi : i = n / 64) (hj : j = n % 64) (hr : Row w' t 27 (ys.set j (.int .u64 x))) (hl : ys.length = 64) (hp : P t) (hy : ∀ (k : Nat) (y : Int), (seg17 f i)[k]? = some (some y) → ys[k]? = some (.int .u64 y)) :
    Th17 w' P (seg17 (up17 f n (some x)) i) (some t) := by
  refine ⟨fun e => (by cases e), fun g hg => ?_⟩
  cases hg
  refine ⟨hp, _, hr, by rw [List.length_set]; exact hl, fun k y hk => ?_⟩
  rw [hi, seg_up17, ← hj, ← hi, List.getElem?_set, seg_len17] at hk
  rw [List.getElem?_set]
  by_cases hjk : j = k
  · rw [if_pos hjk, if_pos (by omega)] at hk
    rw [if_pos hjk, if_pos (by omega)]
    rw [Option.some.inj (Option.some.inj hk)]
  · rw [if_neg hjk] at hk
    rw [if_neg hjk]
    exact hy k y hk
theorem only_cell17 {p : Addr} {u : Value} (hp : P p.block) : Only17 P w (w.setCell p u) :=
  ⟨rfl, rfl, rfl, by simp, fun k hk hn => Below.heap_setCell w p u k fun e => hn (by rw [e]; exact hp)⟩
theorem only_grown17 (h : w.grownBy w' none) : Only17 P w w' := ⟨h.os, h.tape, h.output, h.size, fun k hk _ => h.block k hk (fun e => by cases e)⟩
theorem info_u17 : (Try.prog.info? 27).map (fun i => (i.zero, i.size, i.bytes)) = some (some (.int .u64 0), 1, 8) := by kernel_rfl
theorem only_set17 {p : Addr} {u : Value} (hp : P p.block) : Only17 P w (w.setCell p u).drew :=
  ⟨rfl, rfl, rfl, by simp, fun k hk hn => Below.heap_setCell w p u k fun e => hn (by rw [e]; exact hp)⟩
set_option maxHeartbeats 400000 in
theorem shput17 (h : Slab17 w P sb gb room f) (n : Nat) (x : Int) (i j : Nat) (hi : i = n / 64) (hj : j = n % 64) (hn : n < room) (hP : ∀ k, w.heap.size ≤ k → P k) :
    Calls Try.prog 29 #[.pointer (some ⟨gb, i * 2, none⟩), .int .i64 j, .int .u64 x] w fun e w' => e = .returned (.tuple #[]) ∧ Slab17 w' P sb gb room (up17 f n (some x)) ∧ Only17 P w w' := by
  obtain ⟨xs, th, h1, h2, h3, h4⟩ := h.she
  obtain ⟨c1, c2, c3⟩ := h3 i (by omega)
  have hjl : j < 64 := by omega
  have h0 : (0 : Int) ≤ j := by omega
  have h64 : (j : Int) ≤ 64 := by omega
  have oc : w.cell? ⟨gb, i * 2, none⟩ = some (.int .u64 (wd17 (seg17 f i))) := (h1.cell _).trans c1
  have oc1 : w.cell? ⟨gb, i * 2 + 1, none⟩ = some (thV17 (th i)) := (h1.cell _).trans c2
  have fr := h1.frozen (i * 2)
  have HW : Hid (wd17 (seg17 (up17 f n (some x)) i) = wd17 (seg17 f i) ||| 2 ^ j) := Lib.hid (by rw [hi, hj, seg_up17, wd_set17 (by rw [seg_len17]; omega)])
  obtain ⟨wd, hwd⟩ : ∃ d, d = wd17 (seg17 f i) := ⟨_, rfl⟩
  have HWL := wd_seg17 f i
  rw [← hwd] at oc HW HWL
  have e2 := or_bit17 wd j HWL hjl
  rw [← HW.out] at e2
  have e3 : IntKind.u64.wrap (1 * 2 ^ j) = IntKind.u64.wrap (2 ^ j) := by rw [Int.one_mul]
  obtain ⟨pw, hpw⟩ : ∃ p, p = IntKind.u64.wrap (2 ^ j) := ⟨_, rfl⟩
  rw [e3, ← hpw] at e2
  rw [← hpw] at e3
  have e4 := hpw.symm
  have HHWD := Lib.hid hwd
  have H0 := Lib.hid h
  have H1 := Lib.hid h1
  have H2 := Lib.hid h2
  have H3 := Lib.hid h3
  have H4 := Lib.hid h4
  have HI := Lib.hid hi
  have HJ := Lib.hid hj
  have C3 := Lib.hid c3
  clear h h1 h2 h3 h4 c1 c2 c3 hpw hwd hi hj
  by_cases hz : wd = 0
  · have HZ := Lib.hid hz
    subst hz
    have e20 : bits .or .u64 0 pw = ((wd17 (seg17 (up17 f n (some x)) i) : Nat) : Int) := e2
    have oc0 : w.cell? ⟨gb, i * 2, none⟩ = some (.int .u64 0) := oc
    clear e2 oc
    have HNO : Hid (∀ (k : Nat) (y : Int), (seg17 f i)[k]? ≠ some (some y)) := Lib.hid fun k y hk => by
      have := wd_zero17.1 (HHWD.out.symm.trans rfl) _ (List.mem_of_getElem? hk)
      cases this
    obtain ⟨tn, htn⟩ : ∃ t, t = w.heap.size := ⟨_, rfl⟩
    have HTN : Hid (w.heap.size = tn) := Lib.hid htn.symm
    have HP := Lib.hid hP
    have HL1 : Hid (i * 2 + 1 < xs.length) := Lib.hid (by have := H2.out; have := HI.out; have := H0.out.rm; omega)
    clear oc1 hP
    go_enter Try.func29, Try.ntmps29
    go_upto_region 2 with (first
      | (at_make; (obtain ⟨i0, hii, hzz0, hzz1, hzz2⟩ := info_parts info_u17); go_must (refine wpList_make_full _ rfl (.const (.int .i64 64)) (.const (.int .i64 64)) 65 rfl w.heap.size 27 i0 _ 1 Try.underlying65 hii hzz0 hzz1 .i64 .i64 _ _ 64 rfl rfl rfl rfl (by rw [hzz2]; omega) (by unfold maxLen; omega) (Nat.le_refl _) ?_; intro w1 hown hgrow; have oc9 : w1.cell? ⟨gb, i * 2 + 1, none⟩ = _ := ((H1.out.grown hgrow (by simp)).cell (i * 2 + 1)).trans (List.getElem?_eq_getElem HL1.out); have fr9 := (H1.out.grown hgrow (by simp)).frozen (i * 2 + 1)))
      | fail)
    obtain ⟨hr9, hl9⟩ := row_own17 hown
    have hg1 := H1.out.grown hgrow (by simp)
    rw [← htn] at hr9 ⊢
    generalize hyz : (madeCells (Value.int .u64 0).cells (64 * 1)).toList = ys at *
    have YL : ys.length = 64 := hl9
    have RXS : Row (w1.setCell ⟨gb, i * 2 + 1, none⟩ (.slice (some ⟨tn, 0, none⟩) 64 64)) gb 67 (xs.set (i * 2 + 1) (.slice (some ⟨tn, 0, none⟩) 64 64)) := hg1.set_ _ _
    have RYS : Row (w1.setCell ⟨gb, i * 2 + 1, none⟩ (.slice (some ⟨tn, 0, none⟩) 64 64)) tn 27 ys := hr9.far (by show tn ≠ gb; exact row_ne12 hr9 hg1 (by decide)) _
    have HKW : Hid (∀ k, k < w.heap.size → k ≠ gb → (w1.setCell ⟨gb, i * 2 + 1, none⟩ (.slice (some ⟨tn, 0, none⟩) 64 64)).heap[k]? = w.heap[k]?) := Lib.hid fun k h5 h6 => (Below.heap_setCell w1 ⟨gb, i * 2 + 1, none⟩ _ k h6).trans (hgrow.block k h5 (fun e => by cases e))
    have HW1 : Hid (Only17 P w (w1.setCell ⟨gb, i * 2 + 1, none⟩ (.slice (some ⟨tn, 0, none⟩) 64 64))) := Lib.hid ((only_grown17 hgrow).trans (only_cell17 H0.out.own))
    clear hown hgrow hr9 hl9 hg1 hyz oc9 fr9 htn
    generalize w1.setCell ⟨gb, i * 2 + 1, none⟩ (.slice (some ⟨tn, 0, none⟩) 64 64) = wa at *
    have OCS : (xs.set (i * 2 + 1) (.slice (some ⟨tn, 0, none⟩) 64 64))[i * 2 + 1]? = some (.slice (some ⟨tn, 0, none⟩) 64 64) := List.getElem?_set_self HL1.out
    have oc' : wa.cell? ⟨gb, i * 2, none⟩ = some (.int .u64 0) := by
      rw [RXS.cell, List.getElem?_set_ne (by omega), ← H1.out.cell]
      exact oc0
    have fr' : wa.frozen? ⟨gb, i * 2, none⟩ = false := RXS.frozen _
    clear oc0 fr
    go_region
    clear oc'
    have RG : Hid (Row (wa.setCell ⟨gb, i * 2, none⟩ (.int .u64 ((wd17 (seg17 (up17 f n (some x)) i) : Nat) : Int))).drew gb 67 ((xs.set (i * 2 + 1) (.slice (some ⟨tn, 0, none⟩) 64 64)).set (i * 2) (.int .u64 ((wd17 (seg17 (up17 f n (some x)) i) : Nat) : Int)))) := Lib.hid (RXS.set_ _ _).drew
    have RT : Hid (Row (wa.setCell ⟨gb, i * 2, none⟩ (.int .u64 ((wd17 (seg17 (up17 f n (some x)) i) : Nat) : Int))).drew tn 27 ys) := Lib.hid (RYS.far (by show tn ≠ gb; exact row_ne12 RYS RXS (by decide)) _).drew
    have HK : Hid (∀ k, k ≠ gb → (wa.setCell ⟨gb, i * 2, none⟩ (.int .u64 ((wd17 (seg17 (up17 f n (some x)) i) : Nat) : Int))).drew.heap[k]? = wa.heap[k]?) := Lib.hid fun k hk => Below.heap_setCell wa ⟨gb, i * 2, none⟩ _ k hk
    have HO : Hid (Only17 P wa (wa.setCell ⟨gb, i * 2, none⟩ (.int .u64 ((wd17 (seg17 (up17 f n (some x)) i) : Nat) : Int))).drew) := Lib.hid (only_set17 H0.out.own)
    generalize (wa.setCell ⟨gb, i * 2, none⟩ (.int .u64 ((wd17 (seg17 (up17 f n (some x)) i) : Nat) : Int))).drew = w2 at *
    have oc2 : w2.cell? ⟨gb, i * 2 + 1, none⟩ = some (.slice (some ⟨tn, 0, none⟩) 64 64) := by rw [RG.out.cell, List.getElem?_set_ne (by omega)]; exact OCS
    have oc3 : w2.cell? ⟨tn, j, none⟩ = _ := (RT.out.cell j).trans (List.getElem?_eq_getElem (by rw [YL]; exact hjl))
    have fr3 := RT.out.frozen j
    have hj64 : (j : Int) < 64 := by omega
    go_wp2_with fail
    refine bodyPost_end (results_none rfl _ _ _) rfl ?_
    have hsb : sb ≠ gb := row_ne12 H0.out.top H1.out (by decide)
    have hsl := H0.out.top.lt
    refine ⟨rfl, slab_up17 H0.out hn HI.out H1.out H2.out H3.out H4.out ?_ (RG.out.far (by show gb ≠ tn; exact (row_ne12 RYS RXS (by decide)).symm) _) ?_ ?_ ?_ ?_ (th_up17 HI.out HJ.out (RT.out.set_ j _) YL (HP.out _ (by have := HTN.out; omega)) (fun k y hk => absurd hk (HNO.out k y))) ?_ ?_, HW1.out.trans (HO.out.trans (only_cell17 (HP.out _ (by show w.heap.size ≤ tn; have := HTN.out; omega))))⟩
    · exact (Below.heap_setCell w2 ⟨tn, j, none⟩ _ sb (by show sb ≠ tn; have := HTN.out; omega)).trans ((HK.out sb hsb).trans (HKW.out sb hsl hsb))
    · rw [List.length_set, List.length_set]
    · rw [List.getElem?_set_self (by rw [List.length_set]; have := H2.out; have := HI.out; have := H0.out.rm; omega)]
    · rw [List.getElem?_set_ne (by omega)]; exact OCS
    · intro k h5 h6; rw [List.getElem?_set_ne (by omega), List.getElem?_set_ne (by omega)]
    · intro k hk hkg hkt
      exact (Below.heap_setCell w2 ⟨tn, j, none⟩ _ k (by show k ≠ tn; have := HTN.out; omega)).trans ((HK.out k hkg).trans (HKW.out k hk hkg))
    · intro g hg; cases hg; exact .inl HTN.out.symm
  · have hz2 : ¬ (wd : Int) = 0 := by omega
    have hz' : ((wd : Int) == 0) = false := by rw [beq_eq_false_iff_ne]; omega
    obtain ⟨t, hti⟩ : ∃ t, th i = some t := by
      cases hti : th i with
      | some t => exact ⟨t, rfl⟩
      | none => exact absurd (HHWD.out.trans (wd_zero17.2 (C3.out.no hti))) hz
    rw [hti] at oc1
    obtain ⟨kp, ys, k2, k3, k4⟩ := C3.out.yes t hti
    have K4 := Lib.hid k4
    clear k4
    have OCS : xs[i * 2 + 1]? = some (.slice (some ⟨t, 0, none⟩) 64 64) := ((H1.out.cell _).symm.trans oc1)
    have RXS := H1.out
    have RYS := k2
    have YL := k3
    clear oc1
    go_enter Try.func29, Try.ntmps29
    go_upto_region 2 with fail

    go_region
    clear oc
    have RG : Hid (Row (w.setCell ⟨gb, i * 2, none⟩ (.int .u64 ((wd17 (seg17 (up17 f n (some x)) i) : Nat) : Int))).drew gb 67 (xs.set (i * 2) (.int .u64 ((wd17 (seg17 (up17 f n (some x)) i) : Nat) : Int)))) := Lib.hid (RXS.set_ _ _).drew
    have RT : Hid (Row (w.setCell ⟨gb, i * 2, none⟩ (.int .u64 ((wd17 (seg17 (up17 f n (some x)) i) : Nat) : Int))).drew t 27 ys) := Lib.hid (RYS.far (by show t ≠ gb; exact row_ne12 RYS RXS (by decide)) _).drew
    have HK : Hid (∀ k, k ≠ gb → (w.setCell ⟨gb, i * 2, none⟩ (.int .u64 ((wd17 (seg17 (up17 f n (some x)) i) : Nat) : Int))).drew.heap[k]? = w.heap[k]?) := Lib.hid fun k hk => Below.heap_setCell w ⟨gb, i * 2, none⟩ _ k hk
    have HO : Hid (Only17 P w (w.setCell ⟨gb, i * 2, none⟩ (.int .u64 ((wd17 (seg17 (up17 f n (some x)) i) : Nat) : Int))).drew) := Lib.hid (only_set17 H0.out.own)
    generalize (w.setCell ⟨gb, i * 2, none⟩ (.int .u64 ((wd17 (seg17 (up17 f n (some x)) i) : Nat) : Int))).drew = w2 at *
    have oc2 : w2.cell? ⟨gb, i * 2 + 1, none⟩ = some (.slice (some ⟨t, 0, none⟩) 64 64) := by rw [RG.out.cell, List.getElem?_set_ne (by omega)]; exact OCS
    have oc3 : w2.cell? ⟨t, j, none⟩ = _ := (RT.out.cell j).trans (List.getElem?_eq_getElem (by rw [YL]; exact hjl))
    have fr3 := RT.out.frozen j
    have hj64 : (j : Int) < 64 := by omega
    go_wp2_with fail
    refine bodyPost_end (results_none rfl _ _ _) rfl ?_
    have hsb : sb ≠ gb := row_ne12 H0.out.top H1.out (by decide)
    refine ⟨rfl, slab_up17 H0.out hn HI.out H1.out H2.out H3.out H4.out ?_ (RG.out.far (by show gb ≠ t; exact (row_ne12 RYS RXS (by decide)).symm) _) ?_ ?_ ?_ ?_ (th_up17 HI.out HJ.out (RT.out.set_ j _) YL kp K4.out) ?_ ?_, HO.out.trans (only_cell17 kp)⟩
    · exact (Below.heap_setCell w2 ⟨t, j, none⟩ _ sb (row_ne12 H0.out.top k2 (by decide))).trans ((HK.out sb hsb).trans rfl)
    · rw [List.length_set]
    · rw [List.getElem?_set_self (by have := H2.out; have := HI.out; have := H0.out.rm; omega)]
    · rw [List.getElem?_set_ne (by omega)]; exact OCS
    · intro k h5 h6; rw [List.getElem?_set_ne (by omega)]
    · intro k hk hkg hkt
      exact (Below.heap_setCell w2 ⟨t, j, none⟩ _ k (fun e => hkt (by rw [e]; exact hti))).trans ((HK.out k hkg).trans rfl)
    · intro g hg; cases hg; exact .inr hti
end
end Go.Proofs.Ytkhcgclnmdgpbaa

/-
  Of part Gone17: what is needed here.
-/
namespace Go.Proofs.Ytkhcgclnmdgpbaa
open Go.RowKit
set_option linter.unusedVariables false
set_option maxRecDepth 100000
section
variable {w w' : World} {P : Nat → Prop} {sb gb room : Nat} {f : F17}
theorem th_gone17 {n i j t : Nat} {z : Value} {ys : List Value} (hi : i = n / 64) (hj : j = n % 64) (hr : Row w' t 27 (ys.set j z)) (hl : ys.length = 64) (hp : P t) (hy : ∀ (k : Nat) (y : Int), (seg17 f i)[k]? = some (some y) → ys[k]? = some (.int .u64 y)) :
    Th17 w' P (seg17 (up17 f n none) i) (some t) := by
  refine ⟨fun e => (by cases e), fun g hg => ?_⟩
  cases hg
  refine ⟨hp, _, hr, by rw [List.length_set]; exact hl, fun k y hk => ?_⟩
  rw [hi, seg_up17, ← hj, ← hi, List.getElem?_set, seg_len17] at hk
  rw [List.getElem?_set]
  by_cases hjk : j = k
  · rw [if_pos hjk, if_pos (by omega)] at hk
    cases hk
  · rw [if_neg hjk] at hk
    rw [if_neg hjk]
    exact hy k y hk
set_option maxHeartbeats 500000 in
theorem gone17 (h : Slab17 w P sb gb room f) (n : Nat) (i j : Nat) (hi : i = n / 64) (hj : j = n % 64) (hn : n < room) (hf : (f n).isSome = true) :
    Calls Try.prog 32 #[.pointer (some ⟨gb, i * 2, none⟩), .int .i64 j] w fun e w' => e = .returned (.tuple #[]) ∧ Slab17 w' P sb gb room (up17 f n none) ∧ Only17 P w w' := by
  obtain ⟨xs, th, h1, h2, h3, h4⟩ := h.she
  obtain ⟨c1, c2, c3⟩ := h3 i (by omega)
  have hjl : j < 64 := by omega
  have h0 : (0 : Int) ≤ j := by omega
  have h64 : (j : Int) ≤ 64 := by omega
  have oc : w.cell? ⟨gb, i * 2, none⟩ = some (.int .u64 (wd17 (seg17 f i))) := (h1.cell _).trans c1
  have fr := h1.frozen (i * 2)
  have HW : Hid (wd17 (seg17 (up17 f n none) i) = wd17 (seg17 f i) &&& (18446744073709551615 - 2 ^ j)) := Lib.hid (by rw [hi, hj, seg_up17, wd_free17 (by rw [seg_len17]; omega) (seg_len17 _ _)])
  obtain ⟨t, hti⟩ : ∃ t, th i = some t := by
    cases hti : th i with
    | some t => exact ⟨t, rfl⟩
    | none =>
      have hij : i * 64 + j = n := by omega
      have hsg : (seg17 f i)[j]? = some (f n) := by rw [seg_get17 hjl, hij]
      have h5 := c3.no hti (f n) (List.mem_of_getElem? hsg)
      rw [h5] at hf
      cases hf
  obtain ⟨kp, ys, k2, k3, k4⟩ := c3.yes t hti
  have K4 := Lib.hid k4
  have OCS : xs[i * 2 + 1]? = some (.slice (some ⟨t, 0, none⟩) 64 64) := by rw [c2, hti]; rfl
  have HVO := Lib.hid OCS
  obtain ⟨wd, hwd⟩ : ∃ d, d = wd17 (seg17 f i) := ⟨_, rfl⟩
  have HWL := wd_seg17 f i
  rw [← hwd] at oc HW HWL
  have e2 := free_bit17 wd j HWL hjl
  rw [← HW.out] at e2
  obtain ⟨wn, hwn⟩ : ∃ d, d = wd17 (seg17 (up17 f n none) i) := ⟨_, rfl⟩
  have HWN := Lib.hid hwn
  have HWZ : Hid (wn = 0 → ∀ x ∈ seg17 (up17 f n none) i, x = none) := Lib.hid fun e => wd_zero17.1 (hwn.symm.trans e)
  rw [← hwn] at e2
  have e3 : IntKind.u64.wrap (1 * 2 ^ j) = IntKind.u64.wrap (2 ^ j) := by rw [Int.one_mul]
  obtain ⟨pw, hpw⟩ : ∃ p, p = IntKind.u64.wrap (2 ^ j) := ⟨_, rfl⟩
  rw [e3, ← hpw] at e2
  rw [← hpw] at e3
  have e4 := hpw.symm
  have H0 := Lib.hid h
  have H1 := Lib.hid h1
  have H2 := Lib.hid h2
  have H3 := Lib.hid h3
  have H4 := Lib.hid h4
  have HI := Lib.hid hi
  have HJ := Lib.hid hj
  have HTI := Lib.hid hti
  have K2 := Lib.hid k2
  have K3 := Lib.hid k3
  have KP := Lib.hid kp
  clear h h1 h2 h3 h4 c1 c2 c3 hpw hwd hi hj hwn hti k2 k3 k4 OCS hf kp
  go_enter Try.func32, Try.ntmps32
  go_upto_region 1 with fail
  go_region
  clear oc e2 e3 e4
  have RG : Hid (Row (w.setCell ⟨gb, i * 2, none⟩ (.int .u64 (wn : Int))).drew gb 67 (xs.set (i * 2) (.int .u64 (wn : Int)))) := Lib.hid (H1.out.set_ _ _).drew
  have RT : Hid (Row (w.setCell ⟨gb, i * 2, none⟩ (.int .u64 (wn : Int))).drew t 27 ys) := Lib.hid (K2.out.far (by show t ≠ gb; exact row_ne12 K2.out H1.out (by decide)) _).drew
  have HK : Hid (∀ k, k ≠ gb → (w.setCell ⟨gb, i * 2, none⟩ (.int .u64 (wn : Int))).drew.heap[k]? = w.heap[k]?) := Lib.hid fun k hk => Below.heap_setCell w ⟨gb, i * 2, none⟩ _ k hk
  have HO : Hid (Only17 P w (w.setCell ⟨gb, i * 2, none⟩ (.int .u64 (wn : Int))).drew) := Lib.hid (only_set17 H0.out.own)
  generalize (w.setCell ⟨gb, i * 2, none⟩ (.int .u64 (wn : Int))).drew = w2 at *
  have oc2 : w2.cell? ⟨gb, i * 2 + 1, none⟩ = some (.slice (some ⟨t, 0, none⟩) 64 64) := by rw [RG.out.cell, List.getElem?_set_ne (by omega)]; exact HVO.out
  have oc3 : w2.cell? ⟨t, j, none⟩ = _ := (RT.out.cell j).trans (List.getElem?_eq_getElem (by rw [K3.out]; exact hjl))
  have fr3 := RT.out.frozen j
  have hj64 : (j : Int) < 64 := by omega
  go_upto_region 3 with fail
  have HGT : Hid (gb ≠ t) := Lib.hid (row_ne12 H1.out K2.out (by decide))
  have RG3 : Hid (Row (w2.setCell ⟨t, j, none⟩ (.int .u64 0)) gb 67 (xs.set (i * 2) (.int .u64 (wn : Int)))) := Lib.hid (RG.out.far HGT.out _)
  have RT3 : Hid (Row (w2.setCell ⟨t, j, none⟩ (.int .u64 0)) t 27 (ys.set j (.int .u64 0))) := Lib.hid (RT.out.set_ _ _)
  have HK3 : Hid (∀ k, k ≠ gb → k ≠ t → (w2.setCell ⟨t, j, none⟩ (.int .u64 0)).heap[k]? = w.heap[k]?) := Lib.hid fun k h5 h6 => (Below.heap_setCell w2 ⟨t, j, none⟩ _ k h6).trans (HK.out k h5)
  have HO3 : Hid (Only17 P w (w2.setCell ⟨t, j, none⟩ (.int .u64 0))) := Lib.hid (HO.out.trans (only_cell17 KP.out))
  clear oc2 oc3 fr3
  generalize w2.setCell ⟨t, j, none⟩ (.int .u64 0) = w3 at *
  have HL1 : Hid (i * 2 + 1 < xs.length) := Lib.hid (by have := H2.out; have := HI.out; have := H0.out.rm; omega)
  have oc4 : w3.cell? ⟨gb, i * 2, none⟩ = some (.int .u64 (wn : Int)) := by rw [RG3.out.cell, List.getElem?_set_self (by have := HL1.out; omega)]
  have HSB : Hid (sb ≠ gb ∧ sb ≠ t) := Lib.hid ⟨row_ne12 H0.out.top H1.out (by decide), row_ne12 H0.out.top K2.out (by decide)⟩
  by_cases hz : wn = 0
  · have HZ := Lib.hid (HWZ.out hz)
    subst hz
    have oc4' : w3.cell? ⟨gb, i * 2, none⟩ = some (.int .u64 0) := oc4
    have oc5 : w3.cell? ⟨gb, i * 2 + 1, none⟩ = some (.slice (some ⟨t, 0, none⟩) 64 64) := by rw [RG3.out.cell, List.getElem?_set_ne (by omega)]; exact HVO.out
    have fr5 := RG3.out.frozen (i * 2 + 1)
    clear oc4
    go_wp2_with fail
    refine bodyPost_end (results_none rfl _ _ _) rfl ?_
    refine ⟨rfl, slab_up17 (t' := none) H0.out hn HI.out H1.out H2.out H3.out H4.out ?_ (RG3.out.set_ _ _) ?_ ?_ ?_ ?_ ⟨fun _ => HZ.out, fun g hg => (by cases hg)⟩ ?_ ?_, HO3.out.trans (only_cell17 H0.out.own)⟩
    · exact (Below.heap_setCell w3 ⟨gb, i * 2 + 1, none⟩ _ sb HSB.out.1).trans (HK3.out sb HSB.out.1 HSB.out.2)
    · rw [List.length_set, List.length_set]
    · rw [List.getElem?_set_ne (by omega), List.getElem?_set_self (by have := HL1.out; omega), ← HWN.out]
    · rw [List.getElem?_set_self (by rw [List.length_set]; exact HL1.out)]; rfl
    · intro k h5 h6; rw [List.getElem?_set_ne (by omega), List.getElem?_set_ne (by omega)]
    · intro k hk hkg hkt
      exact (Below.heap_setCell w3 ⟨gb, i * 2 + 1, none⟩ _ k hkg).trans (HK3.out k hkg (fun e => hkt (by rw [e]; exact HTI.out)))
    · intro g hg; cases hg
  · have hz' : ((wn : Int) == 0) = false := by rw [beq_eq_false_iff_ne]; omega
    have hz2 : ¬ (wn : Int) = 0 := by omega
    go_wp2_with fail
    refine bodyPost_end (results_none rfl _ _ _) rfl ?_
    refine ⟨rfl, slab_up17 H0.out hn HI.out H1.out H2.out H3.out H4.out (HK3.out sb HSB.out.1 HSB.out.2) RG3.out ?_ ?_ ?_ ?_ (th_gone17 HI.out HJ.out RT3.out K3.out KP.out K4.out) ?_ ?_, HO3.out⟩
    · rw [List.length_set]
    · rw [List.getElem?_set_self (by have := HL1.out; omega), ← HWN.out]
    · rw [List.getElem?_set_ne (by omega)]; exact HVO.out
    · intro k h5 h6; rw [List.getElem?_set_ne (by omega)]
    · intro k hk hkg hkt
      exact HK3.out k hkg (fun e => hkt (by rw [e]; exact HTI.out))
    · intro g hg; cases hg; exact .inr HTI.out
end
end Go.Proofs.Ytkhcgclnmdgpbaa

/-
  Of part Acts17: what is needed here.
-/
namespace Go.Proofs.Ytkhcgclnmdgpbaa
open Go.RowKit
set_option linter.unusedVariables false
set_option maxRecDepth 100000
/-- what has a number, whichever -/
def at17 (f : F17) (z : Int) : Option Int := if z < 0 then none else f z.toNat
theorem at_nat17 (f : F17) (n : Nat) : at17 f n = f n := by
  unfold at17
  rw [if_neg (by omega), Int.toNat_natCast]
def got17 : Option Int → Value
  | none => .tuple #[.int .u64 0, .int .i64 11]
  | some x => .tuple #[.int .u64 x, .int .i64 0]
section
variable {w w' : World} {P : Nat → Prop} {sb gb room : Nat} {f : F17}
theorem Slab17.in_ (h : Slab17 w P sb gb room f) {z x : Int} (hz : at17 f z = some x) : ∃ n : Nat, z = n ∧ n < room ∧ f n = some x := by
  unfold at17 at hz
  by_cases h0 : z < 0
  · rw [if_pos h0] at hz; cases hz
  · rw [if_neg h0] at hz
    refine ⟨z.toNat, by omega, ?_, hz⟩
    rcases Nat.lt_or_ge z.toNat room with h1 | h1
    · exact h1
    · rw [h.out _ h1] at hz; cases hz
theorem find_no17 (h : Slab17 w P sb gb room f) (z : Int) (hz : at17 f z = none) : Calls Try.prog 30 #[.pointer (some ⟨sb, 0, none⟩), .int .i64 z] w fun e w' => e = .returned (.tuple #[.pointer none, .int .i64 11]) ∧ w = w' := by
  by_cases h0 : z < 0 ∨ (room : Int) ≤ z
  · exact find_off17 h z h0
  · have h1 := find17 h z.toNat z (by omega) (by omega)
    unfold at17 at hz
    rw [if_neg (by omega)] at hz
    rw [hz] at h1
    exact h1
theorem find_yes17 (h : Slab17 w P sb gb room f) (n : Nat) (z x : Int) (hz : z = n) (hn : n < room) (hx : f n = some x) : Calls Try.prog 30 #[.pointer (some ⟨sb, 0, none⟩), .int .i64 z] w fun e w' => e = .returned (.tuple #[.pointer (some ⟨gb, n / 64 * 2, none⟩), .int .i64 0]) ∧ w = w' := by
  have h1 := find17 h n z hz hn
  rw [hx] at h1
  exact h1
theorem Slab17.thing (h : Slab17 w P sb gb room f) {n i j : Nat} {x : Int} (hi : i = n / 64) (hj : j = n % 64) (hn : n < room) (hx : f n = some x) : ∃ t, w.cell? ⟨gb, i * 2 + 1, none⟩ = some (.slice (some ⟨t, 0, none⟩) 64 64) ∧ w.cell? ⟨t, j, none⟩ = some (.int .u64 x) := by
  obtain ⟨t, _, h2, _, _, h3, _⟩ := h.shelf (i := i) (by omega)
  have hij : i * 64 + j = n := by omega
  have hsg : (seg17 f i)[j]? = some (some x) := by rw [seg_get17 (by omega), hij, hx]
  cases t with
  | none => have := h3.no rfl _ (List.mem_of_getElem? hsg); cases this
  | some g =>
    obtain ⟨_, ys, hr, _, hy⟩ := h3.yes g rfl
    exact ⟨g, h2, (hr.cell j).trans (hy j x hsg)⟩
theorem Lst17.le {n : Nat} (hl : Lst17 f n) (h : Slab17 w P sb gb room f) : n ≤ room := by
  rcases Nat.lt_or_ge room n with h1 | h1
  · have := hl.1 room h1
    rw [h.out room (Nat.le_refl _)] at this
    cases this
  · exact h1
def PutDone17 (P : Nat → Prop) (sb gb room : Nat) (f : F17) (x : Int) (w : World) (e : Ending) (w' : World) : Prop :=
  ∃ n, Lst17 f n ∧ ((n = room ∧ e = .returned (.tuple #[.int .i64 0, .int .i64 3]) ∧ w = w') ∨ (n < room ∧ e = .returned (.tuple #[.int .i64 n, .int .i64 0]) ∧ Slab17 w' P sb gb room (up17 f n (some x)) ∧ Only17 P w w'))
set_option maxHeartbeats 1000000 in
theorem put17 (h : Slab17 w P sb gb room f) (x : Int) (hP : ∀ k, w.heap.size ≤ k → P k) : Calls Try.prog 10 #[.pointer (some ⟨sb, 0, none⟩), .int .u64 x] w (PutDone17 P sb gb room f x w) := by
  have HT := Lib.hid (there17 h)
  have HF := Lib.hid (free17 h)
  have HH := Lib.hid h
  have oc0 : w.cell? ⟨sb, 0, none⟩ = _ := h.top.cell 0
  have HD : Hid (∀ n e w', Lst17 f n → ((n = room ∧ e = .returned (.tuple #[.int .i64 0, .int .i64 3]) ∧ w = w') ∨ (n < room ∧ e = .returned (.tuple #[.int .i64 n, .int .i64 0]) ∧ Slab17 w' P sb gb room (up17 f n (some x)) ∧ Only17 P w w')) → PutDone17 P sb gb room f x w e w') := Lib.hid fun n e w' h1 h2 => ⟨n, h1, h2⟩
  generalize PutDone17 P sb gb room f x w = D at *
  have HP := Lib.hid hP
  have hrm := h.rm
  clear h hP
  go_enter Try.func10, Try.ntmps10
  go_wp2_with fail
  refine HT.out.mono ?_
  rintro e w1 ⟨rfl, rfl⟩
  go_wp2_with fail
  refine HF.out.mono ?_
  rintro e w1 ⟨⟨n, hn, rfl⟩, rfl⟩
  have hnl := hn.le HH.out
  have HN := Lib.hid hn
  clear hn
  by_cases hnr : n = room
  · have HE := Lib.hid (HD.out n _ w HN.out (.inl ⟨hnr, rfl, rfl⟩))
    subst hnr
    go_wp2_with fail
    exact HE.out
  · have hnr' : ((n : Int) == (room : Int)) = false := by rw [beq_eq_false_iff_ne]; omega
    have hnr2 : ¬ (n : Int) = (room : Int) := by omega
    obtain ⟨i, hi⟩ : ∃ i, i = n / 64 := ⟨_, rfl⟩
    obtain ⟨j, hj⟩ : ∃ j, j = n % 64 := ⟨_, rfl⟩
    obtain ⟨m, hm⟩ : ∃ m, m = (room + 63) / 64 := ⟨_, rfl⟩
    have hi64 : i < 64 := by omega
    have him' : (i : Int) < m := by omega
    have hq : (n : Int).tdiv 64 = (i : Int) := by rw [hi, Int.tdiv_eq_ediv_of_nonneg (by omega)]; omega
    have hq2 : (n : Int).tmod 64 = (j : Int) := by rw [hj, Int.tmod_eq_emod_of_nonneg (by omega)]; omega
    have hq3 : (n : Int) / 64 = (i : Int) := by rw [hi]; omega
    have hq4 : (n : Int) % 64 = (j : Int) := by rw [hj]; omega
    have oc1 : w.cell? ⟨sb, 1, none⟩ = some (.slice (some ⟨gb, 0, none⟩) m m) := by rw [hm]; exact HH.out.top.cell 1
    have HC := Lib.hid (shput17 HH.out n x i j hi hj (by omega) HP.out)
    have HNR : Hid (n < room) := Lib.hid (by omega)
    clear hi hj hm hnr hnl
    go_wp2_with fail
    refine HC.out.mono ?_
    rintro e w1 ⟨rfl, hs, ho⟩
    have HE := Lib.hid (HD.out n _ w1 HN.out (.inr ⟨HNR.out, rfl, hs, ho⟩))
    clear hs ho
    go_wp2_with fail
    exact HE.out
set_option maxHeartbeats 1000000 in
theorem get17 (h : Slab17 w P sb gb room f) (z : Int) : Calls Try.prog 12 #[.pointer (some ⟨sb, 0, none⟩), .int .i64 z] w fun e w' => e = .returned (got17 (at17 f z)) ∧ w = w' := by
  cases hz : at17 f z with
  | none =>
    have HF := Lib.hid (find_no17 h z hz)
    clear h hz
    show Calls _ _ _ _ fun e w' => e = .returned (.tuple #[.int .u64 0, .int .i64 11]) ∧ w = w'
    go_enter Try.func12, Try.ntmps12
    go_wp2_with fail
    refine HF.out.mono ?_
    rintro e w1 ⟨rfl, rfl⟩
    go_wp2_with fail
    go_ret2
    exact ⟨rfl, rfl⟩
  | some x =>
    obtain ⟨n, hzn, hn, hf⟩ := h.in_ hz
    have HF := Lib.hid (find_yes17 h n z x hzn hn hf)
    obtain ⟨i, hi⟩ : ∃ i, i = n / 64 := ⟨_, rfl⟩
    obtain ⟨j, hj⟩ : ∃ j, j = n % 64 := ⟨_, rfl⟩
    obtain ⟨t, oc1, oc2⟩ := h.thing hi hj hn hf
    have hq2 : z.tmod 64 = (j : Int) := by rw [hj, Int.tmod_eq_emod_of_nonneg (by omega)]; omega
    have hq4 : z % 64 = (j : Int) := by rw [hj]; omega
    have hj64 : (j : Int) < 64 := by omega
    rw [← hi] at HF
    clear h hz hzn hn hf hi hj
    show Calls _ _ _ _ fun e w' => e = .returned (.tuple #[.int .u64 x, .int .i64 0]) ∧ w = w'
    go_enter Try.func12, Try.ntmps12
    go_wp2_with fail
    refine HF.out.mono ?_
    rintro e w1 ⟨rfl, rfl⟩
    go_wp2_with fail
    go_ret2
    exact ⟨rfl, rfl⟩
def SetDone17 (P : Nat → Prop) (sb gb room : Nat) (f : F17) (z : Int) (v : Option Int) (w : World) (e : Ending) (w' : World) : Prop :=
  (at17 f z = none ∧ e = .returned (.int .i64 11) ∧ w = w') ∨ ∃ (n : Nat) (x : Int), z = n ∧ n < room ∧ f n = some x ∧ e = .returned (.int .i64 0) ∧ Slab17 w' P sb gb room (up17 f n v) ∧ Only17 P w w'
set_option maxHeartbeats 1000000 in
theorem set17 (h : Slab17 w P sb gb room f) (z y : Int) (hP : ∀ k, w.heap.size ≤ k → P k) : Calls Try.prog 14 #[.pointer (some ⟨sb, 0, none⟩), .int .i64 z, .int .u64 y] w (SetDone17 P sb gb room f z (some y) w) := by
  cases hz : at17 f z with
  | none =>
    have HF := Lib.hid (find_no17 h z hz)
    have HE : Hid (SetDone17 P sb gb room f z (some y) w (.returned (.int .i64 11)) w) := Lib.hid (.inl ⟨hz, rfl, rfl⟩)
    generalize SetDone17 P sb gb room f z (some y) w = D at *
    clear h hz hP
    go_enter Try.func14, Try.ntmps14
    go_wp2_with fail
    refine HF.out.mono ?_
    rintro e w1 ⟨rfl, rfl⟩
    go_wp2_with fail
    exact HE.out
  | some x =>
    obtain ⟨n, hzn, hn, hf⟩ := h.in_ hz
    have HF := Lib.hid (find_yes17 h n z x hzn hn hf)
    obtain ⟨i, hi⟩ : ∃ i, i = n / 64 := ⟨_, rfl⟩
    obtain ⟨j, hj⟩ : ∃ j, j = n % 64 := ⟨_, rfl⟩
    have HC := Lib.hid (shput17 h n y i j hi hj hn hP)
    have HE : Hid (∀ w', Slab17 w' P sb gb room (up17 f n (some y)) → Only17 P w w' → SetDone17 P sb gb room f z (some y) w (.returned (.int .i64 0)) w') := Lib.hid fun w' h1 h2 => .inr ⟨n, x, hzn, hn, hf, rfl, h1, h2⟩
    generalize SetDone17 P sb gb room f z (some y) w = D at *
    have hq2 : z.tmod 64 = (j : Int) := by rw [hj, Int.tmod_eq_emod_of_nonneg (by omega)]; omega
    have hq4 : z % 64 = (j : Int) := by rw [hj]; omega
    have hj64 : (j : Int) < 64 := by omega
    rw [← hi] at HF
    clear h hz hzn hn hf hi hj hP
    go_enter Try.func14, Try.ntmps14
    go_wp2_with fail
    refine HF.out.mono ?_
    rintro e w1 ⟨rfl, rfl⟩
    go_wp2_with fail
    refine HC.out.mono ?_
    rintro e w1 ⟨rfl, hs, ho⟩
    have HX := Lib.hid (HE.out w1 hs ho)
    clear hs ho
    go_wp2_with fail
    exact HX.out
set_option maxHeartbeats 1000000 in
theorem freed17 (h : Slab17 w P sb gb room f) (z : Int) : Calls Try.prog 16 #[.pointer (some ⟨sb, 0, none⟩), .int .i64 z] w (SetDone17 P sb gb room f z none w) := by
  cases hz : at17 f z with
  | none =>
    have HF := Lib.hid (find_no17 h z hz)
    have HE : Hid (SetDone17 P sb gb room f z none w (.returned (.int .i64 11)) w) := Lib.hid (.inl ⟨hz, rfl, rfl⟩)
    generalize SetDone17 P sb gb room f z none w = D at *
    clear h hz
    go_enter Try.func16, Try.ntmps16
    go_wp2_with fail
    refine HF.out.mono ?_
    rintro e w1 ⟨rfl, rfl⟩
    go_wp2_with fail
    exact HE.out
  | some x =>
    obtain ⟨n, hzn, hn, hf⟩ := h.in_ hz
    have HF := Lib.hid (find_yes17 h n z x hzn hn hf)
    obtain ⟨i, hi⟩ : ∃ i, i = n / 64 := ⟨_, rfl⟩
    obtain ⟨j, hj⟩ : ∃ j, j = n % 64 := ⟨_, rfl⟩
    have HC := Lib.hid (gone17 h n i j hi hj hn (by rw [hf]; rfl))
    have HE : Hid (∀ w', Slab17 w' P sb gb room (up17 f n none) → Only17 P w w' → SetDone17 P sb gb room f z none w (.returned (.int .i64 0)) w') := Lib.hid fun w' h1 h2 => .inr ⟨n, x, hzn, hn, hf, rfl, h1, h2⟩
    generalize SetDone17 P sb gb room f z none w = D at *
    have hq2 : z.tmod 64 = (j : Int) := by rw [hj, Int.tmod_eq_emod_of_nonneg (by omega)]; omega
    have hq4 : z % 64 = (j : Int) := by rw [hj]; omega
    have hj64 : (j : Int) < 64 := by omega
    rw [← hi] at HF
    clear h hz hzn hn hf hi hj
    go_enter Try.func16, Try.ntmps16
    go_wp2_with fail
    refine HF.out.mono ?_
    rintro e w1 ⟨rfl, rfl⟩
    go_wp2_with fail
    refine HC.out.mono ?_
    rintro e w1 ⟨rfl, hs, ho⟩
    have HX := Lib.hid (HE.out w1 hs ho)
    clear hs ho
    go_wp2_with fail
    exact HX.out
end
end Go.Proofs.Ytkhcgclnmdgpbaa

/-
  Of part Ent17: what is needed here.
-/
namespace Go.Proofs.Ytkhcgclnmdgpbaa
/-- the things of the numbers below n; of m numbers from a on -/
def entA17 (f : F17) (n : Nat) : List (Nat × Int) := (List.range n).filterMap fun k => (f k).map fun x => (k, x)
def entF17 (f : F17) (a m : Nat) : List (Nat × Int) := ((List.range m).map fun i => a + i).filterMap fun k => (f k).map fun x => (k, x)
theorem fm_congr17 {α β : Type} {p q : α → Option β} : ∀ {l : List α}, (∀ k ∈ l, p k = q k) → l.filterMap p = l.filterMap q
  | [], _ => rfl
  | x :: r, h => by rw [List.filterMap_cons, List.filterMap_cons, h x List.mem_cons_self, fm_congr17 fun k hk => h k (List.mem_cons_of_mem _ hk)]
section
variable {f g : F17} {n m a : Nat}
theorem entA_succ17 (f : F17) (n : Nat) : entA17 f (n + 1) = entA17 f n ++ (match f n with | none => [] | some x => [(n, x)]) := by
  unfold entA17
  rw [List.range_succ, List.filterMap_append]
  congr 1
  cases h : f n <;> simp [h]
theorem entA_mem17 {p : Nat × Int} : p ∈ entA17 f n ↔ p.1 < n ∧ f p.1 = some p.2 := by
  unfold entA17
  rw [List.mem_filterMap]
  constructor
  · rintro ⟨k, hk, e⟩
    obtain ⟨x, hx, rfl⟩ := Option.map_eq_some_iff.1 e
    exact ⟨List.mem_range.1 hk, hx⟩
  · rintro ⟨h1, h2⟩
    exact ⟨p.1, List.mem_range.2 h1, by rw [h2]; rfl⟩
theorem entA_len17 (f : F17) : ∀ n, (entA17 f n).length = cnt17 f n
  | 0 => rfl
  | n + 1 => by
    rw [entA_succ17, List.length_append, entA_len17 f n, cnt_succ17]
    cases h : f n <;> simp
theorem entA_nums17 (f : F17) : ∀ n, (entA17 f n).map (·.1) = nums17 f n
  | 0 => rfl
  | n + 1 => by
    rw [entA_succ17, List.map_append, entA_nums17 f n, nums_succ17]
    cases h : f n <;> simp
theorem entA_same17 (h : ∀ k, k < n → f k = g k) : entA17 f n = entA17 g n := by
  unfold entA17
  refine fm_congr17 fun k hk => ?_
  rw [h k (List.mem_range.1 hk)]
theorem entF_same17 (h : ∀ k, a ≤ k → f k = g k) : entF17 f a m = entF17 g a m := by
  unfold entF17
  refine fm_congr17 fun k hk => ?_
  obtain ⟨i, _, rfl⟩ := List.mem_map.1 hk
  rw [h _ (Nat.le_add_right _ _)]
theorem entA_split17 (f : F17) (n m : Nat) : entA17 f (n + m) = entA17 f n ++ entF17 f n m := by
  unfold entA17 entF17
  rw [List.range_add, List.filterMap_append]
theorem entA_at17 {room : Nat} (f : F17) (hn : n < room) : entA17 f room = entA17 f n ++ ((match f n with | none => [] | some x => [(n, x)]) ++ entF17 f (n + 1) (room - (n + 1))) := by
  rw [← List.append_assoc, ← entA_succ17, ← entA_split17]
  congr 1
  omega
theorem up_self17 (f : F17) (n : Nat) (v : Option Int) : up17 f n v n = v := by simp only [up17]; rfl
theorem up_ne17 (f : F17) (v : Option Int) {k : Nat} (h : k ≠ n) : up17 f n v k = f k := by simp only [up17]; exact if_neg h
theorem entA_up17 (f : F17) (n : Nat) (v : Option Int) : entA17 (up17 f n v) n = entA17 f n := entA_same17 fun k hk => up_ne17 f v (by omega)
theorem entF_up17 (f : F17) (n m : Nat) (v : Option Int) : entF17 (up17 f n v) (n + 1) m = entF17 f (n + 1) m := entF_same17 fun k hk => up_ne17 f v (by omega)
/-- with another thing, or none -/
theorem ent_some17 {room : Nat} {x : Int} (f : F17) (hn : n < room) : entA17 (up17 f n (some x)) room = entA17 f n ++ ((n, x) :: entF17 f (n + 1) (room - (n + 1))) := by
  rw [entA_at17 _ hn, up_self17, entA_up17, entF_up17]
  rfl
theorem ent_none17 {room : Nat} (f : F17) (hn : n < room) : entA17 (up17 f n none) room = entA17 f n ++ entF17 f (n + 1) (room - (n + 1)) := by
  rw [entA_at17 _ hn, up_self17, entA_up17, entF_up17]
  rfl
theorem lst_len17 (h : ∀ k, k < n → (f k).isSome = true) : (entA17 f n).length = n := by
  rw [entA_len17]
  induction n with
  | zero => rfl
  | succ n ih => rw [cnt_succ17, ih fun k hk => h k (by omega), h n (by omega)]; rfl
/-- what is put comes where its number says -/
theorem ent_put17 {room : Nat} {x : Int} (hl : Lst17 f n) (hn : n < room) : entA17 (up17 f n (some x)) room = (entA17 f room).take n ++ ((n, x) :: (entA17 f room).drop n) := by
  have hA := lst_len17 hl.1
  have he : entA17 f room = entA17 f n ++ entF17 f (n + 1) (room - (n + 1)) := by
    rw [entA_at17 f hn, hl.2]
    rfl
  rw [ent_some17 f hn, he]
  congr 1
  · exact (List.take_left' hA).symm
  · congr 1
    exact (List.drop_left' hA).symm
/-- where a number's thing is -/
theorem ent_idx17 {room i : Nat} {y : Int} (hn : n < room) (hf : f n = some y) (hi : ∃ x, (entA17 f room)[i]? = some (n, x)) (hj : ∀ j p, j < i → (entA17 f room)[j]? = some p → p.1 ≠ n) :
    i = (entA17 f n).length ∧ entA17 f room = entA17 f n ++ ((n, y) :: entF17 f (n + 1) (room - (n + 1))) := by
  have he : entA17 f room = entA17 f n ++ ((n, y) :: entF17 f (n + 1) (room - (n + 1))) := by
    rw [entA_at17 f hn, hf]
    rfl
  refine ⟨?_, he⟩
  obtain ⟨x, hx⟩ := hi
  rcases Nat.lt_trichotomy i (entA17 f n).length with h | h | h
  · rw [he, List.getElem?_append_left h] at hx
    have := (entA_mem17.1 (List.mem_of_getElem? hx)).1
    exact absurd this (Nat.lt_irrefl n)
  · exact h
  · exact absurd rfl (hj _ (n, y) h (by rw [he, List.getElem?_append_right (Nat.le_refl _), Nat.sub_self]; rfl))
theorem ent_set17 {room i : Nat} {x y : Int} (hn : n < room) (hi : i = (entA17 f n).length) (he : entA17 f room = entA17 f n ++ ((n, y) :: entF17 f (n + 1) (room - (n + 1)))) : entA17 (up17 f n (some x)) room = (entA17 f room).set i (n, x) := by
  rw [ent_some17 f hn, he, hi, List.set_append_right _ _ (Nat.le_refl _), Nat.sub_self]
  rfl
theorem ent_gone17 {room i : Nat} {y : Int} (hn : n < room) (hi : i = (entA17 f n).length) (he : entA17 f room = entA17 f n ++ ((n, y) :: entF17 f (n + 1) (room - (n + 1)))) : entA17 (up17 f n none) room = (entA17 f room).take i ++ (entA17 f room).drop (i + 1) := by
  rw [ent_none17 f hn, he, hi, List.take_left', List.drop_append]
  · simp
  · rfl
/-- the loop that looks for the least number that none has: it ends there -/
theorem ent_least17 {room : Nat} (hout : ∀ k, room ≤ k → f k = none) (hlen : (entA17 f room).length < room) (hj : ∀ j, j < n → ∃ x, (entA17 f room)[j]? = some (j, x)) (hs : ∀ x, (entA17 f room)[n]? ≠ some (n, x)) : Lst17 f n ∧ n < room := by
  have h1 : ∀ k, k < n → (f k).isSome = true := fun k hk => by
    obtain ⟨x, hx⟩ := hj k hk
    rw [(entA_mem17.1 (List.mem_of_getElem? hx)).2]
    rfl
  have hnr : n < room := by
    rcases Nat.eq_zero_or_pos n with h0 | h0
    · omega
    · obtain ⟨x, hx⟩ := hj (n - 1) (by omega)
      have := (List.getElem?_eq_some_iff.1 hx).1
      omega
  refine ⟨⟨h1, ?_⟩, hnr⟩
  cases hfn : f n with
  | none => rfl
  | some y =>
    refine absurd ?_ (hs y)
    rw [entA_at17 f hnr, hfn, List.getElem?_append_right (by rw [lst_len17 h1]; exact Nat.le_refl _), lst_len17 h1, Nat.sub_self]
    rfl
end
end Go.Proofs.Ytkhcgclnmdgpbaa

/-
  Of part TurnMath7: what is needed here.
-/
namespace Go.Proofs.Ytkhcgclnmdgpbaa
open Go.RowKit
set_option linter.unusedVariables false
set_option maxRecDepth 100000
/-- one cell of a row of the call's own is written -/
theorem own_setCellR {w : World} {base size n c g : Nat} {e : TypeId} {xs : List Value} (h : w.ownsRow base e size (.slice (some ⟨g, 0, none⟩) n c) n xs) (i : Nat) (u : Value) : (w.setCell ⟨g, i, none⟩ u).ownsRow base e size (.slice (some ⟨g, 0, none⟩) n c) n (xs.set i u) := by
  refine ⟨by rw [List.length_set]; exact h.1, ?_⟩
  rcases h.2 with ⟨hv, _⟩ | ⟨g', cap, cur, hv, hg, hh, h1, h2, h3, h4⟩
  · cases hv
  · cases hv
    have hr : Row w g e cur.toList := ⟨by simpa using hh⟩
    have hr2 := (hr.set_ i u).is
    refine .inr ⟨g, c, (cur.toList.set i u).toArray, rfl, hg, hr2, h1, h2, by simp [h3], ?_⟩
    simp only [List.take_set]
    rw [← h4]
end Go.Proofs.Ytkhcgclnmdgpbaa

/-
  Of part Ref17: what is needed here.
-/
namespace Go.Proofs.Ytkhcgclnmdgpbaa
open Go.RowKit
set_option linter.unusedVariables false
set_option maxRecDepth 100000
def esC17 (es : List (Nat × Int)) : List Value := (es.map fun p => [Value.int .i64 (p.1 : Int), .int .u64 p.2]).flatten
section
variable {es a b : List (Nat × Int)} {i k n : Nat} {x y : Int}
theorem esC_cons17 (p : Nat × Int) (r : List (Nat × Int)) : esC17 (p :: r) = .int .i64 (p.1 : Int) :: .int .u64 p.2 :: esC17 r := rfl
theorem esC_app17 (a b : List (Nat × Int)) : esC17 (a ++ b) = esC17 a ++ esC17 b := by simp [esC17]
theorem esC_len17 : ∀ es : List (Nat × Int), (esC17 es).length = es.length * 2
  | [] => rfl
  | p :: r => by
    rw [esC_cons17, List.length_cons, List.length_cons, esC_len17 r, List.length_cons]
    omega
theorem esC_one17 : ∀ u ∈ esC17 es, u.oneCell' = true := fun u hu => by
  obtain ⟨l, hl, hu⟩ := List.mem_flatten.1 hu
  obtain ⟨p, _, rfl⟩ := List.mem_map.1 hl
  simp only [List.mem_cons, List.not_mem_nil, or_false] at hu
  rcases hu with rfl | rfl <;> rfl
theorem esC_drop17 (es : List (Nat × Int)) (k : Nat) : (esC17 es).drop (k * 2) = esC17 (es.drop k) := by
  rcases Nat.lt_or_ge es.length k with h | h
  · rw [List.drop_eq_nil_of_le (by rw [esC_len17]; omega), List.drop_eq_nil_of_le (by omega)]
    rfl
  · have e : esC17 es = esC17 (es.take k) ++ esC17 (es.drop k) := by rw [← esC_app17, List.take_append_drop]
    rw [e]
    exact List.drop_left' (by rw [esC_len17, List.length_take]; omega)
theorem esC_take17 (es : List (Nat × Int)) (k : Nat) : (esC17 es).take (k * 2) = esC17 (es.take k) := by
  rcases Nat.lt_or_ge es.length k with h | h
  · rw [List.take_of_length_le (by rw [esC_len17]; omega), List.take_of_length_le (by omega)]
  · have e : esC17 es = esC17 (es.take k) ++ esC17 (es.drop k) := by rw [← esC_app17, List.take_append_drop]
    rw [e]
    exact List.take_left' (by rw [esC_len17, List.length_take]; omega)
theorem esC_at17 (h : es[i]? = some (n, x)) : (esC17 es)[i * 2]? = some (.int .i64 (n : Int)) ∧ (esC17 es)[i * 2 + 1]? = some (.int .u64 x) := by
  have hi := (List.getElem?_eq_some_iff.1 h).1
  have hd : es.drop i = (n, x) :: es.drop (i + 1) := by
    rw [List.drop_eq_getElem_cons hi]
    congr 1
    exact (List.getElem?_eq_some_iff.1 h).2
  have e := esC_drop17 es i
  rw [hd, esC_cons17] at e
  constructor
  · have h1 : ((esC17 es).drop (i * 2))[0]? = some (.int .i64 (n : Int)) := by rw [e]; rfl
    rwa [List.getElem?_drop, Nat.add_zero] at h1
  · have h1 : ((esC17 es).drop (i * 2))[1]? = some (.int .u64 x) := by rw [e]; rfl
    rwa [List.getElem?_drop] at h1
theorem esC_set17 (h : es[i]? = some (n, y)) : (esC17 es).set (i * 2 + 1) (.int .u64 x) = esC17 (es.set i (n, x)) := by
  have hi := (List.getElem?_eq_some_iff.1 h).1
  have hl : (esC17 (es.take i)).length = i * 2 := by rw [esC_len17, List.length_take]; omega
  have hd : es.drop i = (n, y) :: es.drop (i + 1) := by
    rw [List.drop_eq_getElem_cons hi]
    congr 1
    exact (List.getElem?_eq_some_iff.1 h).2
  have e : esC17 es = esC17 (es.take i) ++ esC17 (es.drop i) := by rw [← esC_app17, List.take_append_drop]
  have e2 : es.set i (n, x) = es.take i ++ (n, x) :: es.drop (i + 1) := by rw [List.set_eq_take_append_cons_drop, if_pos hi]
  rw [e2, e, hd, List.set_append_right _ _ (by omega), hl, show i * 2 + 1 - i * 2 = 1 by omega, esC_app17, esC_cons17, esC_cons17]
  rfl
end
/-- the reference's slab -/
structure Ref17 (w : World) (base rb room : Nat) (v : Value) (es : List (Nat × Int)) : Prop where
  row : Row w rb 45 [.int .i64 room, v]
  own : w.ownsRow base 70 2 v es.length (esC17 es)
  lo : base ≤ rb
def RefP17 (rb : Nat) (v : Value) (k : Nat) : Prop := k = rb ∨ v.ownBlock = some k
section
variable {w w' : World} {base rb room : Nat} {v : Value} {es : List (Nat × Int)}
theorem Ref17.below (h : Ref17 w base rb room v es) (hb : Below w.heap.size w w') : Ref17 w' base rb room v es := ⟨h.row.below hb h.row.lt, own_below h.own hb, h.lo⟩
theorem Ref17.keep (h : Ref17 w base rb room v es) (hk : ∀ k, k < w.heap.size → RefP17 rb v k → w'.heap[k]? = w.heap[k]?) : Ref17 w' base rb room v es := by
  refine ⟨⟨(hk rb h.row.lt (.inl rfl)).trans h.row.is⟩, ⟨h.own.1, ?_⟩, h.lo⟩
  rcases h.own.2 with h2 | ⟨g, cap, cur, hv, hg, hh, r⟩
  · exact .inl h2
  · exact .inr ⟨g, cap, cur, hv, hg, (hk g (Array.getElem?_eq_some_iff.1 hh).1 (.inr (by rw [hv]; rfl))).trans hh, r⟩
theorem Ref17.lowP (h : Ref17 w base rb room v es) {k : Nat} (hk : RefP17 rb v k) : base ≤ k ∧ k < w.heap.size := by
  rcases hk with rfl | hk
  · exact ⟨h.lo, h.row.lt⟩
  · exact h.own.lt k hk
theorem Ref17.form (h : Ref17 w base rb room v es) : ∃ A c, v = .slice A es.length c ∧ es.length ≤ c ∧ c ≤ maxLen ∧ Sees w w.heap.size A (es.length * 2) (esC17 es) := by
  obtain ⟨A, c, e, hs, h1, h2, _⟩ := own_form2 h.own
  exact ⟨A, c, e, h1, h2, hs⟩
theorem own_blk17 {n : Nat} {xs : List Value} {e : TypeId} (h : w.ownsRow base e 2 v n xs) (hn : 0 < n) : ∃ g c, v = .slice (some ⟨g, 0, none⟩) n c ∧ n ≤ c ∧ c ≤ maxLen ∧ (∀ i u, xs[i]? = some u → w.cell? ⟨g, i, none⟩ = some u) ∧ ∀ i, w.frozen? ⟨g, i, none⟩ = false := by
  obtain ⟨A, c, e1, hs, h1, h2, _⟩ := own_form2 h
  rcases h.2 with ⟨rfl, rfl⟩ | ⟨g, cap, cur, rfl, hg, hh, k1, k2, k3, k4⟩
  · have := h.1
    simp at this
    omega
  · refine ⟨g, cap, rfl, k1, k2, fun i u hu => ?_, fun i => by simp [World.frozen?, hh]⟩
    cases e1
    obtain ⟨a, ea, _, hc⟩ := hs.cell i u hu
    cases ea
    rw [addr_row, Nat.zero_add] at hc
    exact hc
end
end Go.Proofs.Ytkhcgclnmdgpbaa

/-
  Of part RefGet17: what is needed here.
-/
namespace Go.Proofs.Ytkhcgclnmdgpbaa
open Go.RowKit
set_option linter.unusedVariables false
set_option maxRecDepth 100000
def AtDone17 (es : List (Nat × Int)) (z : Int) (w : World) (e : Ending) (w' : World) : Prop :=
  ((∃ (i n : Nat) (x : Int), es[i]? = some (n, x) ∧ (n : Int) = z ∧ (∀ j p, j < i → es[j]? = some p → (p.1 : Int) ≠ z) ∧ e = .returned (.int .i64 i)) ∨ ((∀ p ∈ es, (p.1 : Int) ≠ z) ∧ e = .returned (.int .i64 (-1)))) ∧ w = w'
section
variable {w w' : World} {base rb room : Nat} {v : Value} {es : List (Nat × Int)}
set_option maxHeartbeats 1000000 in
theorem refat17 (h : Ref17 w base rb room v es) (z : Int) (hl : es.length ≤ 5000) : Calls Try.prog 31 #[.pointer (some ⟨rb, 0, none⟩), .int .i64 z] w (AtDone17 es z w) := by
  have HE1 : Hid (∀ (i n : Nat) (x : Int), es[i]? = some (n, x) → (n : Int) = z → (∀ j p, j < i → es[j]? = some p → (p.1 : Int) ≠ z) → AtDone17 es z w (.returned (.int .i64 i)) w) := Lib.hid fun i n x h1 h2 h3 => ⟨.inl ⟨i, n, x, h1, h2, h3, rfl⟩, rfl⟩
  have HE2 : Hid ((∀ p ∈ es, (p.1 : Int) ≠ z) → AtDone17 es z w (.returned (.int .i64 (-1))) w) := Lib.hid fun h1 => ⟨.inr ⟨h1, rfl⟩, rfl⟩
  generalize AtDone17 es z w = D at *
  obtain ⟨A, c, rfl, h1, h2, hs⟩ := h.form
  have oc1 : w.cell? ⟨rb, 1, none⟩ = _ := h.row.cell 1
  have HS : Hid (∀ i n x, es[i]? = some (n, x) → ∃ g, A = some ⟨g, 0, none⟩ ∧ w.cell? ⟨g, i * 2, none⟩ = some (.int .i64 (n : Nat))) := Lib.hid fun i n x hi => by
    have hil := (List.getElem?_eq_some_iff.1 hi).1
    obtain ⟨g, c', e1, _, _, hc, _⟩ := own_blk17 h.own (by omega)
    cases e1
    exact ⟨g, rfl, hc _ _ (esC_at17 hi).1⟩
  clear h hs
  obtain ⟨ln, hln⟩ : ∃ l, l = es.length := ⟨_, rfl⟩
  rw [← hln] at oc1
  have HLN := Lib.hid hln
  have hl5 : ln ≤ 5000 := by omega
  clear hln hl h1 h2
  go_enter Try.func31, Try.ntmps31
  go_wp2_with fail
  go_loopw [5] (fun i wr => ∃ k : Nat, k ≤ ln ∧ i = .int .i64 k ∧ Hid (∀ j p, j < k → es[j]? = some p → (p.1 : Int) ≠ z) ∧ wr = w) (fun i _ => ln - (intOf i).toNat)
  case atStart => exact ⟨0, Nat.zero_le _, rfl, Lib.hid (fun j p hj => absurd hj (by omega)), rfl⟩
  case round =>
    obtain ⟨k, hk, rfl, HK, hw⟩ := hrel
    have hw' := hw.symm
    subst hw'
    by_cases hlt : k < ln
    · have hlt' : (k : Int) < ln := by omega
      obtain ⟨⟨n, x⟩, hp⟩ : ∃ p, es[k]? = some p := ⟨_, List.getElem?_eq_getElem (by rw [← HLN.out]; exact hlt)⟩
      obtain ⟨g, rfl, oc2⟩ := HS.out k n x hp
      have HPK := Lib.hid hp
      clear hp
      by_cases hnz : (n : Int) = z
      · have hx := Lib.hid (HE1.out k n x HPK.out hnz HK.out)
        have hb : ((n : Int) == z) = true := by rw [beq_iff_eq]; exact hnz
        rw [hnz] at oc2
        clear hb
        go_wp2_with fail
        exact hx.out
      · have hb : ((n : Int) == z) = false := by rw [beq_eq_false_iff_ne]; exact hnz
        have HK1 : Hid (∀ j p, j < k + 1 → es[j]? = some p → (p.1 : Int) ≠ z) := Lib.hid fun j p hj hp => by
          rcases Nat.lt_succ_iff_lt_or_eq.1 hj with hj | rfl
          · exact HK.out j p hj hp
          · rw [HPK.out] at hp
            cases hp
            exact hnz
        go_wp2_with fail
        go_roundw
        case rel => exact ⟨k + 1, by omega, by go_num, HK1, trivial⟩
        case measure => simp [intOf]; omega
    · have hke : k = ln := by omega
      have hlt' : ¬ (k : Int) < ln := by omega
      have hx := Lib.hid (HE2.out fun p hp => by
        obtain ⟨j, hj, e⟩ := List.getElem_of_mem hp
        exact HK.out j p (by rw [hke, HLN.out]; exact hj) (by rw [List.getElem?_eq_getElem hj, e]))
      go_wp2_with fail
      exact hx.out
theorem at_none17 {f : F17} {z : Int} (hout : ∀ n, room ≤ n → f n = none) (h : ∀ p ∈ entA17 f room, (p.1 : Int) ≠ z) : at17 f z = none := by
  unfold at17
  by_cases h0 : z < 0
  · exact if_pos h0
  · rw [if_neg h0]
    cases hx : f z.toNat with
    | none => rfl
    | some x =>
      rcases Nat.lt_or_ge z.toNat room with h1 | h1
      · exact absurd (show ((z.toNat : Nat) : Int) = z by omega) (h (z.toNat, x) (entA_mem17.2 ⟨h1, hx⟩))
      · rw [hout _ h1] at hx; cases hx
theorem ent_len17 (f : F17) {room : Nat} (hr : room ≤ 4096) : (entA17 f room).length ≤ 5000 := by
  have h1 := entA_len17 f room
  have h2 := cnt_le17 f room
  omega
set_option maxHeartbeats 1000000 in
theorem refget17 {f : F17} (h : Ref17 w base rb room v (entA17 f room)) (hout : ∀ n, room ≤ n → f n = none) (hr : room ≤ 4096) (z : Int) : Calls Try.prog 13 #[.pointer (some ⟨rb, 0, none⟩), .int .i64 z] w fun e w' => e = .returned (got17 (at17 f z)) ∧ w = w' := by
  have HA := Lib.hid (refat17 h z (ent_len17 f hr))
  have HH := Lib.hid h
  have HOUT := Lib.hid hout
  obtain ⟨o, ho⟩ : ∃ o, o = at17 f z := ⟨_, rfl⟩
  rw [← ho]
  have HO := Lib.hid ho
  clear h hout ho
  go_enter Try.func13, Try.ntmps13
  go_wp2_with fail
  refine HA.out.mono ?_
  rintro e w1 ⟨⟨i, n, x, hi, hn, _, rfl⟩ | ⟨hno, rfl⟩, rfl⟩
  · have hf := (entA_mem17.1 (List.mem_of_getElem? hi)).2
    have hox : o = some x := by rw [HO.out, ← hn, at_nat17]; exact hf
    subst hox
    obtain ⟨A, c, rfl, h1, h2, hs⟩ := HH.out.form
    obtain ⟨g, c', e1, _, _, hc, _⟩ := own_blk17 HH.out.own (by have := (List.getElem?_eq_some_iff.1 hi).1; omega)
    cases e1
    have oc1 : w.cell? ⟨rb, 1, none⟩ = _ := HH.out.row.cell 1
    have oc2 := hc _ _ (esC_at17 hi).2
    have hil : (i : Int) < ((entA17 f room).length : Nat) := by have := (List.getElem?_eq_some_iff.1 hi).1; omega
    clear hi hn hf hs hc h1 h2
    generalize (entA17 f room).length = ln at *
    simp only []
    go_wp2_with fail
    go_ret2
    exact ⟨rfl, rfl⟩
  · have hox : o = none := HO.out.trans (at_none17 HOUT.out hno)
    subst hox
    clear hno
    simp only []
    go_wp2_with fail
    go_ret2
    exact ⟨rfl, rfl⟩
def RSetDone17 (base rb room : Nat) (v : Value) (f : F17) (z : Int) (y : Option Int) (w : World) (e : Ending) (w' : World) : Prop :=
  (at17 f z = none ∧ e = .returned (.int .i64 11) ∧ w = w') ∨ ∃ (n : Nat) (x : Int) (v' : Value), z = n ∧ n < room ∧ f n = some x ∧ e = .returned (.int .i64 0) ∧ Ref17 w' base rb room v' (entA17 (up17 f n y) room) ∧ Only17 (RefP17 rb v) w w'
set_option maxHeartbeats 1000000 in
theorem refset17 {f : F17} (h : Ref17 w base rb room v (entA17 f room)) (hout : ∀ n, room ≤ n → f n = none) (hr : room ≤ 4096) (z y : Int) : Calls Try.prog 15 #[.pointer (some ⟨rb, 0, none⟩), .int .i64 z, .int .u64 y] w (RSetDone17 base rb room v f z (some y) w) := by
  have HA := Lib.hid (refat17 h z (ent_len17 f hr))
  have HH := Lib.hid h
  have HOUT := Lib.hid hout
  have HD1 : Hid (at17 f z = none → RSetDone17 base rb room v f z (some y) w (.returned (.int .i64 11)) w) := Lib.hid fun h1 => .inl ⟨h1, rfl, rfl⟩
  have HD2 : Hid (∀ (n : Nat) (x : Int) w', z = n → n < room → f n = some x → Ref17 w' base rb room v (entA17 (up17 f n (some y)) room) → Only17 (RefP17 rb v) w w' → RSetDone17 base rb room v f z (some y) w (.returned (.int .i64 0)) w') := Lib.hid fun n x w' h1 h2 h3 h4 h5 => .inr ⟨n, x, v, h1, h2, h3, rfl, h4, h5⟩
  generalize RSetDone17 base rb room v f z (some y) w = D at *
  clear h hout
  go_enter Try.func15, Try.ntmps15
  go_wp2_with fail
  refine HA.out.mono ?_
  rintro e w1 ⟨⟨i, n, x, hi, hn, hj, rfl⟩ | ⟨hno, rfl⟩, rfl⟩
  · have hm := entA_mem17.1 (List.mem_of_getElem? hi)
    obtain ⟨hix, hee⟩ := ent_idx17 hm.1 hm.2 ⟨x, hi⟩ (fun j p h1 h2 e => hj j p h1 h2 (by rw [e]; exact hn))
    have HES := Lib.hid (ent_set17 (x := y) hm.1 hix hee)
    obtain ⟨A, c, rfl, h1, h2, hs⟩ := HH.out.form
    obtain ⟨g, c', e1, _, _, hc, hfr⟩ := own_blk17 HH.out.own (by have := (List.getElem?_eq_some_iff.1 hi).1; omega)
    cases e1
    have oc1 : w.cell? ⟨rb, 1, none⟩ = _ := HH.out.row.cell 1
    have oc2 := hc _ _ (esC_at17 hi).2
    have fr2 := hfr (i * 2 + 1)
    have hil : (i : Int) < ((entA17 f room).length : Nat) := by have := (List.getElem?_eq_some_iff.1 hi).1; omega
    have hrg : rb ≠ g := fun e => by
      subst e
      exact own_row_neN HH.out.own HH.out.row (by decide) rfl
    have hown2 : (w.setCell ⟨g, i * 2 + 1, none⟩ (.int .u64 y)).ownsRow base 70 2 (.slice (some ⟨g, 0, none⟩) (entA17 f room).length c) (entA17 (up17 f n (some y)) room).length (esC17 (entA17 (up17 f n (some y)) room)) := by
      have h6 := own_setCellR HH.out.own (i * 2 + 1) (.int .u64 y)
      rw [esC_set17 hi, ← HES.out] at h6
      have h7 : (entA17 (up17 f n (some y)) room).length = (entA17 f room).length := by rw [HES.out, List.length_set]
      rw [h7]
      exact h6
    have HX := Lib.hid (HD2.out n x (w.setCell ⟨g, i * 2 + 1, none⟩ (.int .u64 y)) hn.symm hm.1 hm.2 ⟨HH.out.row.far (by show rb ≠ g; exact hrg) _, hown2, HH.out.lo⟩ (only_cell17 (.inr rfl)))
    clear hi hn hj hm hix hee hs hc hfr h1 h2 hown2 hrg
    generalize (entA17 f room).length = ln at *
    go_wp2_with fail
    exact HX.out
  · have HX := Lib.hid (HD1.out (at_none17 HOUT.out hno))
    clear hno
    go_wp2_with fail
    exact HX.out
set_option maxHeartbeats 1000000 in
theorem refnums17 {f : F17} (h : Ref17 w base rb room v (entA17 f room)) (hr : room ≤ 4096) : Calls Try.prog 21 #[.pointer (some ⟨rb, 0, none⟩)] w (NumsDone17 (nums17 f room) w) := by
  have HLE := Lib.hid (ent_len17 f hr)
  have HMN := Lib.hid (entA_nums17 f room)
  have HD : Hid (∀ v V, OwnI17 V w.heap.size v (intsN (nums17 f room)) → Below w.heap.size w V → NumsDone17 (nums17 f room) w (.returned v) V) := Lib.hid fun v V h1 h2 => ⟨v, rfl, h1, h2⟩
  generalize NumsDone17 (nums17 f room) w = D at *
  generalize entA17 f room = es at *
  generalize nums17 f room = ns at *
  have HH := Lib.hid h
  obtain ⟨A, c, rfl, h1, h2, hs⟩ := h.form
  obtain ⟨ln, hln⟩ : ∃ l, l = es.length := ⟨_, rfl⟩
  have HLN := Lib.hid hln
  have HS : Hid (∀ V, Below w.heap.size w V → ∀ i n x, es[i]? = some (n, x) → ∃ g, A = some ⟨g, 0, none⟩ ∧ V.cell? ⟨g, i * 2, none⟩ = some (.int .i64 (n : Nat))) := Lib.hid fun V hV i n x hi => by
    have hil := (List.getElem?_eq_some_iff.1 hi).1
    have h6 := HH.out.below hV
    obtain ⟨g, c', e1, _, _, hc, _⟩ := own_blk17 h6.own (by omega)
    cases e1
    exact ⟨g, rfl, hc _ _ (esC_at17 hi).1⟩
  have OC1 : Hid (∀ V, Below w.heap.size w V → V.cell? ⟨rb, 1, none⟩ = some (.slice A ln c)) := Lib.hid fun V hV => by rw [hln]; exact (HH.out.below hV).row.cell 1
  have hln5 : ln ≤ 5000 := by rw [hln]; exact HLE.out
  clear h hs h1 h2 hln
  go_enter Try.func21, Try.ntmps21
  go_wp2_with fail
  go_loopw [3, 4] (fun l i wr => ∃ k : Nat, k ≤ ln ∧ i = .int .i64 k ∧ Hid (OwnI17 wr w.heap.size l (intsN ((es.take k).map (·.1)))) ∧ Hid (Below w.heap.size w wr)) (fun _ i _ => ln - (intOf i).toNat)
  case atStart => exact ⟨0, Nat.zero_le _, rfl, Lib.hid (OwnI17.nil _ _), Lib.hid (Below.refl _ _)⟩
  case round =>
    obtain ⟨k, hk, rfl, HO, HB⟩ := hrel
    rename World => wr
    have oc1 := OC1.out wr HB.out
    by_cases hlt : k < ln
    · have hlt' : (k : Int) < ln := by omega
      obtain ⟨⟨n, x⟩, hp⟩ : ∃ p, es[k]? = some p := ⟨_, List.getElem?_eq_getElem (by rw [← HLN.out]; exact hlt)⟩
      obtain ⟨g, rfl, oc2⟩ := HS.out wr HB.out k n x hp
      obtain ⟨xs, hxs⟩ : ∃ xs, xs = intsN ((es.take k).map (·.1)) := ⟨_, rfl⟩
      have HXS : Hid (intsN ((es.take (k + 1)).map (·.1)) = xs ++ [(n : Int)]) := Lib.hid (by rw [List.take_add_one, hp, hxs]; simp [intsN])
      have HL5 : Hid (xs.length ≤ 5000) := Lib.hid (by rw [hxs]; unfold intsN; rw [List.length_map, List.length_map, List.length_take]; have := HLE.out; omega)
      rw [← hxs] at HO
      clear hxs hp
      have hbw := (Below.refl wr.heap.size wr).alloc (Nat.le_refl _) (.cells #[.int .i64 n] 3)
      have HO3 := Lib.hid (HO.out.below hbw)
      have HB3 := Lib.hid (HB.out.trans (hbw.mono HB.out.size))
      have RX := Lib.hid (Row.new wr 3 [.int .i64 n])
      clear hbw
      go_wp2_with (first
        | ((with_reducible show wpList _ _ _ ({ dst := some 24, op := _, type := _, pos := _, after := _, guard := _ } :: _) _ _); go_must (refine add_int17 rfl (.tmp 14) (.tmp 23) rfl w.heap.size _ xs n _ 1 (by go_simp) HO3.out (by go_simp) RX.out HB3.out.size HL5.out ?_; intro v4 w4 ho4 hb4))
        | fail)
      go_roundw
      case rel => exact ⟨k + 1, by omega, by go_num, Lib.hid (by rw [HXS.out]; exact ho4), Lib.hid (HB3.out.trans hb4)⟩
      case measure => simp [intOf]; omega
    · have hke : k = ln := by omega
      have hlt' : ¬ (k : Int) < ln := by omega
      have HF := Lib.hid (HD.out _ wr (by rw [← HMN.out, ← List.take_of_length_le (l := es) (i := k) (by rw [hke, HLN.out]; exact Nat.le_refl _)]; exact HO.out) HB.out)
      go_wp2_with fail
      exact HF.out
set_option maxHeartbeats 1000000 in
theorem refnew_bad17 (z : Int) (hz : z < 1 ∨ 4096 < z) : Calls Try.prog 8 #[.int .i64 z] w fun e w' => e = .returned (.tuple #[.pointer none, .int .i64 1]) ∧ w = w' := by
  by_cases h0 : z < 1
  · have d0 : decide (z < 1) = true := decide_eq_true h0
    go_enter Try.func8, Try.ntmps8
    go_wp2_with fail
    go_ret2
    exact ⟨rfl, rfl⟩
  · have h1 : 4096 < z := by omega
    have d0 : decide (z < 1) = false := decide_eq_false h0
    have d1 : decide (4096 < z) = true := decide_eq_true h1
    go_enter Try.func8, Try.ntmps8
    go_wp2_with fail
    go_ret2
    exact ⟨rfl, rfl⟩
theorem built_ref17 (z : Int) : Try.prog.built 45 [(0, .int .i64 z)] = some [Value.int .i64 z, .slice none 0 0].toArray := by kernel_rfl
theorem entA_none17 : ∀ n, entA17 none17 n = []
  | 0 => rfl
  | n + 1 => by rw [entA_succ17, entA_none17 n]; rfl
set_option maxHeartbeats 1000000 in
theorem refnew17 (room : Nat) (z : Int) (hz : z = room) (hr : 1 ≤ room ∧ room ≤ 4096) : Calls Try.prog 8 #[.int .i64 z] w fun e w' => ∃ rb, e = .returned (.tuple #[.pointer (some ⟨rb, 0, none⟩), .int .i64 0]) ∧ Ref17 w' w.heap.size rb room (.slice none 0 0) (entA17 none17 room) ∧ Below w.heap.size w w' := by
  have d0 : decide (z < 1) = false := decide_eq_false (by omega)
  have d1 : decide (4096 < z) = false := decide_eq_false (by omega)
  have HZ := Lib.hid hz
  clear hz
  go_enter Try.func8, Try.ntmps8
  go_wp2_with (first
    | ((with_reducible show wpList _ _ _ ({ dst := some 11, op := Op.build _ _, type := _, pos := _, after := _, guard := _ } :: _) _ _); go_must (refine wpList_plain rfl fun K hK => wp_built _ _ _ rfl (by simp only [List.map_toArray, List.map_cons, List.map_nil]; exact (built_ref17 _)) (hK _ _ ?_)))
    | ((with_reducible show wpList _ _ _ ({ dst := _, op := Op.box _ _, type := _, pos := _, after := _, guard := _ } :: _) _ _); go_must (refine wpList_box_new rfl 45 (.tmp 11) rfl [.int .i64 z, .slice none 0 0] ?_ ?_; go_simp))
    | fail)
  go_ret2
  refine ⟨w.heap.size, rfl, ⟨?_, by rw [entA_none17]; exact own_nilN _ _ _ _, Nat.le_refl _⟩, (Below.refl _ _).alloc (Nat.le_refl _) _⟩
  rw [← HZ.out]
  exact Row.new w 45 _
end
end Go.Proofs.Ytkhcgclnmdgpbaa

/-
  Of part RefPut17: what is needed here.
-/
namespace Go.Proofs.Ytkhcgclnmdgpbaa
open Go.RowKit
set_option linter.unusedVariables false
set_option maxRecDepth 100000
theorem info_th17 : (Try.prog.info? 70).map (fun i => (i.zero, i.size, i.bytes)) = some (some (.agg #[.int .i64 0, .int .u64 0]), 2, 16) := by kernel_rfl
theorem size_th17 : (Try.prog.info? 70).map (·.size) = some 2 := by kernel_rfl
theorem built_th17 (n x : Int) : Try.prog.built 70 [(0, .int .i64 n), (1, .int .u64 x)] = some [Value.int .i64 n, .int .u64 x].toArray := by kernel_rfl
def tail17 (A : Option Addr) (c k : Nat) : Option Addr := if c = k then A else A.map (·.add (k * 2))
theorem run_tail17 {o : Oper} {a : Act} {w : World} (x i : Operand) (ho : o.op = .slice 43 x (some i) none none)
    (A : Option Addr) (n c k : Nat) (hx : a.eval x = .slice A n c) (hi : a.eval i = .int .i64 k) (hk : k ≤ n) (hn : n ≤ c) (hc : c ≤ maxLen) :
    (execOp a.eval o).run Try.prog w = .ok (.value (.slice (tail17 A c k) (n - k) (c - k))) w := by
  unfold maxLen at hc
  have ht := Try.underlying43
  obtain ⟨ie, hie, _, hs1, _⟩ := info_parts info_th17
  have he : Try.prog.elem 43 = 70 := by simp [Program.elem, ht]
  have ht' : Try.prog.underlying 43 = some (.slice (Try.prog.elem 43)) := by rw [he]; exact ht
  have hso : (sizeOf 70).run Try.prog w = .ok 2 w := by simp [sizeOf, typeInfo, hie, hs1]
  have h1 : (0 : Int) ≤ k := by omega
  have h2 : (k : Int) ≤ n := by omega
  unfold execOp
  simp only [ho, hx, hi, Option.map_some, Option.map_none]
  simp only [Sem.run_bind, run_sliceAt_slice w 43 _ _ _ _ ht', run_slice_l w 43 A n c ht' .i64 k h1 h2, he, hso, Result.andThen_ok, sliced, tail17, Int.toNat_natCast, Sem.run_pure]
theorem wpList_tail17 {ops : Array Oper} {rest : List Oper} {o : Oper} {a : Act} {w : World} {Q : Exit → Act → World → Prop} (hgd : o.guard = none) (x i : Operand) (ho : o.op = .slice 43 x (some i) none none)
    (A : Option Addr) (n c k : Nat) (hx : a.eval x = .slice A n c) (hi : a.eval i = .int .i64 k) (hk : k ≤ n) (hn : n ≤ c) (hc : c ≤ maxLen)
    (h : wpList Try.prog ops Q rest (a.put o.dst (.slice (tail17 A c k) (n - k) (c - k))) w) : wpList Try.prog ops Q (o :: rest) a w :=
  wpList_plain hgd fun K hK => by
    unfold Oper.wp
    rw [run_tail17 x i ho A n c k hx hi hk hn hc]
    exact hK _ _ h
theorem sees_tail17 {w : World} {B n c k : Nat} {A : Option Addr} {es : List (Nat × Int)} (h : Sees w B A (n * 2) (esC17 es)) (hk : k ≤ n) (hn : n ≤ c) : Sees w B (tail17 A c k) ((n - k) * 2) (esC17 (es.drop k)) := by
  have hl : es.length = n := by have := h.len; rw [esC_len17] at this; omega
  rw [← esC_drop17]
  refine ⟨by rw [List.length_drop, h.len]; omega, fun j u hu => ?_⟩
  rw [List.getElem?_drop] at hu
  obtain ⟨a, rfl, hb, hc⟩ := h.cell _ u hu
  have hj : k * 2 + j < n * 2 := by have := (List.getElem?_eq_some_iff.1 hu).1; rw [h.len] at this; exact this
  refine ⟨a.add (k * 2), by unfold tail17; rw [if_neg (by omega)]; rfl, by rw [addr_block]; exact hb, ?_⟩
  rw [addr_add]
  exact hc
theorem sees_head17 {w : World} {B n k : Nat} {A : Option Addr} {es : List (Nat × Int)} (h : Sees w B A (n * 2) (esC17 es)) (hk : k ≤ n) : Sees w B A (k * 2) (esC17 (es.take k)) := by
  rw [← esC_take17]
  refine ⟨by rw [List.length_take, h.len]; omega, fun j u hu => ?_⟩
  rw [List.getElem?_take] at hu
  split at hu
  · exact h.cell j u hu
  · cases hu
theorem wp_app17 {o : Oper} {a : Act} {w : World} {K : Act → World → Prop} {Q : Exit → Act → World → Prop} (s x : Operand) (ho : o.op = .call { callee := .builtin .append, args := #[s, x], argTypes := #[43, 43] })
    (base B : Nat) (v : Value) (us bs : List (Nat × Int)) (A : Option Addr) (m c : Nat) (hs : a.eval s = v) (hown : w.ownsRow base 70 2 v us.length (esC17 us)) (hx : a.eval x = .slice A m c) (hr : Sees w B A (m * 2) (esC17 bs)) (hl : us.length + bs.length ≤ 20000) (hb : base ≤ w.heap.size)
    (k : ∀ v' w', w'.ownsRow base 70 2 v' (us ++ bs).length (esC17 (us ++ bs)) → Below base w w' → K (a.put o.dst v') w') : o.wp Try.prog a w K Q := by
  have hm : m = bs.length := by have := hr.len; rw [esC_len17] at this; omega
  refine wp_appendN s x 43 70 (.agg #[.int .i64 0, .int .u64 0]) 2 16 ho Try.underlying43 info_th17 rfl (by omega) v us.length (esC17 us) base B A m c (esC17 bs) hs hown hx hr esC_one17 (by unfold maxLen; omega) (by omega) hb ?_
  intro v' w' ho' hg
  refine k v' w' ?_ (hg.below hown hb)
  rw [List.length_append, esC_app17, ← hm]
  exact ho'
def RPutDone17 (base rb room : Nat) (v : Value) (f : F17) (x : Int) (w : World) (e : Ending) (w' : World) : Prop :=
  (room ≤ (entA17 f room).length ∧ e = .returned (.tuple #[.int .i64 0, .int .i64 3]) ∧ Below w.heap.size w w') ∨ ∃ (n : Nat) (v' : Value), Lst17 f n ∧ n < room ∧ e = .returned (.tuple #[.int .i64 n, .int .i64 0]) ∧ Ref17 w' base rb room v' (entA17 (up17 f n (some x)) room) ∧ Only17 (RefP17 rb v) w w'
set_option maxHeartbeats 4000000 in
theorem refput17 {f : F17} {w : World} {base rb room : Nat} {v : Value} (h : Ref17 w base rb room v (entA17 f room)) (hout : ∀ n, room ≤ n → f n = none) (hr : room ≤ 4096) (x : Int) (hb0 : base ≤ w.heap.size) : Calls Try.prog 11 #[.pointer (some ⟨rb, 0, none⟩), .int .u64 x] w (RPutDone17 base rb room v f x w) := by
  have HD1 : Hid (∀ w', room ≤ (entA17 f room).length → Below w.heap.size w w' → RPutDone17 base rb room v f x w (.returned (.tuple #[.int .i64 0, .int .i64 3])) w') := Lib.hid fun w' h1 h2 => .inl ⟨h1, rfl, h2⟩
  have HD2 : Hid (∀ (n : Nat) (v' : Value) w', Lst17 f n → n < room → Ref17 w' base rb room v' (entA17 (up17 f n (some x)) room) → Only17 (RefP17 rb v) w w' → RPutDone17 base rb room v f x w (.returned (.tuple #[.int .i64 n, .int .i64 0])) w') := Lib.hid fun n v' w' h1 h2 h3 h4 => .inr ⟨n, v', h1, h2, rfl, h3, h4⟩
  have HLE := Lib.hid (ent_len17 f hr)
  have HOUT := Lib.hid hout
  generalize RPutDone17 base rb room v f x w = D at *
  have HH := Lib.hid h
  obtain ⟨A, c, rfl, hlc, hcm, hs⟩ := h.form
  obtain ⟨ln, hln⟩ : ∃ l, l = (entA17 f room).length := ⟨_, rfl⟩
  have HLN := Lib.hid hln
  have hl5 : ln ≤ 5000 := by rw [hln]; exact HLE.out
  have HLC : Hid (ln ≤ c ∧ c ≤ maxLen) := Lib.hid ⟨by omega, hcm⟩
  have oc0 : w.cell? ⟨rb, 0, none⟩ = _ := h.row.cell 0
  have oc1 : w.cell? ⟨rb, 1, none⟩ = some (.slice A ln c) := by rw [hln]; exact h.row.cell 1
  have HB0 := Lib.hid hb0
  clear h hout hlc hcm hs hln hb0
  go_enter Try.func11, Try.ntmps11
  go_upto_region 1 with fail
  go_region
  have hbd : Below w.heap.size w w.drew := (Below.refl _ _).drew
  have HH2 := Lib.hid (HH.out.below hbd)
  have HBD := Lib.hid hbd
  have HSZ : Hid (w.drew.heap.size = w.heap.size) := Lib.hid rfl
  clear oc0 oc1 hbd
  generalize w.drew = wd at *
  have oc1 : wd.cell? ⟨rb, 1, none⟩ = some (.slice A ln c) := by rw [HLN.out]; exact HH2.out.row.cell 1
  by_cases hfull : room ≤ ln
  · have hfull' : (room : Int) ≤ ln := by omega
    have d0 : decide ((room : Int) ≤ (ln : Int)) = true := decide_eq_true hfull'
    have HX := Lib.hid (HD1.out wd (by rw [← HLN.out]; exact hfull) HBD.out)
    go_wp2_with fail
    exact HX.out
  have hfull' : ¬ (room : Int) ≤ ln := by omega
  have d0 : decide ((room : Int) ≤ (ln : Int)) = false := decide_eq_false hfull'
  have HS : Hid (∀ i n x, (entA17 f room)[i]? = some (n, x) → ∃ g, A = some ⟨g, 0, none⟩ ∧ wd.cell? ⟨g, i * 2, none⟩ = some (.int .i64 (n : Nat))) := Lib.hid fun i n x hi => by
    have hil := (List.getElem?_eq_some_iff.1 hi).1
    obtain ⟨g, c', e1, _, _, hc, _⟩ := own_blk17 HH2.out.own (by omega)
    cases e1
    exact ⟨g, rfl, hc _ _ (esC_at17 hi).1⟩
  go_wp2_with fail
  clear d0
  go_loopw [6] (fun i wr => ∃ k : Nat, k ≤ ln ∧ i = .int .i64 k ∧ Hid (∀ j, j < k → ∃ x, (entA17 f room)[j]? = some (j, x)) ∧ wr = wd) (fun i _ => ln - (intOf i).toNat)
  case atStart => exact ⟨0, Nat.zero_le _, rfl, Lib.hid (fun j hj => absurd hj (by omega)), rfl⟩
  case round =>
    obtain ⟨k, hk, rfl, HK, hw⟩ := hrel
    have hw' := hw.symm
    subst hw'
    by_cases hgo : ∃ y, (entA17 f room)[k]? = some (k, y)
    · obtain ⟨y, hy⟩ := hgo
      have hlt : k < ln := by rw [HLN.out]; exact (List.getElem?_eq_some_iff.1 hy).1
      have hlt' : (k : Int) < ln := by omega
      have d1 : decide ((k : Int) < (ln : Int)) = true := decide_eq_true hlt'
      obtain ⟨g, rfl, oc2⟩ := HS.out k k y hy
      have HK1 : Hid (∀ j, j < k + 1 → ∃ x, (entA17 f room)[j]? = some (j, x)) := Lib.hid fun j hj => by
        rcases Nat.lt_succ_iff_lt_or_eq.1 hj with hj | rfl
        · exact HK.out j hj
        · exact ⟨y, hy⟩
      clear hy
      go_wp2_with fail
      go_roundw
      case rel => exact ⟨k + 1, by omega, by go_num, HK1, trivial⟩
      case measure => simp [intOf]; omega
    · obtain ⟨HL, hkr⟩ := ent_least17 HOUT.out (by rw [← HLN.out]; omega) HK.out (fun x hx => hgo ⟨x, hx⟩)
      have HLS := Lib.hid HL
      have HKR := Lib.hid hkr
      have HKN := Lib.hid hk
      have HES := Lib.hid (ent_put17 (x := x) HL hkr)
      have HSEE : Hid (Sees wd wd.heap.size A (ln * 2) (esC17 (entA17 f room))) := Lib.hid (by
        obtain ⟨A', c', e1, _, _, hs⟩ := HH2.out.form
        cases e1
        rw [HLN.out]
        exact hs)
      by_cases hlt : k < ln
      · have hlt' : (k : Int) < ln := by omega
        have d1 : decide ((k : Int) < (ln : Int)) = true := decide_eq_true hlt'
        obtain ⟨⟨n, y⟩, hp⟩ : ∃ p, (entA17 f room)[k]? = some p := ⟨_, List.getElem?_eq_getElem (by rw [← HLN.out]; exact hlt)⟩
        have hnk : ¬ (n : Int) = (k : Int) := fun e => hgo ⟨y, by rw [hp]; congr 2; omega⟩
        have hnk2 : ((n : Int) == (k : Int)) = false := by rw [beq_eq_false_iff_ne]; exact hnk
        obtain ⟨g, rfl, oc2⟩ := HS.out k n y hp
        clear hp hgo HL
        go_upto_region 6 with fail
        clear d1
        go_upto_region 7 with (first
          | ((with_reducible show wpList _ _ _ ({ dst := some 44, op := _, type := _, pos := _, after := _, guard := _ } :: _) _ _); go_must (refine wpList_head rfl 43 70 (.tmp 42) (.tmp 43) 2 rfl Try.underlying43 size_th17 (some ⟨g, 0, none⟩) ln c k (by go_simp) (by go_simp) (by have := HLC.out; omega) ?_))
          | ((with_reducible show wpList _ _ _ ({ dst := some 45, op := _, type := _, pos := _, after := _, guard := _ } :: _) _ _); go_must (refine wpList_plain rfl fun K hK => wp_app17 (.const (.slice none 0 0)) (.tmp 44) rfl wd.heap.size wd.heap.size (.slice none 0 0) [] ((entA17 f room).take k) (some ⟨g, 0, none⟩) k c rfl (own_nilN _ _ _ _) (by go_simp) (sees_head17 HSEE.out HKN.out) (by have := HLE.out; simp only [List.length_nil, List.length_take]; omega) (Nat.le_refl _) ?_; intro v1 w1 ho1 hb1; refine hK _ _ ?_))
          | fail)
        rw [List.nil_append] at ho1
        have HO1 := Lib.hid ho1
        have HB1 := Lib.hid hb1
        clear oc1
        go_upto_region 8 with (first
          | ((with_reducible show wpList _ _ _ ({ dst := some 49, op := Op.build _ _, type := _, pos := _, after := _, guard := _ } :: _) _ _); go_must (refine wpList_plain rfl fun K hK => wp_built _ _ _ rfl (by simp only [List.map_toArray, List.map_cons, List.map_nil]; exact (built_th17 _ _)) (hK _ _ ?_)))
          | ((with_reducible show wpList _ _ _ ({ dst := some 50, op := _, type := _, pos := _, after := _, guard := _ } :: _) _ _); go_must (refine wpList_plain rfl fun K hK => wp_buildOne 43 70 (.tmp 49) rfl [.int .i64 k, .int .u64 x] _ 2 16 Try.underlying43 info_th17 rfl (by omega) (by omega) rfl (by go_simp) ?_; refine hK _ _ ?_))
          | ((with_reducible show wpList _ _ _ ({ dst := some 51, op := _, type := _, pos := _, after := _, guard := _ } :: _) _ _); go_must (refine wpList_plain rfl fun K hK => wp_app17 (.tmp 46) (.tmp 50) rfl wd.heap.size (w1.heap.size + 1) v1 ((entA17 f room).take k) [(k, x)] (some ⟨w1.heap.size, 0, none⟩) 1 1 (by go_simp) (own_below HO1.out ((Below.refl _ _).alloc (Nat.le_refl _) _)) (by go_simp) (by have h8 := (Row.new w1 70 [Value.int .i64 (k : Int), .int .u64 x]).sees0; rw [World.size_alloc] at h8; exact h8) (by have := HLE.out; simp only [List.length_take, List.length_cons, List.length_nil]; omega) (Nat.le_trans HB1.out.size (by simp)) ?_; intro v2 w2 ho2 hb2; refine hK _ _ ?_))
          | fail)
        have HB2 : Hid (Below wd.heap.size wd w2) := Lib.hid (HB1.out.trans ((((Below.refl w1.heap.size w1).alloc (Nat.le_refl _) (.cells [Value.int .i64 k, .int .u64 x].toArray 70)).mono HB1.out.size).trans hb2))
        have HO2 := Lib.hid ho2
        have oc1 : w2.cell? ⟨rb, 1, none⟩ = some (.slice (some ⟨g, 0, none⟩) ln c) := by rw [HLN.out]; exact (HH2.out.below HB2.out).row.cell 1
        clear ho1 hb1 ho2 hb2
        have HSE2 := Lib.hid (sees_tail17 (HSEE.out.below HB2.out) HKN.out HLC.out.1)
        have fr1 : w2.frozen? ⟨rb, 1, none⟩ = false := (HH2.out.below HB2.out).row.frozen 1
        go_upto_region 9 with (first
          | ((with_reducible show wpList _ _ _ ({ dst := some 59, op := _, type := _, pos := _, after := _, guard := _ } :: _) _ _); go_must (refine wpList_tail17 rfl (.tmp 57) (.tmp 58) rfl (some ⟨g, 0, none⟩) ln c k (by go_simp) (by go_simp) HKN.out HLC.out.1 HLC.out.2 ?_))
          | ((with_reducible show wpList _ _ _ ({ dst := some 60, op := _, type := _, pos := _, after := _, guard := _ } :: _) _ _); go_must (refine wpList_plain rfl fun K hK => wp_app17 (.tmp 53) (.tmp 59) rfl wd.heap.size wd.heap.size v2 ((entA17 f room).take k ++ [(k, x)]) ((entA17 f room).drop k) (tail17 (some ⟨g, 0, none⟩) c k) (ln - k) (c - k) (by go_simp) HO2.out (by go_simp) HSE2.out (by have := HLE.out; simp only [List.length_append, List.length_take, List.length_drop, List.length_cons, List.length_nil]; omega) HB2.out.size ?_; intro v3 w3 ho3 hb3; obtain ⟨n3, hn3⟩ : ∃ n, n = (((entA17 f room).take k ++ [(k, x)]) ++ (entA17 f room).drop k).length := ⟨_, rfl⟩; rw [← hn3] at ho3; obtain ⟨A3, c3, rfl, _⟩ := own_form2 ho3; have HN3 := Lib.hid hn3; clear hn3; refine hK _ _ ?_; have HB3 := Lib.hid (HB2.out.trans hb3); have oc3 : w3.cell? ⟨rb, 1, none⟩ = some (.slice (some ⟨g, 0, none⟩) ln c) := (hb3.cell (p := ⟨rb, 1, none⟩) HH2.out.row.lt).trans oc1; have fr3 : w3.frozen? ⟨rb, 1, none⟩ = false := (HH2.out.below HB3.out).row.frozen 1))
          | fail)
        have hR := (HH2.out.below HB3.out).row.set_ 1 (.slice A3 n3 c3)
        have hrb := HH2.out.row.lt
        have ho4 : (w3.setCell ⟨rb, 1, none⟩ (.slice A3 n3 c3)).ownsRow base 70 2 (.slice A3 n3 c3) (entA17 (up17 f k (some x)) room).length (esC17 (entA17 (up17 f k (some x)) room)) := by
          rw [HES.out]
          have h5 : (entA17 f room).take k ++ ((k, x) :: (entA17 f room).drop k) = ((entA17 f room).take k ++ [(k, x)]) ++ (entA17 f room).drop k := by rw [List.append_assoc]; rfl
          rw [h5]
          have hbb := Nat.le_trans HB0.out HBD.out.size
          rw [← HN3.out]
          refine ⟨ho3.1, ?_⟩
          rcases ho3.2 with h6 | ⟨g, cap, cur, hv, hg, hh, r⟩
          · exact .inl h6
          · exact .inr ⟨g, cap, cur, hv, Nat.le_trans hbb hg, (Below.heap_setCell w3 ⟨rb, 1, none⟩ (.slice A3 n3 c3) g (by show g ≠ rb; omega)).trans hh, r⟩
        have HX := Lib.hid (HD2.out k (.slice A3 n3 c3) (w3.setCell ⟨rb, 1, none⟩ (.slice A3 n3 c3)) HLS.out HKR.out ⟨hR, ho4, HH.out.lo⟩ (Only17.trans (Only17.of (HBD.out.trans (HB3.out.mono HBD.out.size)) (Nat.le_refl _)) (only_cell17 (.inl rfl))))
        clear hR ho4 ho3 hb3 hrb oc1 oc3 fr1 fr3
        go_wp2_with fail
        exact HX.out
      · have hlt' : ¬ (k : Int) < ln := by omega
        have d1 : decide ((k : Int) < (ln : Int)) = false := decide_eq_false hlt'
        clear hgo HL
        go_upto_region 6 with fail
        clear d1
        go_upto_region 7 with (first
          | ((with_reducible show wpList _ _ _ ({ dst := some 44, op := _, type := _, pos := _, after := _, guard := _ } :: _) _ _); go_must (refine wpList_head rfl 43 70 (.tmp 42) (.tmp 43) 2 rfl Try.underlying43 size_th17 A ln c k (by go_simp) (by go_simp) (by have := HLC.out; omega) ?_))
          | ((with_reducible show wpList _ _ _ ({ dst := some 45, op := _, type := _, pos := _, after := _, guard := _ } :: _) _ _); go_must (refine wpList_plain rfl fun K hK => wp_app17 (.const (.slice none 0 0)) (.tmp 44) rfl wd.heap.size wd.heap.size (.slice none 0 0) [] ((entA17 f room).take k) A k c rfl (own_nilN _ _ _ _) (by go_simp) (sees_head17 HSEE.out HKN.out) (by have := HLE.out; simp only [List.length_nil, List.length_take]; omega) (Nat.le_refl _) ?_; intro v1 w1 ho1 hb1; refine hK _ _ ?_))
          | fail)
        rw [List.nil_append] at ho1
        have HO1 := Lib.hid ho1
        have HB1 := Lib.hid hb1
        clear oc1
        go_upto_region 8 with (first
          | ((with_reducible show wpList _ _ _ ({ dst := some 49, op := Op.build _ _, type := _, pos := _, after := _, guard := _ } :: _) _ _); go_must (refine wpList_plain rfl fun K hK => wp_built _ _ _ rfl (by simp only [List.map_toArray, List.map_cons, List.map_nil]; exact (built_th17 _ _)) (hK _ _ ?_)))
          | ((with_reducible show wpList _ _ _ ({ dst := some 50, op := _, type := _, pos := _, after := _, guard := _ } :: _) _ _); go_must (refine wpList_plain rfl fun K hK => wp_buildOne 43 70 (.tmp 49) rfl [.int .i64 k, .int .u64 x] _ 2 16 Try.underlying43 info_th17 rfl (by omega) (by omega) rfl (by go_simp) ?_; refine hK _ _ ?_))
          | ((with_reducible show wpList _ _ _ ({ dst := some 51, op := _, type := _, pos := _, after := _, guard := _ } :: _) _ _); go_must (refine wpList_plain rfl fun K hK => wp_app17 (.tmp 46) (.tmp 50) rfl wd.heap.size (w1.heap.size + 1) v1 ((entA17 f room).take k) [(k, x)] (some ⟨w1.heap.size, 0, none⟩) 1 1 (by go_simp) (own_below HO1.out ((Below.refl _ _).alloc (Nat.le_refl _) _)) (by go_simp) (by have h8 := (Row.new w1 70 [Value.int .i64 (k : Int), .int .u64 x]).sees0; rw [World.size_alloc] at h8; exact h8) (by have := HLE.out; simp only [List.length_take, List.length_cons, List.length_nil]; omega) (Nat.le_trans HB1.out.size (by simp)) ?_; intro v2 w2 ho2 hb2; refine hK _ _ ?_))
          | fail)
        have HB2 : Hid (Below wd.heap.size wd w2) := Lib.hid (HB1.out.trans ((((Below.refl w1.heap.size w1).alloc (Nat.le_refl _) (.cells [Value.int .i64 k, .int .u64 x].toArray 70)).mono HB1.out.size).trans hb2))
        have HO2 := Lib.hid ho2
        have oc1 : w2.cell? ⟨rb, 1, none⟩ = some (.slice A ln c) := by rw [HLN.out]; exact (HH2.out.below HB2.out).row.cell 1
        clear ho1 hb1 ho2 hb2
        have HSE2 := Lib.hid (sees_tail17 (HSEE.out.below HB2.out) HKN.out HLC.out.1)
        have fr1 : w2.frozen? ⟨rb, 1, none⟩ = false := (HH2.out.below HB2.out).row.frozen 1
        go_upto_region 9 with (first
          | ((with_reducible show wpList _ _ _ ({ dst := some 59, op := _, type := _, pos := _, after := _, guard := _ } :: _) _ _); go_must (refine wpList_tail17 rfl (.tmp 57) (.tmp 58) rfl A ln c k (by go_simp) (by go_simp) HKN.out HLC.out.1 HLC.out.2 ?_))
          | ((with_reducible show wpList _ _ _ ({ dst := some 60, op := _, type := _, pos := _, after := _, guard := _ } :: _) _ _); go_must (refine wpList_plain rfl fun K hK => wp_app17 (.tmp 53) (.tmp 59) rfl wd.heap.size wd.heap.size v2 ((entA17 f room).take k ++ [(k, x)]) ((entA17 f room).drop k) (tail17 A c k) (ln - k) (c - k) (by go_simp) HO2.out (by go_simp) HSE2.out (by have := HLE.out; simp only [List.length_append, List.length_take, List.length_drop, List.length_cons, List.length_nil]; omega) HB2.out.size ?_; intro v3 w3 ho3 hb3; obtain ⟨n3, hn3⟩ : ∃ n, n = (((entA17 f room).take k ++ [(k, x)]) ++ (entA17 f room).drop k).length := ⟨_, rfl⟩; rw [← hn3] at ho3; obtain ⟨A3, c3, rfl, _⟩ := own_form2 ho3; have HN3 := Lib.hid hn3; clear hn3; refine hK _ _ ?_; have HB3 := Lib.hid (HB2.out.trans hb3); have oc3 : w3.cell? ⟨rb, 1, none⟩ = some (.slice A ln c) := (hb3.cell (p := ⟨rb, 1, none⟩) HH2.out.row.lt).trans oc1; have fr3 : w3.frozen? ⟨rb, 1, none⟩ = false := (HH2.out.below HB3.out).row.frozen 1))
          | fail)
        have hR := (HH2.out.below HB3.out).row.set_ 1 (.slice A3 n3 c3)
        have hrb := HH2.out.row.lt
        have ho4 : (w3.setCell ⟨rb, 1, none⟩ (.slice A3 n3 c3)).ownsRow base 70 2 (.slice A3 n3 c3) (entA17 (up17 f k (some x)) room).length (esC17 (entA17 (up17 f k (some x)) room)) := by
          rw [HES.out]
          have h5 : (entA17 f room).take k ++ ((k, x) :: (entA17 f room).drop k) = ((entA17 f room).take k ++ [(k, x)]) ++ (entA17 f room).drop k := by rw [List.append_assoc]; rfl
          rw [h5]
          have hbb := Nat.le_trans HB0.out HBD.out.size
          rw [← HN3.out]
          refine ⟨ho3.1, ?_⟩
          rcases ho3.2 with h6 | ⟨g, cap, cur, hv, hg, hh, r⟩
          · exact .inl h6
          · exact .inr ⟨g, cap, cur, hv, Nat.le_trans hbb hg, (Below.heap_setCell w3 ⟨rb, 1, none⟩ (.slice A3 n3 c3) g (by show g ≠ rb; omega)).trans hh, r⟩
        have HX := Lib.hid (HD2.out k (.slice A3 n3 c3) (w3.setCell ⟨rb, 1, none⟩ (.slice A3 n3 c3)) HLS.out HKR.out ⟨hR, ho4, HH.out.lo⟩ (Only17.trans (Only17.of (HBD.out.trans (HB3.out.mono HBD.out.size)) (Nat.le_refl _)) (only_cell17 (.inl rfl))))
        clear hR ho4 ho3 hb3 hrb oc1 oc3 fr1 fr3
        go_wp2_with fail
        exact HX.out
end Go.Proofs.Ytkhcgclnmdgpbaa

/-
  Of part RefFree17: what is needed here.
-/
namespace Go.Proofs.Ytkhcgclnmdgpbaa
open Go.RowKit
set_option linter.unusedVariables false
set_option maxRecDepth 100000
set_option maxHeartbeats 4000000 in
theorem reffree17 {f : F17} {w : World} {base rb room : Nat} {v : Value} (h : Ref17 w base rb room v (entA17 f room)) (hout : ∀ n, room ≤ n → f n = none) (hr : room ≤ 4096) (z : Int) (hb0 : base ≤ w.heap.size) : Calls Try.prog 17 #[.pointer (some ⟨rb, 0, none⟩), .int .i64 z] w (RSetDone17 base rb room v f z none w) := by
  have HA := Lib.hid (refat17 h z (ent_len17 f hr))
  have HOUT := Lib.hid hout
  have HD1 : Hid (at17 f z = none → RSetDone17 base rb room v f z none w (.returned (.int .i64 11)) w) := Lib.hid fun h1 => .inl ⟨h1, rfl, rfl⟩
  have HD2 : Hid (∀ (n : Nat) (x : Int) v' w', z = n → n < room → f n = some x → Ref17 w' base rb room v' (entA17 (up17 f n none) room) → Only17 (RefP17 rb v) w w' → RSetDone17 base rb room v f z none w (.returned (.int .i64 0)) w') := Lib.hid fun n x v' w' h1 h2 h3 h4 h5 => .inr ⟨n, x, v', h1, h2, h3, rfl, h4, h5⟩
  have HLE := Lib.hid (ent_len17 f hr)
  generalize RSetDone17 base rb room v f z none w = D at *
  have HH := Lib.hid h
  have HB0 := Lib.hid hb0
  clear h hout hb0
  go_enter Try.func17, Try.ntmps17
  go_wp2_with fail
  refine HA.out.mono ?_
  rintro e w1 ⟨⟨i, n, x, hi, hn, hj, rfl⟩ | ⟨hno, rfl⟩, rfl⟩
  rotate_left
  · have HX := Lib.hid (HD1.out (at_none17 HOUT.out hno))
    clear hno
    go_wp2_with fail
    exact HX.out
  have hm := entA_mem17.1 (List.mem_of_getElem? hi)
  obtain ⟨hix, hee⟩ := ent_idx17 hm.1 hm.2 ⟨x, hi⟩ (fun j p h1 h2 e => hj j p h1 h2 (by rw [e]; exact hn))
  have HES := Lib.hid (ent_gone17 hm.1 hix hee)
  have HM := Lib.hid hm
  have HN := Lib.hid hn.symm
  obtain ⟨A, c, rfl, hlc, hcm, hs⟩ := HH.out.form
  obtain ⟨ln, hln⟩ : ∃ l, l = (entA17 f room).length := ⟨_, rfl⟩
  have HLN := Lib.hid hln
  have hl5 : ln ≤ 5000 := by rw [hln]; exact HLE.out
  have hil : i < ln := by rw [hln]; exact (List.getElem?_eq_some_iff.1 hi).1
  have HLC : Hid (ln ≤ c ∧ c ≤ maxLen) := Lib.hid ⟨by omega, hcm⟩
  have HIL := Lib.hid hil
  clear hi hn hj hm hix hee hlc hcm hs hln
  go_upto_region 4 with fail
  have hbd : Below w.heap.size w w.drew := (Below.refl _ _).drew
  have HH2 := Lib.hid (HH.out.below hbd)
  have HBD := Lib.hid hbd
  clear hbd
  refine wp_region_held_drew (S := fun _ => True) (by kernel_rfl) trivial (fun _ => ?_)
  try dsimp only [List.append]
  generalize w.drew = wz at *
  have HSEE : Hid (Sees wz wz.heap.size A (ln * 2) (esC17 (entA17 f room))) := Lib.hid (by
    obtain ⟨A', c', e1, _, _, hs⟩ := HH2.out.form
    cases e1
    rw [HLN.out]
    exact hs)
  have OC : Hid (∀ V, Below wz.heap.size wz V → V.cell? ⟨rb, 1, none⟩ = some (.slice A ln c) ∧ V.frozen? ⟨rb, 1, none⟩ = false) := Lib.hid fun V hV => ⟨by rw [HLN.out]; exact (HH2.out.below hV).row.cell 1, (HH2.out.below hV).row.frozen 1⟩
  have BZ : Hid (Below wz.heap.size wz wz) := Lib.hid (Below.refl _ _)
  refine takeL (i := 0) (v := ?_) rfl (by kernel_rfl) (by kernel_rfl) (by kernel_rfl) (fun _ _ _ h => h) (Or.inl ⟨by rfl, ?_⟩) trivial ?_
  rotate_left
  · intro w hw
    try dsimp only at hw
    go_simp
    try with_reducible rfl
  try simp only [Act.put, List.setIfInBounds_toArray, List.set_cons_zero, List.set_cons_succ]
  refine takeL (i := 1) (v := ?_) rfl (by kernel_rfl) (by kernel_rfl) (by kernel_rfl) (fun _ _ _ h => h) (Or.inl ⟨by rfl, ?_⟩) trivial ?_
  rotate_left
  · intro w hw
    try dsimp only at hw
    go_simp
    try with_reducible rfl
  try simp only [Act.put, List.setIfInBounds_toArray, List.set_cons_zero, List.set_cons_succ]
  refine takeL (i := 2) (v := ?_) rfl (by kernel_rfl) (by kernel_rfl) (by kernel_rfl) (fun _ _ _ h => h) (Or.inl ⟨by rfl, ?_⟩) trivial ?_
  rotate_left
  · intro w hw
    try dsimp only at hw
    go_simp
    try with_reducible rfl
  try simp only [Act.put, List.setIfInBounds_toArray, List.set_cons_zero, List.set_cons_succ]
  refine takeL (i := 3) (v := ?_) rfl (by kernel_rfl) (by kernel_rfl) (by kernel_rfl) (fun _ _ _ h => h) (Or.inl ⟨by rfl, ?_⟩) trivial ?_
  rotate_left
  · intro w hw
    try dsimp only at hw
    go_simp
    try with_reducible rfl
  try simp only [Act.put, List.setIfInBounds_toArray, List.set_cons_zero, List.set_cons_succ]
  refine takeL (i := 5) (v := ?_) rfl (by kernel_rfl) (by kernel_rfl) (by kernel_rfl) (fun _ _ _ h => h) (Or.inl ⟨by rfl, ?_⟩) trivial ?_
  rotate_left
  · intro w hw
    try dsimp only at hw
    go_simp
    try with_reducible rfl
  try simp only [Act.put, List.setIfInBounds_toArray, List.set_cons_zero, List.set_cons_succ]
  refine takeL (i := 8) (v := ?_) rfl (by kernel_rfl) (by kernel_rfl) (by kernel_rfl) (fun _ _ _ h => h) (Or.inl ⟨by rfl, ?_⟩) trivial ?_
  rotate_left
  · intro w hw
    try dsimp only at hw
    go_simp
    try with_reducible rfl
  try simp only [Act.put, List.setIfInBounds_toArray, List.set_cons_zero, List.set_cons_succ]
  refine takeL (i := 9) (v := ?_) rfl (by kernel_rfl) (by kernel_rfl) (by kernel_rfl) (fun _ _ _ h => h) (Or.inl ⟨by rfl, ?_⟩) trivial ?_
  rotate_left
  · intro w hw
    try dsimp only at hw
    go_simp
    try with_reducible rfl
  try simp only [Act.put, List.setIfInBounds_toArray, List.set_cons_zero, List.set_cons_succ]
  refine takeL (i := 10) (v := ?_) rfl (by kernel_rfl) (by kernel_rfl) (by kernel_rfl) (fun _ _ _ h => h) (Or.inl ⟨by rfl, ?_⟩) trivial ?_
  rotate_left
  · intro w hw
    try dsimp only at hw
    go_simp
    try with_reducible rfl
  try simp only [Act.put, List.setIfInBounds_toArray, List.set_cons_zero, List.set_cons_succ]
  refine takeL (i := 12) (v := ?_) rfl (by kernel_rfl) (by kernel_rfl) (by kernel_rfl) (fun _ _ _ h => h) (Or.inl ⟨by rfl, ?_⟩) trivial ?_
  rotate_left
  · intro w hw
    try dsimp only at hw
    go_simp
    try with_reducible rfl
  try simp only [Act.put, List.setIfInBounds_toArray, List.set_cons_zero, List.set_cons_succ]
  refine takeL (i := 13) (v := ?_) rfl (by kernel_rfl) (by kernel_rfl) (by kernel_rfl) (fun _ _ _ h => h) (Or.inl ⟨by rfl, ?_⟩) trivial ?_
  rotate_left
  · intro w hw
    try dsimp only at hw
    go_simp
    try with_reducible rfl
  try simp only [Act.put, List.setIfInBounds_toArray, List.set_cons_zero, List.set_cons_succ]
  refine readyL2 (i := 4) (j := 11) rfl rfl (by kernel_rfl) (by kernel_rfl) (by kernel_rfl) (fun K hK => ?_) (fun K hK => ?_)
  · have oc := (OC.out wz BZ.out).1
    go_simp
    clear oc
    refine hK.out _ _ trivial ?_
    clear hK K
    try simp only [Act.put, List.setIfInBounds_toArray, List.set_cons_zero, List.set_cons_succ]
    refine takeL (i := 6) (v := .slice A i c) rfl (by kernel_rfl) (by kernel_rfl) (by kernel_rfl) (fun _ _ _ h => h) (Or.inl ⟨by rfl, fun wz hwz => run_head 43 70 (.tmp 15) (.tmp 16) 2 rfl Try.underlying43 size_th17 A ln c i (by go_simp) (by go_simp) (by have h1 := HLC.out; have h2 := HIL.out; omega)⟩) trivial ?_
    try simp only [Act.put, List.setIfInBounds_toArray, List.set_cons_zero, List.set_cons_succ]
    refine readyL2 (i := 7) (j := 11) rfl rfl (by kernel_rfl) (by kernel_rfl) (by kernel_rfl) (fun K hK => ?_) (fun K hK => ?_)
    · refine wp_app17 (.const (.slice none 0 0)) (.tmp 17) rfl wz.heap.size wz.heap.size (.slice none 0 0) [] ((entA17 f room).take i) A i c rfl (own_nilN _ _ _ _) (by go_simp) (sees_head17 HSEE.out (by have := HIL.out; omega)) (by have := HLE.out; simp only [List.length_nil, List.length_take]; omega) (Nat.le_refl _) ?_
      intro v1 w1 ho1 hb1
      rw [List.nil_append] at ho1
      have HO1 := Lib.hid ho1
      have HB1 := Lib.hid hb1
      clear ho1 hb1
      refine hK.out _ _ trivial ?_
      clear hK K
      try simp only [Act.put, List.setIfInBounds_toArray, List.set_cons_zero, List.set_cons_succ]
      refine readyL (i := 11) rfl (by kernel_rfl) (by kernel_rfl) fun K hK => ?_
      have oc := (OC.out w1 HB1.out).1
      go_simp
      clear oc
      refine hK.out _ _ trivial ?_
      clear hK K
      try simp only [Act.put, List.setIfInBounds_toArray, List.set_cons_zero, List.set_cons_succ]
      refine takeL (i := 14) (v := .slice (tail17 A c (i + 1)) (ln - (i + 1)) (c - (i + 1))) rfl (by kernel_rfl) (by kernel_rfl) (by kernel_rfl) (fun _ _ _ h => h) (Or.inl ⟨by rfl, fun wz hwz => run_tail17 (.tmp 22) (.tmp 24) rfl A ln c (i + 1) (by go_simp) (by go_simp; exact IntWalk.i64_in _ (by have h1 := HIL.out; omega)) HIL.out HLC.out.1 HLC.out.2⟩) trivial ?_
      try simp only [Act.put, List.setIfInBounds_toArray, List.set_cons_zero, List.set_cons_succ]
      refine readyL (i := 15) rfl (by kernel_rfl) (by kernel_rfl) fun K hK => ?_
      refine wp_app17 (.tmp 18) (.tmp 25) rfl wz.heap.size wz.heap.size v1 ((entA17 f room).take i) ((entA17 f room).drop (i + 1)) (tail17 A c (i + 1)) (ln - (i + 1)) (c - (i + 1)) (by go_simp) HO1.out (by go_simp) (sees_tail17 (HSEE.out.below HB1.out) HIL.out HLC.out.1) (by have := HLE.out; simp only [List.length_take, List.length_drop]; omega) HB1.out.size ?_
      intro v3 w3 ho3 hb3
      obtain ⟨n3, hn3⟩ : ∃ n, n = ((entA17 f room).take i ++ (entA17 f room).drop (i + 1)).length := ⟨_, rfl⟩
      rw [← hn3] at ho3
      obtain ⟨A3, c3, rfl, _⟩ := own_form2 ho3
      have HN3 := Lib.hid hn3
      have HO3 := Lib.hid ho3
      have HB3 := Lib.hid (HB1.out.trans hb3)
      clear hn3 ho3 hb3
      refine hK.out _ _ trivial ?_
      clear hK K
      try simp only [Act.put, List.setIfInBounds_toArray, List.set_cons_zero, List.set_cons_succ]
      refine takeL (i := 16) (v := ?_) rfl (by kernel_rfl) (by kernel_rfl) (by kernel_rfl) (fun _ _ _ h => h) (Or.inl ⟨by rfl, ?_⟩) trivial ?_
      rotate_left
      · intro w hw
        try dsimp only at hw
        go_simp
        try with_reducible rfl
      try simp only [Act.put, List.setIfInBounds_toArray, List.set_cons_zero, List.set_cons_succ]
      refine takeL (i := 17) (v := ?_) rfl (by kernel_rfl) (by kernel_rfl) (by kernel_rfl) (fun _ _ _ h => h) (Or.inl ⟨by rfl, ?_⟩) trivial ?_
      rotate_left
      · intro w hw
        try dsimp only at hw
        go_simp
        try with_reducible rfl
      try simp only [Act.put, List.setIfInBounds_toArray, List.set_cons_zero, List.set_cons_succ]
      refine readyL (i := 18) rfl (by kernel_rfl) (by kernel_rfl) fun K hK => ?_
      have oc := (OC.out w3 HB3.out).1
      have fr := (OC.out w3 HB3.out).2
      go_simp
      clear oc fr
      refine hK.out _ _ trivial ?_
      clear hK K
      try simp only [Act.put, List.setIfInBounds_toArray, List.set_cons_zero, List.set_cons_succ]
      refine wpAnyH_done (by kernel_rfl) ?_ _
      have hR := (HH2.out.below HB3.out).row.set_ 1 (.slice A3 n3 c3)
      have hrb := HH2.out.row.lt
      have ho4 : (w3.setCell ⟨rb, 1, none⟩ (.slice A3 n3 c3)).ownsRow base 70 2 (.slice A3 n3 c3) (entA17 (up17 f n none) room).length (esC17 (entA17 (up17 f n none) room)) := by
        rw [HES.out, ← HN3.out]
        have ho3 := HO3.out
        have hbb := Nat.le_trans HB0.out HBD.out.size
        refine ⟨ho3.1, ?_⟩
        rcases ho3.2 with h6 | ⟨g, cap, cur, hv, hg, hh, r⟩
        · exact .inl h6
        · exact .inr ⟨g, cap, cur, hv, Nat.le_trans hbb hg, (Below.heap_setCell w3 ⟨rb, 1, none⟩ (.slice A3 n3 c3) g (by show g ≠ rb; omega)).trans hh, r⟩
      have HX := Lib.hid (HD2.out n x (.slice A3 n3 c3) (w3.setCell ⟨rb, 1, none⟩ (.slice A3 n3 c3)) HN.out HM.out.1 HM.out.2 ⟨hR, ho4, HH.out.lo⟩ (Only17.trans (Only17.of (HBD.out.trans (HB3.out.mono HBD.out.size)) (Nat.le_refl _)) (only_cell17 (.inl rfl))))
      clear hR ho4 hrb
      go_wp2_with fail
      exact HX.out
    · have oc := (OC.out wz BZ.out).1
      go_simp
      clear oc
      refine hK.out _ _ trivial ?_
      clear hK K
      try simp only [Act.put, List.setIfInBounds_toArray, List.set_cons_zero, List.set_cons_succ]
      refine takeL (i := 14) (v := .slice (tail17 A c (i + 1)) (ln - (i + 1)) (c - (i + 1))) rfl (by kernel_rfl) (by kernel_rfl) (by kernel_rfl) (fun _ _ _ h => h) (Or.inl ⟨by rfl, fun wz hwz => run_tail17 (.tmp 22) (.tmp 24) rfl A ln c (i + 1) (by go_simp) (by go_simp; exact IntWalk.i64_in _ (by have h1 := HIL.out; omega)) HIL.out HLC.out.1 HLC.out.2⟩) trivial ?_
      try simp only [Act.put, List.setIfInBounds_toArray, List.set_cons_zero, List.set_cons_succ]
      refine readyL (i := 7) rfl (by kernel_rfl) (by kernel_rfl) fun K hK => ?_
      refine wp_app17 (.const (.slice none 0 0)) (.tmp 17) rfl wz.heap.size wz.heap.size (.slice none 0 0) [] ((entA17 f room).take i) A i c rfl (own_nilN _ _ _ _) (by go_simp) (sees_head17 HSEE.out (by have := HIL.out; omega)) (by have := HLE.out; simp only [List.length_nil, List.length_take]; omega) (Nat.le_refl _) ?_
      intro v1 w1 ho1 hb1
      rw [List.nil_append] at ho1
      have HO1 := Lib.hid ho1
      have HB1 := Lib.hid hb1
      clear ho1 hb1
      refine hK.out _ _ trivial ?_
      clear hK K
      try simp only [Act.put, List.setIfInBounds_toArray, List.set_cons_zero, List.set_cons_succ]
      refine readyL (i := 15) rfl (by kernel_rfl) (by kernel_rfl) fun K hK => ?_
      refine wp_app17 (.tmp 18) (.tmp 25) rfl wz.heap.size wz.heap.size v1 ((entA17 f room).take i) ((entA17 f room).drop (i + 1)) (tail17 A c (i + 1)) (ln - (i + 1)) (c - (i + 1)) (by go_simp) HO1.out (by go_simp) (sees_tail17 (HSEE.out.below HB1.out) HIL.out HLC.out.1) (by have := HLE.out; simp only [List.length_take, List.length_drop]; omega) HB1.out.size ?_
      intro v3 w3 ho3 hb3
      obtain ⟨n3, hn3⟩ : ∃ n, n = ((entA17 f room).take i ++ (entA17 f room).drop (i + 1)).length := ⟨_, rfl⟩
      rw [← hn3] at ho3
      obtain ⟨A3, c3, rfl, _⟩ := own_form2 ho3
      have HN3 := Lib.hid hn3
      have HO3 := Lib.hid ho3
      have HB3 := Lib.hid (HB1.out.trans hb3)
      clear hn3 ho3 hb3
      refine hK.out _ _ trivial ?_
      clear hK K
      try simp only [Act.put, List.setIfInBounds_toArray, List.set_cons_zero, List.set_cons_succ]
      refine takeL (i := 16) (v := ?_) rfl (by kernel_rfl) (by kernel_rfl) (by kernel_rfl) (fun _ _ _ h => h) (Or.inl ⟨by rfl, ?_⟩) trivial ?_
      rotate_left
      · intro w hw
        try dsimp only at hw
        go_simp
        try with_reducible rfl
      try simp only [Act.put, List.setIfInBounds_toArray, List.set_cons_zero, List.set_cons_succ]
      refine takeL (i := 17) (v := ?_) rfl (by kernel_rfl) (by kernel_rfl) (by kernel_rfl) (fun _ _ _ h => h) (Or.inl ⟨by rfl, ?_⟩) trivial ?_
      rotate_left
      · intro w hw
        try dsimp only at hw
        go_simp
        try with_reducible rfl
      try simp only [Act.put, List.setIfInBounds_toArray, List.set_cons_zero, List.set_cons_succ]
      refine readyL (i := 18) rfl (by kernel_rfl) (by kernel_rfl) fun K hK => ?_
      have oc := (OC.out w3 HB3.out).1
      have fr := (OC.out w3 HB3.out).2
      go_simp
      clear oc fr
      refine hK.out _ _ trivial ?_
      clear hK K
      try simp only [Act.put, List.setIfInBounds_toArray, List.set_cons_zero, List.set_cons_succ]
      refine wpAnyH_done (by kernel_rfl) ?_ _
      have hR := (HH2.out.below HB3.out).row.set_ 1 (.slice A3 n3 c3)
      have hrb := HH2.out.row.lt
      have ho4 : (w3.setCell ⟨rb, 1, none⟩ (.slice A3 n3 c3)).ownsRow base 70 2 (.slice A3 n3 c3) (entA17 (up17 f n none) room).length (esC17 (entA17 (up17 f n none) room)) := by
        rw [HES.out, ← HN3.out]
        have ho3 := HO3.out
        have hbb := Nat.le_trans HB0.out HBD.out.size
        refine ⟨ho3.1, ?_⟩
        rcases ho3.2 with h6 | ⟨g, cap, cur, hv, hg, hh, r⟩
        · exact .inl h6
        · exact .inr ⟨g, cap, cur, hv, Nat.le_trans hbb hg, (Below.heap_setCell w3 ⟨rb, 1, none⟩ (.slice A3 n3 c3) g (by show g ≠ rb; omega)).trans hh, r⟩
      have HX := Lib.hid (HD2.out n x (.slice A3 n3 c3) (w3.setCell ⟨rb, 1, none⟩ (.slice A3 n3 c3)) HN.out HM.out.1 HM.out.2 ⟨hR, ho4, HH.out.lo⟩ (Only17.trans (Only17.of (HBD.out.trans (HB3.out.mono HBD.out.size)) (Nat.le_refl _)) (only_cell17 (.inl rfl))))
      clear hR ho4 hrb
      go_wp2_with fail
      exact HX.out
  · have oc := (OC.out wz BZ.out).1
    go_simp
    clear oc
    refine hK.out _ _ trivial ?_
    clear hK K
    try simp only [Act.put, List.setIfInBounds_toArray, List.set_cons_zero, List.set_cons_succ]
    refine takeL (i := 14) (v := .slice (tail17 A c (i + 1)) (ln - (i + 1)) (c - (i + 1))) rfl (by kernel_rfl) (by kernel_rfl) (by kernel_rfl) (fun _ _ _ h => h) (Or.inl ⟨by rfl, fun wz hwz => run_tail17 (.tmp 22) (.tmp 24) rfl A ln c (i + 1) (by go_simp) (by go_simp; exact IntWalk.i64_in _ (by have h1 := HIL.out; omega)) HIL.out HLC.out.1 HLC.out.2⟩) trivial ?_
    try simp only [Act.put, List.setIfInBounds_toArray, List.set_cons_zero, List.set_cons_succ]
    refine readyL (i := 4) rfl (by kernel_rfl) (by kernel_rfl) fun K hK => ?_
    have oc := (OC.out wz BZ.out).1
    go_simp
    clear oc
    refine hK.out _ _ trivial ?_
    clear hK K
    try simp only [Act.put, List.setIfInBounds_toArray, List.set_cons_zero, List.set_cons_succ]
    refine takeL (i := 6) (v := .slice A i c) rfl (by kernel_rfl) (by kernel_rfl) (by kernel_rfl) (fun _ _ _ h => h) (Or.inl ⟨by rfl, fun wz hwz => run_head 43 70 (.tmp 15) (.tmp 16) 2 rfl Try.underlying43 size_th17 A ln c i (by go_simp) (by go_simp) (by have h1 := HLC.out; have h2 := HIL.out; omega)⟩) trivial ?_
    try simp only [Act.put, List.setIfInBounds_toArray, List.set_cons_zero, List.set_cons_succ]
    refine readyL (i := 7) rfl (by kernel_rfl) (by kernel_rfl) fun K hK => ?_
    refine wp_app17 (.const (.slice none 0 0)) (.tmp 17) rfl wz.heap.size wz.heap.size (.slice none 0 0) [] ((entA17 f room).take i) A i c rfl (own_nilN _ _ _ _) (by go_simp) (sees_head17 HSEE.out (by have := HIL.out; omega)) (by have := HLE.out; simp only [List.length_nil, List.length_take]; omega) (Nat.le_refl _) ?_
    intro v1 w1 ho1 hb1
    rw [List.nil_append] at ho1
    have HO1 := Lib.hid ho1
    have HB1 := Lib.hid hb1
    clear ho1 hb1
    refine hK.out _ _ trivial ?_
    clear hK K
    try simp only [Act.put, List.setIfInBounds_toArray, List.set_cons_zero, List.set_cons_succ]
    refine readyL (i := 15) rfl (by kernel_rfl) (by kernel_rfl) fun K hK => ?_
    refine wp_app17 (.tmp 18) (.tmp 25) rfl wz.heap.size wz.heap.size v1 ((entA17 f room).take i) ((entA17 f room).drop (i + 1)) (tail17 A c (i + 1)) (ln - (i + 1)) (c - (i + 1)) (by go_simp) HO1.out (by go_simp) (sees_tail17 (HSEE.out.below HB1.out) HIL.out HLC.out.1) (by have := HLE.out; simp only [List.length_take, List.length_drop]; omega) HB1.out.size ?_
    intro v3 w3 ho3 hb3
    obtain ⟨n3, hn3⟩ : ∃ n, n = ((entA17 f room).take i ++ (entA17 f room).drop (i + 1)).length := ⟨_, rfl⟩
    rw [← hn3] at ho3
    obtain ⟨A3, c3, rfl, _⟩ := own_form2 ho3
    have HN3 := Lib.hid hn3
    have HO3 := Lib.hid ho3
    have HB3 := Lib.hid (HB1.out.trans hb3)
    clear hn3 ho3 hb3
    refine hK.out _ _ trivial ?_
    clear hK K
    try simp only [Act.put, List.setIfInBounds_toArray, List.set_cons_zero, List.set_cons_succ]
    refine takeL (i := 16) (v := ?_) rfl (by kernel_rfl) (by kernel_rfl) (by kernel_rfl) (fun _ _ _ h => h) (Or.inl ⟨by rfl, ?_⟩) trivial ?_
    rotate_left
    · intro w hw
      try dsimp only at hw
      go_simp
      try with_reducible rfl
    try simp only [Act.put, List.setIfInBounds_toArray, List.set_cons_zero, List.set_cons_succ]
    refine takeL (i := 17) (v := ?_) rfl (by kernel_rfl) (by kernel_rfl) (by kernel_rfl) (fun _ _ _ h => h) (Or.inl ⟨by rfl, ?_⟩) trivial ?_
    rotate_left
    · intro w hw
      try dsimp only at hw
      go_simp
      try with_reducible rfl
    try simp only [Act.put, List.setIfInBounds_toArray, List.set_cons_zero, List.set_cons_succ]
    refine readyL (i := 18) rfl (by kernel_rfl) (by kernel_rfl) fun K hK => ?_
    have oc := (OC.out w3 HB3.out).1
    have fr := (OC.out w3 HB3.out).2
    go_simp
    clear oc fr
    refine hK.out _ _ trivial ?_
    clear hK K
    try simp only [Act.put, List.setIfInBounds_toArray, List.set_cons_zero, List.set_cons_succ]
    refine wpAnyH_done (by kernel_rfl) ?_ _
    have hR := (HH2.out.below HB3.out).row.set_ 1 (.slice A3 n3 c3)
    have hrb := HH2.out.row.lt
    have ho4 : (w3.setCell ⟨rb, 1, none⟩ (.slice A3 n3 c3)).ownsRow base 70 2 (.slice A3 n3 c3) (entA17 (up17 f n none) room).length (esC17 (entA17 (up17 f n none) room)) := by
      rw [HES.out, ← HN3.out]
      have ho3 := HO3.out
      have hbb := Nat.le_trans HB0.out HBD.out.size
      refine ⟨ho3.1, ?_⟩
      rcases ho3.2 with h6 | ⟨g, cap, cur, hv, hg, hh, r⟩
      · exact .inl h6
      · exact .inr ⟨g, cap, cur, hv, Nat.le_trans hbb hg, (Below.heap_setCell w3 ⟨rb, 1, none⟩ (.slice A3 n3 c3) g (by show g ≠ rb; omega)).trans hh, r⟩
    have HX := Lib.hid (HD2.out n x (.slice A3 n3 c3) (w3.setCell ⟨rb, 1, none⟩ (.slice A3 n3 c3)) HN.out HM.out.1 HM.out.2 ⟨hR, ho4, HH.out.lo⟩ (Only17.trans (Only17.of (HBD.out.trans (HB3.out.mono HBD.out.size)) (Nat.le_refl _)) (only_cell17 (.inl rfl))))
    clear hR ho4 hrb
    go_wp2_with fail
    exact HX.out
end Go.Proofs.Ytkhcgclnmdgpbaa
