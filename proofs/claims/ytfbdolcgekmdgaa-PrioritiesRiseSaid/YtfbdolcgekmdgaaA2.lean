/-
  Parts joined: RiseWalk10 CostWalk10.
-/
import Derived.Below
import Derived.Laws.OwnMore
import Derived.Deep.AppendLies
import Derived.Deep.Draws
import Derived.Lib.Hide
import Derived.Laws.BitsAllLaws
import Derived.WalkKit
import Derived.Test.YtfbdolcgekmdgaaRows
import Derived.WalkSpells
import Derived.WalkLawsBesides
import Derived.IntWalk
import Derived.Lib.Mul64
import Derived.Laws.Bits64b
import Derived.Laws.Externs
import Derived.Lib.BitFns
import Derived.Shelf.Small.Bits
import Derived.Deep.QuietTactic
import Derived.Laws.MakeOwn
import Derived.Laws.CopyOwn
import Derived.Laws.Rows
import Derived.Laws.NewBlocks
import Derived.ProofKit
import Derived.OpenShut
import Derived.ShutString
import Derived.ChangeOld
import Derived.Lib.SmallJoins
import Derived.Maps.AppendAt
import Derived.OwnWalk
import Derived.Deep.MidRow
import Derived.Deep.WholeRow
import Derived.Great.BuildSlice
import Derived.Recover
import Derived.Deep.RegionHeld
import Derived.Deep.CutBlock
import Derived.Test.YtfbdolcgekmdgaaA1
/-
  Of part RiseWalk10: what is needed here.
-/
namespace Go.Proofs.Ytfbdolcgekmdgaa
open Go.RowKit
set_option linter.unusedVariables false
theorem max_word {x y : Int} (hx : Word x) (hy : Word y) : Word (max x y) := by
  rcases Int.le_total x y with h | h
  · rw [Int.max_eq_right h]; exact hy
  · rw [Int.max_eq_left h]; exact hx
set_option maxRecDepth 100000 in
set_option maxHeartbeats 8000000 in
theorem rise_walk10 (n u p b m0 m1 m2 m3 : Int) (w : World) (h0 : 0 ≤ n) (h5 : n < 256) (hu : Word u) (hp : Word p) (g0 : Word m0) (g1 : Word m1) (g2 : Word m2) (g3 : Word m3) :
    Calls Try.prog 3 #[.int .u8 n, bud10 u p b, .agg #[.int .u64 m0, .int .u64 m1, .int .u64 m2, .int .u64 m3]] w fun e w' => e = .returned (.bool true) ∧ Below w.heap.size w w' := by
  have T0 := Lib.hid (fun w => pri_ n u p b m0 w (by omega) (by omega) hu hp g0)
  have F0 := Lib.hid (fun w => fee_ n u p b w (by omega) (by omega) hu hp)
  have F1 := Lib.hid (fun w => fee_ n (max u m2) (max p m1) b w (by omega) (by omega) (max_word hu g2) (max_word hp g1))
  have T1 := Lib.hid (fun w => pri_ n (max u m2) (max p m1) b m0 w (by omega) (by omega) (max_word hu g2) (max_word hp g1) g0)
  have F2 := Lib.hid (fun w => fee_ (n + 1) u p b w (by omega) (by omega) hu hp)
  have T2 := Lib.hid (fun w => pri_ (n + 1) u p b m0 w (by omega) (by omega) hu hp g0)
  have T3 := Lib.hid (fun w => pri_ n u p b (max m0 m3) w (by omega) (by omega) hu hp (max_word g0 g3))
  have T4 := Lib.hid (fun w => pri_lit n u p b 18446744073709551615 _ w (pri10_most n p u) (by omega) (by omega) hu hp ⟨by decide, by decide⟩)
  have T5 := Lib.hid (fun w => pri_ n u p b 18446744073709551614 w (by omega) (by omega) hu hp ⟨by decide, by decide⟩)
  have E1 := Lib.hid (show ¬ fee10 n (max p m1) (max u m2) < fee10 n p u from Int.not_lt.2 (fee10_mono (by omega) hp hu (max_word hp g1) (max_word hu g2) (Int.le_refl _) (Int.le_max_left _ _) (Int.le_max_left _ _)))
  have E2 := Lib.hid (show ¬ pri10 n (max p m1) (max u m2) m0 < pri10 n p u m0 from Int.not_lt.2 (pri10_mono (by omega) hp hu (max_word hp g1) (max_word hu g2) g0 (Int.le_refl _) (Int.le_max_left _ _) (Int.le_max_left _ _)))
  have E3 := Lib.hid (show ¬ fee10 (n + 1) p u < fee10 n p u from Int.not_lt.2 (fee10_mono (by omega) hp hu hp hu (by omega) (Int.le_refl _) (Int.le_refl _)))
  have E4 := Lib.hid (show ¬ pri10 (n + 1) p u m0 < pri10 n p u m0 from Int.not_lt.2 (pri10_mono (by omega) hp hu hp hu g0 (by omega) (Int.le_refl _) (Int.le_refl _)))
  have E5 := Lib.hid (show pri10 n p u (max m0 m3) ≤ pri10 n p u m0 from pri10_anti (by omega) hp hu g0 (Int.le_max_left _ _))
  have wni : IntKind.i64.wrap n = n := IntWalk.i64_in _ (by omega)
  have wn1 : IntKind.i64.wrap (n + 1) = n + 1 := IntWalk.i64_in _ (by omega)
  have RA := Lib.hid (Row.new w 24 [.int .u64 u, .int .u64 p, .int .i64 b])
  have RB := Lib.hid (Row.new' (w.alloc (.cells #[.int .u64 u, .int .u64 p, .int .i64 b] 24)) 25 [.int .u64 m0, .int .u64 m1, .int .u64 m2, .int .u64 m3] (g := w.heap.size + 1) (by simp))
  have RA2 := Lib.hid (RA.out.alloc (.cells #[.int .u64 m0, .int .u64 m1, .int .u64 m2, .int .u64 m3] 25))
  have hb0 := (Below.refl w.heap.size w).alloc (Nat.le_refl _) (.cells #[.int .u64 u, .int .u64 p, .int .i64 b] 24)
  have HB0 := Lib.hid (hb0.alloc hb0.size (.cells #[.int .u64 m0, .int .u64 m1, .int .u64 m2, .int .u64 m3] 25))
  have HG0 : Hid (w.heap.size + 2 = ((w.alloc (.cells #[.int .u64 u, .int .u64 p, .int .i64 b] 24)).alloc (.cells #[.int .u64 m0, .int .u64 m1, .int .u64 m2, .int .u64 m3] 25)).heap.size) := Lib.hid (by simp)
  clear hb0 hu hp g0 g1 g2 g3 RA
  unfold bud10 at *
  generalize fee10 n p u = f0 at *
  generalize fee10 n (max p m1) (max u m2) = f1 at *
  generalize fee10 (n + 1) p u = f2 at *
  generalize pri10 n p u m0 = x0 at *
  generalize pri10 n (max p m1) (max u m2) m0 = x1 at *
  generalize pri10 (n + 1) p u m0 = x2 at *
  generalize pri10 n p u (max m0 m3) = x3 at *
  generalize pri10 n p u 18446744073709551614 = x4 at *
  go_enter Try.func3, Try.ntmps3
  go_wp2_with fail
  refine (T0.out _).mono ?_
  rintro e w1 ⟨rfl, hb⟩
  have B1 := Lib.hid (HB0.out.trans (hb.mono HB0.out.size))
  have R1 := Lib.hid (RA2.out.below hb RA2.out.lt)
  have R2 := Lib.hid (RB.out.below hb RB.out.lt)
  have HG : Hid (w.heap.size + 2 ≤ w1.heap.size) := Lib.hid (by rw [HG0.out]; exact hb.size)
  have i0 := R1.out.cell 0
  have i1 := R1.out.cell 1
  have i2 := R1.out.cell 2
  have j0 := R2.out.cell 0
  have j1 := R2.out.cell 1
  have j2 := R2.out.cell 2
  have j3 := R2.out.cell 3
  simp at i0 i1 i2 j0 j1 j2 j3
  clear hb HB0 RA2 RB HG0
  go_upto_region 5 with fail
  clear i0 i1 i2 j0 j1 j2 j3
  obtain ⟨W5, hW5⟩ : ∃ W, w1.alloc (.cells #[.int .u64 u, .int .u64 p, .int .i64 b] 24) = W := ⟨_, rfl⟩
  obtain ⟨gc, hgc⟩ : ∃ g, w1.heap.size = g := ⟨_, rfl⟩
  have RC5 : Row W5 gc 24 [.int .u64 u, .int .u64 p, .int .i64 b] := by rw [← hW5]; exact Row.new' _ _ _ hgc
  have RA5 := R1.out.alloc (.cells #[.int .u64 u, .int .u64 p, .int .i64 b] 24)
  have RB5 := R2.out.alloc (.cells #[.int .u64 u, .int .u64 p, .int .i64 b] 24)
  have HB5 := Lib.hid (B1.out.alloc B1.out.size (.cells #[.int .u64 u, .int .u64 p, .int .i64 b] 24))
  have HGA : w.heap.size ≠ gc := by have := HG.out; omega
  have HGB : w.heap.size + 1 ≠ gc := by have := HG.out; omega
  have HGC := Lib.hid (show w.heap.size ≤ gc by have := HG.out; omega)
  rw [hW5] at RA5 RB5 HB5 ⊢
  rw [hgc]
  clear hW5 hgc R1 R2 B1 HG
  have i0 := RA5.cell 0
  have i1 := RA5.cell 1
  have i2 := RA5.cell 2
  have j0 := RB5.cell 0
  have j1 := RB5.cell 1
  have j2 := RB5.cell 2
  have j3 := RB5.cell 3
  have k0 := RC5.cell 0
  have k1 := RC5.cell 1
  have k2 := RC5.cell 2
  have l0 := RC5.frozen 0
  have l1 := RC5.frozen 1
  have l2 := RC5.frozen 2
  simp at i0 i1 i2 j0 j1 j2 j3 k0 k1 k2
  go_upto_region 7 with fail
  obtain ⟨W7, hW7⟩ : ∃ W, (W5.setCell ⟨gc, 1, none⟩ (.int .u64 (max p m1))).setCell ⟨gc, 0, none⟩ (.int .u64 (max u m2)) = W := ⟨_, rfl⟩
  have RC7 := (RC5.set_ 1 (.int .u64 (max p m1))).set_ 0 (.int .u64 (max u m2))
  have RA7 := (RA5.far (p := ⟨gc, 1, none⟩) HGA (.int .u64 (max p m1))).far (p := ⟨gc, 0, none⟩) HGA (.int .u64 (max u m2))
  have RB7 := (RB5.far (p := ⟨gc, 1, none⟩) HGB (.int .u64 (max p m1))).far (p := ⟨gc, 0, none⟩) HGB (.int .u64 (max u m2))
  have HB7 := Lib.hid ((HB5.out.setCell (p := ⟨gc, 1, none⟩) HGC.out (.int .u64 (max p m1))).setCell (p := ⟨gc, 0, none⟩) HGC.out (.int .u64 (max u m2)))
  rw [hW7] at RC7 RA7 RB7 HB7 ⊢
  clear hW7 RA5 RB5 RC5 HB5 i0 i1 i2 j0 j1 j2 j3 k0 k1 k2 l0 l1 l2
  have HKEEP : Hid (∀ V : World, Below W7.heap.size W7 V → (fun V : World => V.cell? ⟨w.heap.size, 0, none⟩ = some (.int .u64 u) ∧ V.cell? ⟨w.heap.size, 1, none⟩ = some (.int .u64 p) ∧ V.cell? ⟨w.heap.size, 2, none⟩ = some (.int .i64 b) ∧ V.cell? ⟨gc, 0, none⟩ = some (.int .u64 (max u m2)) ∧ V.cell? ⟨gc, 1, none⟩ = some (.int .u64 (max p m1)) ∧ V.cell? ⟨gc, 2, none⟩ = some (.int .i64 b) ∧ V.cell? ⟨w.heap.size + 1, 3, none⟩ = some (.int .u64 m3)) V) := Lib.hid fun V hV => by
    have r1 := RA7.below hV RA7.lt
    have r2 := RB7.below hV RB7.lt
    have r3 := RC7.below hV RC7.lt
    exact ⟨r1.cell 0, r1.cell 1, r1.cell 2, r3.cell 0, r3.cell 1, r3.cell 2, r2.cell 3⟩
  have B0 := Lib.hid ((Below.refl W7.heap.size W7).drew)
  have K0 := HKEEP.out _ B0.out
  have d1 : decide (f1 < f0) = false := decide_eq_false (by have := E1.out; omega)
  have d2 : decide (x1 < x0) = false := decide_eq_false (by have := E2.out; omega)
  have d3 : decide (f2 < f0) = false := decide_eq_false (by have := E3.out; omega)
  have d4 : decide (x2 < x0) = false := decide_eq_false (by have := E4.out; omega)
  clear RA7 RB7 RC7
  refine wp_region_held_drew (S := (fun V : World => V.cell? ⟨w.heap.size, 0, none⟩ = some (.int .u64 u) ∧ V.cell? ⟨w.heap.size, 1, none⟩ = some (.int .u64 p) ∧ V.cell? ⟨w.heap.size, 2, none⟩ = some (.int .i64 b) ∧ V.cell? ⟨gc, 0, none⟩ = some (.int .u64 (max u m2)) ∧ V.cell? ⟨gc, 1, none⟩ = some (.int .u64 (max p m1)) ∧ V.cell? ⟨gc, 2, none⟩ = some (.int .i64 b) ∧ V.cell? ⟨w.heap.size + 1, 3, none⟩ = some (.int .u64 m3))) (by kernel_rfl) K0 (fun _ => ?_)
  refine takeL (i := 0) (v := ?_) rfl (by kernel_rfl) (by kernel_rfl) (by kernel_rfl) (fun _ _ _ h => h) (Or.inl ⟨by rfl, ?_⟩) K0 ?_
  rotate_left
  · intro wz hwz
    obtain ⟨i0, i1, i2, j0, j1, j2, j3⟩ := hwz
    go_simp
    try with_reducible rfl
  try simp only [Act.put, List.setIfInBounds_toArray, List.set_cons_zero, List.set_cons_succ]
  refine takeL (i := 1) (v := ?_) rfl (by kernel_rfl) (by kernel_rfl) (by kernel_rfl) (fun _ _ _ h => h) (Or.inl ⟨by rfl, ?_⟩) K0 ?_
  rotate_left
  · intro wz hwz
    obtain ⟨i0, i1, i2, j0, j1, j2, j3⟩ := hwz
    go_simp
    try with_reducible rfl
  try simp only [Act.put, List.setIfInBounds_toArray, List.set_cons_zero, List.set_cons_succ]
  refine takeL (i := 3) (v := ?_) rfl (by kernel_rfl) (by kernel_rfl) (by kernel_rfl) (fun _ _ _ h => h) (Or.inl ⟨by rfl, ?_⟩) K0 ?_
  rotate_left
  · intro wz hwz
    obtain ⟨i0, i1, i2, j0, j1, j2, j3⟩ := hwz
    go_simp
    try with_reducible rfl
  try simp only [Act.put, List.setIfInBounds_toArray, List.set_cons_zero, List.set_cons_succ]
  refine takeL (i := 4) (v := ?_) rfl (by kernel_rfl) (by kernel_rfl) (by kernel_rfl) (fun _ _ _ h => h) (Or.inl ⟨by rfl, ?_⟩) K0 ?_
  rotate_left
  · intro wz hwz
    obtain ⟨i0, i1, i2, j0, j1, j2, j3⟩ := hwz
    go_simp
    try with_reducible rfl
  try simp only [Act.put, List.setIfInBounds_toArray, List.set_cons_zero, List.set_cons_succ]
  refine readyL (i := 2) rfl (by kernel_rfl) (by kernel_rfl) fun K hK => ?_
  go_simp
  refine (F1.out _).mono ?_
  rintro e w1 ⟨rfl, hb⟩
  have B1 := Lib.hid (B0.out.trans (hb.mono B0.out.size))
  have K0 := HKEEP.out _ B1.out
  clear hb B0
  refine hK.out _ _ K0 ?_
  clear hK K
  try simp only [Act.put, List.setIfInBounds_toArray, List.set_cons_zero, List.set_cons_succ]
  refine readyL (i := 5) rfl (by kernel_rfl) (by kernel_rfl) fun K hK => ?_
  go_simp
  refine (F0.out _).mono ?_
  rintro e w2 ⟨rfl, hb⟩
  have B2 := Lib.hid (B1.out.trans (hb.mono B1.out.size))
  have K0 := HKEEP.out _ B2.out
  clear hb B1
  refine hK.out _ _ K0 ?_
  clear hK K
  try simp only [Act.put, List.setIfInBounds_toArray, List.set_cons_zero, List.set_cons_succ]
  refine takeL (i := 6) (v := ?_) rfl (by kernel_rfl) (by kernel_rfl) (by kernel_rfl) (fun _ _ _ h => h) (Or.inl ⟨by rfl, ?_⟩) K0 ?_
  rotate_left
  · intro wz hwz
    obtain ⟨i0, i1, i2, j0, j1, j2, j3⟩ := hwz
    go_simp
    try with_reducible rfl
  try simp only [Act.put, List.setIfInBounds_toArray, List.set_cons_zero, List.set_cons_succ]
  refine takeL (i := 7) (v := ?_) rfl (by kernel_rfl) (by kernel_rfl) (by kernel_rfl) (fun _ _ _ h => h) (Or.inl ⟨by rfl, ?_⟩) K0 ?_
  rotate_left
  · intro wz hwz
    obtain ⟨i0, i1, i2, j0, j1, j2, j3⟩ := hwz
    go_simp
    try with_reducible rfl
  try simp only [Act.put, List.setIfInBounds_toArray, List.set_cons_zero, List.set_cons_succ]
  refine takeL (i := 8) (v := ?_) rfl (by kernel_rfl) (by kernel_rfl) (by kernel_rfl) (fun _ _ _ h => h) (Or.inl ⟨by rfl, ?_⟩) K0 ?_
  rotate_left
  · intro wz hwz
    obtain ⟨i0, i1, i2, j0, j1, j2, j3⟩ := hwz
    go_simp
    try with_reducible rfl
  try simp only [Act.put, List.setIfInBounds_toArray, List.set_cons_zero, List.set_cons_succ]
  refine takeL (i := 9) (v := ?_) rfl (by kernel_rfl) (by kernel_rfl) (by kernel_rfl) (fun _ _ _ h => h) (Or.inl ⟨by rfl, ?_⟩) K0 ?_
  rotate_left
  · intro wz hwz
    obtain ⟨i0, i1, i2, j0, j1, j2, j3⟩ := hwz
    go_simp
    try with_reducible rfl
  try simp only [Act.put, List.setIfInBounds_toArray, List.set_cons_zero, List.set_cons_succ]
  refine takeL (i := 10) (v := ?_) rfl (by kernel_rfl) (by kernel_rfl) (by kernel_rfl) (fun _ _ _ h => h) (Or.inl ⟨by rfl, ?_⟩) K0 ?_
  rotate_left
  · intro wz hwz
    obtain ⟨i0, i1, i2, j0, j1, j2, j3⟩ := hwz
    go_simp
    try with_reducible rfl
  try simp only [Act.put, List.setIfInBounds_toArray, List.set_cons_zero, List.set_cons_succ]
  refine takeL (i := 12) (v := ?_) rfl (by kernel_rfl) (by kernel_rfl) (by kernel_rfl) (fun _ _ _ h => h) (Or.inl ⟨by rfl, ?_⟩) K0 ?_
  rotate_left
  · intro wz hwz
    obtain ⟨i0, i1, i2, j0, j1, j2, j3⟩ := hwz
    go_simp
    try with_reducible rfl
  try simp only [Act.put, List.setIfInBounds_toArray, List.set_cons_zero, List.set_cons_succ]
  refine readyL (i := 11) rfl (by kernel_rfl) (by kernel_rfl) fun K hK => ?_
  go_simp
  refine (T1.out _).mono ?_
  rintro e w3 ⟨rfl, hb⟩
  have B3 := Lib.hid (B2.out.trans (hb.mono B2.out.size))
  have K0 := HKEEP.out _ B3.out
  clear hb B2
  refine hK.out _ _ K0 ?_
  clear hK K
  try simp only [Act.put, List.setIfInBounds_toArray, List.set_cons_zero, List.set_cons_succ]
  refine takeL (i := 13) (v := ?_) rfl (by kernel_rfl) (by kernel_rfl) (by kernel_rfl) (fun _ _ _ h => h) (Or.inl ⟨by rfl, ?_⟩) K0 ?_
  rotate_left
  · intro wz hwz
    obtain ⟨i0, i1, i2, j0, j1, j2, j3⟩ := hwz
    go_simp
    try with_reducible rfl
  try simp only [Act.put, List.setIfInBounds_toArray, List.set_cons_zero, List.set_cons_succ]
  refine takeL (i := 14) (v := ?_) rfl (by kernel_rfl) (by kernel_rfl) (by kernel_rfl) (fun _ _ _ h => h) (Or.inl ⟨by rfl, ?_⟩) K0 ?_
  rotate_left
  · intro wz hwz
    obtain ⟨i0, i1, i2, j0, j1, j2, j3⟩ := hwz
    go_simp
    try with_reducible rfl
  try simp only [Act.put, List.setIfInBounds_toArray, List.set_cons_zero, List.set_cons_succ]
  refine takeL (i := 15) (v := ?_) rfl (by kernel_rfl) (by kernel_rfl) (by kernel_rfl) (fun _ _ _ h => h) (Or.inl ⟨by rfl, ?_⟩) K0 ?_
  rotate_left
  · intro wz hwz
    obtain ⟨i0, i1, i2, j0, j1, j2, j3⟩ := hwz
    go_simp
    try with_reducible rfl
  try simp only [Act.put, List.setIfInBounds_toArray, List.set_cons_zero, List.set_cons_succ]
  refine takeL (i := 16) (v := ?_) rfl (by kernel_rfl) (by kernel_rfl) (by kernel_rfl) (fun _ _ _ h => h) (Or.inl ⟨by rfl, ?_⟩) K0 ?_
  rotate_left
  · intro wz hwz
    obtain ⟨i0, i1, i2, j0, j1, j2, j3⟩ := hwz
    go_simp
    try with_reducible rfl
  try simp only [Act.put, List.setIfInBounds_toArray, List.set_cons_zero, List.set_cons_succ]
  refine takeL (i := 17) (v := ?_) rfl (by kernel_rfl) (by kernel_rfl) (by kernel_rfl) (fun _ _ _ h => h) (Or.inl ⟨by rfl, ?_⟩) K0 ?_
  rotate_left
  · intro wz hwz
    obtain ⟨i0, i1, i2, j0, j1, j2, j3⟩ := hwz
    go_simp
    try with_reducible rfl
  try simp only [Act.put, List.setIfInBounds_toArray, List.set_cons_zero, List.set_cons_succ]
  refine takeL (i := 18) (v := ?_) rfl (by kernel_rfl) (by kernel_rfl) (by kernel_rfl) (fun _ _ _ h => h) (Or.inl ⟨by rfl, ?_⟩) K0 ?_
  rotate_left
  · intro wz hwz
    obtain ⟨i0, i1, i2, j0, j1, j2, j3⟩ := hwz
    go_simp
    try with_reducible rfl
  try simp only [Act.put, List.setIfInBounds_toArray, List.set_cons_zero, List.set_cons_succ]
  refine takeL (i := 20) (v := ?_) rfl (by kernel_rfl) (by kernel_rfl) (by kernel_rfl) (fun _ _ _ h => h) (Or.inl ⟨by rfl, ?_⟩) K0 ?_
  rotate_left
  · intro wz hwz
    obtain ⟨i0, i1, i2, j0, j1, j2, j3⟩ := hwz
    go_simp
    try with_reducible rfl
  try simp only [Act.put, List.setIfInBounds_toArray, List.set_cons_zero, List.set_cons_succ]
  refine takeL (i := 21) (v := ?_) rfl (by kernel_rfl) (by kernel_rfl) (by kernel_rfl) (fun _ _ _ h => h) (Or.inl ⟨by rfl, ?_⟩) K0 ?_
  rotate_left
  · intro wz hwz
    obtain ⟨i0, i1, i2, j0, j1, j2, j3⟩ := hwz
    go_simp
    try with_reducible rfl
  try simp only [Act.put, List.setIfInBounds_toArray, List.set_cons_zero, List.set_cons_succ]
  refine readyL (i := 19) rfl (by kernel_rfl) (by kernel_rfl) fun K hK => ?_
  go_simp
  refine (F2.out _).mono ?_
  rintro e w4 ⟨rfl, hb⟩
  have B4 := Lib.hid (B3.out.trans (hb.mono B3.out.size))
  have K0 := HKEEP.out _ B4.out
  clear hb B3
  refine hK.out _ _ K0 ?_
  clear hK K
  try simp only [Act.put, List.setIfInBounds_toArray, List.set_cons_zero, List.set_cons_succ]
  refine readyL (i := 22) rfl (by kernel_rfl) (by kernel_rfl) fun K hK => ?_
  go_simp
  refine (F0.out _).mono ?_
  rintro e w5 ⟨rfl, hb⟩
  have B5 := Lib.hid (B4.out.trans (hb.mono B4.out.size))
  have K0 := HKEEP.out _ B5.out
  clear hb B4
  refine hK.out _ _ K0 ?_
  clear hK K
  try simp only [Act.put, List.setIfInBounds_toArray, List.set_cons_zero, List.set_cons_succ]
  refine takeL (i := 23) (v := ?_) rfl (by kernel_rfl) (by kernel_rfl) (by kernel_rfl) (fun _ _ _ h => h) (Or.inl ⟨by rfl, ?_⟩) K0 ?_
  rotate_left
  · intro wz hwz
    obtain ⟨i0, i1, i2, j0, j1, j2, j3⟩ := hwz
    go_simp
    try with_reducible rfl
  try simp only [Act.put, List.setIfInBounds_toArray, List.set_cons_zero, List.set_cons_succ]
  refine takeL (i := 24) (v := ?_) rfl (by kernel_rfl) (by kernel_rfl) (by kernel_rfl) (fun _ _ _ h => h) (Or.inl ⟨by rfl, ?_⟩) K0 ?_
  rotate_left
  · intro wz hwz
    obtain ⟨i0, i1, i2, j0, j1, j2, j3⟩ := hwz
    go_simp
    try with_reducible rfl
  try simp only [Act.put, List.setIfInBounds_toArray, List.set_cons_zero, List.set_cons_succ]
  refine takeL (i := 25) (v := ?_) rfl (by kernel_rfl) (by kernel_rfl) (by kernel_rfl) (fun _ _ _ h => h) (Or.inl ⟨by rfl, ?_⟩) K0 ?_
  rotate_left
  · intro wz hwz
    obtain ⟨i0, i1, i2, j0, j1, j2, j3⟩ := hwz
    go_simp
    try with_reducible rfl
  try simp only [Act.put, List.setIfInBounds_toArray, List.set_cons_zero, List.set_cons_succ]
  refine takeL (i := 26) (v := ?_) rfl (by kernel_rfl) (by kernel_rfl) (by kernel_rfl) (fun _ _ _ h => h) (Or.inl ⟨by rfl, ?_⟩) K0 ?_
  rotate_left
  · intro wz hwz
    obtain ⟨i0, i1, i2, j0, j1, j2, j3⟩ := hwz
    go_simp
    try with_reducible rfl
  try simp only [Act.put, List.setIfInBounds_toArray, List.set_cons_zero, List.set_cons_succ]
  refine takeL (i := 27) (v := ?_) rfl (by kernel_rfl) (by kernel_rfl) (by kernel_rfl) (fun _ _ _ h => h) (Or.inl ⟨by rfl, ?_⟩) K0 ?_
  rotate_left
  · intro wz hwz
    obtain ⟨i0, i1, i2, j0, j1, j2, j3⟩ := hwz
    go_simp
    try with_reducible rfl
  try simp only [Act.put, List.setIfInBounds_toArray, List.set_cons_zero, List.set_cons_succ]
  refine takeL (i := 28) (v := ?_) rfl (by kernel_rfl) (by kernel_rfl) (by kernel_rfl) (fun _ _ _ h => h) (Or.inl ⟨by rfl, ?_⟩) K0 ?_
  rotate_left
  · intro wz hwz
    obtain ⟨i0, i1, i2, j0, j1, j2, j3⟩ := hwz
    go_simp
    try with_reducible rfl
  try simp only [Act.put, List.setIfInBounds_toArray, List.set_cons_zero, List.set_cons_succ]
  refine takeL (i := 29) (v := ?_) rfl (by kernel_rfl) (by kernel_rfl) (by kernel_rfl) (fun _ _ _ h => h) (Or.inl ⟨by rfl, ?_⟩) K0 ?_
  rotate_left
  · intro wz hwz
    obtain ⟨i0, i1, i2, j0, j1, j2, j3⟩ := hwz
    go_simp
    try with_reducible rfl
  try simp only [Act.put, List.setIfInBounds_toArray, List.set_cons_zero, List.set_cons_succ]
  refine takeL (i := 31) (v := ?_) rfl (by kernel_rfl) (by kernel_rfl) (by kernel_rfl) (fun _ _ _ h => h) (Or.inl ⟨by rfl, ?_⟩) K0 ?_
  rotate_left
  · intro wz hwz
    obtain ⟨i0, i1, i2, j0, j1, j2, j3⟩ := hwz
    go_simp
    try with_reducible rfl
  try simp only [Act.put, List.setIfInBounds_toArray, List.set_cons_zero, List.set_cons_succ]
  refine readyL (i := 30) rfl (by kernel_rfl) (by kernel_rfl) fun K hK => ?_
  go_simp
  refine (T2.out _).mono ?_
  rintro e w6 ⟨rfl, hb⟩
  have B6 := Lib.hid (B5.out.trans (hb.mono B5.out.size))
  have K0 := HKEEP.out _ B6.out
  clear hb B5
  refine hK.out _ _ K0 ?_
  clear hK K
  try simp only [Act.put, List.setIfInBounds_toArray, List.set_cons_zero, List.set_cons_succ]
  refine takeL (i := 32) (v := ?_) rfl (by kernel_rfl) (by kernel_rfl) (by kernel_rfl) (fun _ _ _ h => h) (Or.inl ⟨by rfl, ?_⟩) K0 ?_
  rotate_left
  · intro wz hwz
    obtain ⟨i0, i1, i2, j0, j1, j2, j3⟩ := hwz
    go_simp
    try with_reducible rfl
  try simp only [Act.put, List.setIfInBounds_toArray, List.set_cons_zero, List.set_cons_succ]
  refine takeL (i := 33) (v := ?_) rfl (by kernel_rfl) (by kernel_rfl) (by kernel_rfl) (fun _ _ _ h => h) (Or.inl ⟨by rfl, ?_⟩) K0 ?_
  rotate_left
  · intro wz hwz
    obtain ⟨i0, i1, i2, j0, j1, j2, j3⟩ := hwz
    go_simp
    try with_reducible rfl
  try simp only [Act.put, List.setIfInBounds_toArray, List.set_cons_zero, List.set_cons_succ]
  refine wpAnyH_done (by kernel_rfl) ?_ _
  clear d1 d2 d3 d4
  go_upto_region 9 with fail
  have B7 := Lib.hid (B6.out.drew)
  have K0 := HKEEP.out _ B7.out
  clear B6
  have d5 : decide (x3 ≤ x0) = true := decide_eq_true E5.out
  refine wp_region_held_drew (S := (fun V : World => V.cell? ⟨w.heap.size, 0, none⟩ = some (.int .u64 u) ∧ V.cell? ⟨w.heap.size, 1, none⟩ = some (.int .u64 p) ∧ V.cell? ⟨w.heap.size, 2, none⟩ = some (.int .i64 b) ∧ V.cell? ⟨gc, 0, none⟩ = some (.int .u64 (max u m2)) ∧ V.cell? ⟨gc, 1, none⟩ = some (.int .u64 (max p m1)) ∧ V.cell? ⟨gc, 2, none⟩ = some (.int .i64 b) ∧ V.cell? ⟨w.heap.size + 1, 3, none⟩ = some (.int .u64 m3))) (by kernel_rfl) K0 (fun _ => ?_)
  refine takeL (i := 0) (v := ?_) rfl (by kernel_rfl) (by kernel_rfl) (by kernel_rfl) (fun _ _ _ h => h) (Or.inl ⟨by rfl, ?_⟩) K0 ?_
  rotate_left
  · intro wz hwz
    obtain ⟨i0, i1, i2, j0, j1, j2, j3⟩ := hwz
    go_simp
    try with_reducible rfl
  try simp only [Act.put, List.setIfInBounds_toArray, List.set_cons_zero, List.set_cons_succ]
  refine takeL (i := 1) (v := ?_) rfl (by kernel_rfl) (by kernel_rfl) (by kernel_rfl) (fun _ _ _ h => h) (Or.inl ⟨by rfl, ?_⟩) K0 ?_
  rotate_left
  · intro wz hwz
    obtain ⟨i0, i1, i2, j0, j1, j2, j3⟩ := hwz
    go_simp
    try with_reducible rfl
  try simp only [Act.put, List.setIfInBounds_toArray, List.set_cons_zero, List.set_cons_succ]
  refine takeL (i := 2) (v := ?_) rfl (by kernel_rfl) (by kernel_rfl) (by kernel_rfl) (fun _ _ _ h => h) (Or.inl ⟨by rfl, ?_⟩) K0 ?_
  rotate_left
  · intro wz hwz
    obtain ⟨i0, i1, i2, j0, j1, j2, j3⟩ := hwz
    go_simp
    try with_reducible rfl
  try simp only [Act.put, List.setIfInBounds_toArray, List.set_cons_zero, List.set_cons_succ]
  refine takeL (i := 3) (v := ?_) rfl (by kernel_rfl) (by kernel_rfl) (by kernel_rfl) (fun _ _ _ h => h) (Or.inl ⟨by rfl, ?_⟩) K0 ?_
  rotate_left
  · intro wz hwz
    obtain ⟨i0, i1, i2, j0, j1, j2, j3⟩ := hwz
    go_simp
    try with_reducible rfl
  try simp only [Act.put, List.setIfInBounds_toArray, List.set_cons_zero, List.set_cons_succ]
  refine takeL (i := 4) (v := ?_) rfl (by kernel_rfl) (by kernel_rfl) (by kernel_rfl) (fun _ _ _ h => h) (Or.inl ⟨by rfl, ?_⟩) K0 ?_
  rotate_left
  · intro wz hwz
    obtain ⟨i0, i1, i2, j0, j1, j2, j3⟩ := hwz
    go_simp
    try with_reducible rfl
  try simp only [Act.put, List.setIfInBounds_toArray, List.set_cons_zero, List.set_cons_succ]
  refine takeL (i := 7) (v := ?_) rfl (by kernel_rfl) (by kernel_rfl) (by kernel_rfl) (fun _ _ _ h => h) (Or.inl ⟨by rfl, ?_⟩) K0 ?_
  rotate_left
  · intro wz hwz
    obtain ⟨i0, i1, i2, j0, j1, j2, j3⟩ := hwz
    go_simp
    try with_reducible rfl
  try simp only [Act.put, List.setIfInBounds_toArray, List.set_cons_zero, List.set_cons_succ]
  refine readyL (i := 5) rfl (by kernel_rfl) (by kernel_rfl) fun K hK => ?_
  go_simp
  refine hK.out _ _ K0 ?_
  clear hK K
  try simp only [Act.put, List.setIfInBounds_toArray, List.set_cons_zero, List.set_cons_succ]
  refine readyL (i := 6) rfl (by kernel_rfl) (by kernel_rfl) fun K hK => ?_
  go_simp
  refine (T3.out _).mono ?_
  rintro e w8 ⟨rfl, hb⟩
  have B8 := Lib.hid (B7.out.trans (hb.mono B7.out.size))
  have K0 := HKEEP.out _ B8.out
  clear hb B7
  refine hK.out _ _ K0 ?_
  clear hK K
  try simp only [Act.put, List.setIfInBounds_toArray, List.set_cons_zero, List.set_cons_succ]
  refine takeL (i := 8) (v := ?_) rfl (by kernel_rfl) (by kernel_rfl) (by kernel_rfl) (fun _ _ _ h => h) (Or.inl ⟨by rfl, ?_⟩) K0 ?_
  rotate_left
  · intro wz hwz
    obtain ⟨i0, i1, i2, j0, j1, j2, j3⟩ := hwz
    go_simp
    try with_reducible rfl
  try simp only [Act.put, List.setIfInBounds_toArray, List.set_cons_zero, List.set_cons_succ]
  refine takeL (i := 9) (v := ?_) rfl (by kernel_rfl) (by kernel_rfl) (by kernel_rfl) (fun _ _ _ h => h) (Or.inl ⟨by rfl, ?_⟩) K0 ?_
  rotate_left
  · intro wz hwz
    obtain ⟨i0, i1, i2, j0, j1, j2, j3⟩ := hwz
    go_simp
    try with_reducible rfl
  try simp only [Act.put, List.setIfInBounds_toArray, List.set_cons_zero, List.set_cons_succ]
  refine takeL (i := 10) (v := ?_) rfl (by kernel_rfl) (by kernel_rfl) (by kernel_rfl) (fun _ _ _ h => h) (Or.inl ⟨by rfl, ?_⟩) K0 ?_
  rotate_left
  · intro wz hwz
    obtain ⟨i0, i1, i2, j0, j1, j2, j3⟩ := hwz
    go_simp
    try with_reducible rfl
  try simp only [Act.put, List.setIfInBounds_toArray, List.set_cons_zero, List.set_cons_succ]
  refine takeL (i := 11) (v := ?_) rfl (by kernel_rfl) (by kernel_rfl) (by kernel_rfl) (fun _ _ _ h => h) (Or.inl ⟨by rfl, ?_⟩) K0 ?_
  rotate_left
  · intro wz hwz
    obtain ⟨i0, i1, i2, j0, j1, j2, j3⟩ := hwz
    go_simp
    try with_reducible rfl
  try simp only [Act.put, List.setIfInBounds_toArray, List.set_cons_zero, List.set_cons_succ]
  refine takeL (i := 13) (v := ?_) rfl (by kernel_rfl) (by kernel_rfl) (by kernel_rfl) (fun _ _ _ h => h) (Or.inl ⟨by rfl, ?_⟩) K0 ?_
  rotate_left
  · intro wz hwz
    obtain ⟨i0, i1, i2, j0, j1, j2, j3⟩ := hwz
    go_simp
    try with_reducible rfl
  try simp only [Act.put, List.setIfInBounds_toArray, List.set_cons_zero, List.set_cons_succ]
  refine takeL (i := 14) (v := ?_) rfl (by kernel_rfl) (by kernel_rfl) (by kernel_rfl) (fun _ _ _ h => h) (Or.inl ⟨by rfl, ?_⟩) K0 ?_
  rotate_left
  · intro wz hwz
    obtain ⟨i0, i1, i2, j0, j1, j2, j3⟩ := hwz
    go_simp
    try with_reducible rfl
  try simp only [Act.put, List.setIfInBounds_toArray, List.set_cons_zero, List.set_cons_succ]
  refine readyL (i := 12) rfl (by kernel_rfl) (by kernel_rfl) fun K hK => ?_
  go_simp
  refine (T4.out _).mono ?_
  rintro e w9 ⟨rfl, hb⟩
  have B9 := Lib.hid (B8.out.trans (hb.mono B8.out.size))
  have K0 := HKEEP.out _ B9.out
  clear hb B8
  refine hK.out _ _ K0 ?_
  clear hK K
  try simp only [Act.put, List.setIfInBounds_toArray, List.set_cons_zero, List.set_cons_succ]
  refine readyL (i := 15) rfl (by kernel_rfl) (by kernel_rfl) fun K hK => ?_
  go_simp
  refine (T5.out _).mono ?_
  rintro e w10 ⟨rfl, hb⟩
  have B10 := Lib.hid (B9.out.trans (hb.mono B9.out.size))
  have K0 := HKEEP.out _ B10.out
  clear hb B9
  refine hK.out _ _ K0 ?_
  clear hK K
  try simp only [Act.put, List.setIfInBounds_toArray, List.set_cons_zero, List.set_cons_succ]
  refine takeL (i := 16) (v := ?_) rfl (by kernel_rfl) (by kernel_rfl) (by kernel_rfl) (fun _ _ _ h => h) (Or.inl ⟨by rfl, ?_⟩) K0 ?_
  rotate_left
  · intro wz hwz
    obtain ⟨i0, i1, i2, j0, j1, j2, j3⟩ := hwz
    go_simp
    try with_reducible rfl
  try simp only [Act.put, List.setIfInBounds_toArray, List.set_cons_zero, List.set_cons_succ]
  refine takeL (i := 17) (v := ?_) rfl (by kernel_rfl) (by kernel_rfl) (by kernel_rfl) (fun _ _ _ h => h) (Or.inl ⟨by rfl, ?_⟩) K0 ?_
  rotate_left
  · intro wz hwz
    obtain ⟨i0, i1, i2, j0, j1, j2, j3⟩ := hwz
    go_simp
    try with_reducible rfl
  try simp only [Act.put, List.setIfInBounds_toArray, List.set_cons_zero, List.set_cons_succ]
  refine takeL (i := 18) (v := ?_) rfl (by kernel_rfl) (by kernel_rfl) (by kernel_rfl) (fun _ _ _ h => h) (Or.inl ⟨by rfl, ?_⟩) K0 ?_
  rotate_left
  · intro wz hwz
    obtain ⟨i0, i1, i2, j0, j1, j2, j3⟩ := hwz
    go_simp
    try with_reducible rfl
  try simp only [Act.put, List.setIfInBounds_toArray, List.set_cons_zero, List.set_cons_succ]
  refine readyL (i := 19) rfl (by kernel_rfl) (by kernel_rfl) fun K hK => ?_
  go_simp
  refine (lives10 _).mono ?_
  rintro e w11 ⟨rfl, hb⟩
  have B11 := Lib.hid (B10.out.trans (hb.mono B10.out.size))
  have K0 := HKEEP.out _ B11.out
  clear hb B10
  refine hK.out _ _ K0 ?_
  clear hK K
  try simp only [Act.put, List.setIfInBounds_toArray, List.set_cons_zero, List.set_cons_succ]
  refine takeL (i := 20) (v := ?_) rfl (by kernel_rfl) (by kernel_rfl) (by kernel_rfl) (fun _ _ _ h => h) (Or.inl ⟨by rfl, ?_⟩) K0 ?_
  rotate_left
  · intro wz hwz
    obtain ⟨i0, i1, i2, j0, j1, j2, j3⟩ := hwz
    go_simp
    try with_reducible rfl
  try simp only [Act.put, List.setIfInBounds_toArray, List.set_cons_zero, List.set_cons_succ]
  refine takeL (i := 21) (v := ?_) rfl (by kernel_rfl) (by kernel_rfl) (by kernel_rfl) (fun _ _ _ h => h) (Or.inl ⟨by rfl, ?_⟩) K0 ?_
  rotate_left
  · intro wz hwz
    obtain ⟨i0, i1, i2, j0, j1, j2, j3⟩ := hwz
    go_simp
    try with_reducible rfl
  try simp only [Act.put, List.setIfInBounds_toArray, List.set_cons_zero, List.set_cons_succ]
  refine wpAnyH_done (by kernel_rfl) ?_ _
  go_wp2_with fail
  go_ret
  exact ⟨rfl, HB7.out.trans (B11.out.mono HB7.out.size)⟩
/-- likewise, of an array that came in -/
theorem rise_came10 (n u p b : Int) (z : List Int) (w : World) (h0 : 0 ≤ n ∧ n < 256) (hu : Word u) (hp : Word p) (hl : z.length = 4) (hz : ∀ x ∈ z, (Lit.int .u64 x).wf = true) :
    Calls Try.prog 3 #[.int .u8 n, bud10 u p b, .agg (cv .u64 z).toArray] w fun e w' => e = .returned (.bool true) ∧ Below w.heap.size w w' := by
  obtain ⟨m0, m1, m2, m3, rfl⟩ : ∃ a b c d, z = [a, b, c, d] := by
    match z, hl with
    | [a, b, c, d], _ => exact ⟨a, b, c, d, rfl⟩
  exact rise_walk10 n u p b m0 m1 m2 m3 w h0.1 h0.2 hu hp (wf10_u64 (hz _ (by simp))) (wf10_u64 (hz _ (by simp))) (wf10_u64 (hz _ (by simp))) (wf10_u64 (hz _ (by simp)))
end Go.Proofs.Ytfbdolcgekmdgaa

/-
  Of part CostWalk10: what is needed here.
-/
namespace Go.Proofs.Ytfbdolcgekmdgaa
open Go.RowKit
set_option linter.unusedVariables false
set_option maxRecDepth 100000 in
set_option maxHeartbeats 4000000 in
theorem cost_walk10 (n u p b k : Int) (w : World) (h0 : 0 ≤ n) (h5 : n < 256) (hu : Word u) (hp : Word p) (h6 : 0 ≤ k) (h7 : k < 4294967296) :
    Calls Try.prog 5 #[.int .u8 n, bud10 u p b, .int .u32 k] w fun e w' => e = .returned (.bool true) ∧ Below w.heap.size w w' := by
  have hu0 := hu.1
  have hp0 := hp.1
  have hu1 := hu.2
  have hp1 := hp.2
  obtain ⟨p', hp'⟩ : ∃ x, p % 1000000 = x := ⟨_, rfl⟩
  obtain ⟨u', hu'⟩ : ∃ x, u % 1400001 = x := ⟨_, rfl⟩
  have b1 : 0 ≤ p' := by omega
  have b2 : p' < 1000000 := by omega
  have b3 : 0 ≤ u' := by omega
  have b4 : u' < 1400001 := by omega
  have T1 := fun w => fee_lit 0 u' p' 0 _ w (fee10_none b1 (by omega) b3 (by omega)) (by decide) (by decide) ⟨b3, by omega⟩ ⟨b1, by omega⟩
  have T2 := fun w => pri_ n u' p' 0 k w (by omega) (by omega) ⟨b3, by omega⟩ ⟨b1, by omega⟩ ⟨h6, by omega⟩
  obtain ⟨pays, e1, e2, e3, e4, e5, e6, e7, e8, e9, e10, e11⟩ := pri10_small (n := n) (p := p') (u := u') (c := k) h0 (by omega) b1 b2 b3 b4 h6 h7
  unfold bud10 at *
  generalize offer10 p' u' = o at *
  generalize pri10 n p' u' k = r at *
  have wni : IntKind.i64.wrap n = n := IntWalk.i64_in _ (by omega)
  have wn64 : IntKind.u64.wrap n = n := IntWalk.u64_in _ (by omega)
  have wk64 : IntKind.u64.wrap k = k := IntWalk.u64_in _ (by omega)
  have wk1 : IntKind.u64.wrap (k + 1) = k + 1 := IntWalk.u64_in _ (by omega)
  have wn5 : IntKind.u64.wrap (5000 * n) = 5000 * n := IntWalk.u64_in _ (by omega)
  have wo : IntKind.u64.wrap (5000 * n / 2 + o) = 5000 * n / 2 + o := IntWalk.u64_in _ (by omega)
  have wr1 : IntKind.u64.wrap (r + 1) = r + 1 := IntWalk.u64_in _ (by omega)
  have wpays : IntKind.u64.wrap ((5000 * n / 2 + o) * 1000000) = pays := by rw [← e1]; exact IntWalk.u64_in _ (by omega)
  obtain ⟨x, hx⟩ : ∃ x, r * (k + 1) = x := ⟨_, rfl⟩
  obtain ⟨y, hy⟩ : ∃ y, (r + 1) * (k + 1) = y := ⟨_, rfl⟩
  have wrk : IntKind.u64.wrap (r * (k + 1)) = x := by rw [hx]; exact IntWalk.u64_in _ (by omega)
  have wrk1 : IntKind.u64.wrap ((r + 1) * (k + 1)) = y := by rw [hy]; exact IntWalk.u64_in _ (by omega)
  rw [hx] at e6 e8
  rw [hy] at e9 e11
  clear hx hy
  have L := lives10
  have hb0 := (Below.refl w.heap.size w).alloc (Nat.le_refl _) (.cells #[.int .u64 u, .int .u64 p, .int .i64 b] 24)
  have HB0 := Lib.hid (hb0.alloc hb0.size (.cells #[.int .u64 u', .int .u64 p', .int .i64 0] 24))
  have R0 := Lib.hid (Row.new' (w.alloc (.cells #[.int .u64 u, .int .u64 p, .int .i64 b] 24)) 24 [.int .u64 u', .int .u64 p', .int .i64 0] (g := w.heap.size + 1) (by simp))
  clear hb0 e1 hu hp
  go_enter Try.func5, Try.ntmps5
  go_wp2_with fail
  refine (T1 _).mono ?_
  rintro e w1 ⟨rfl, hb⟩
  have HB := Lib.hid (HB0.out.trans (hb.mono (by have := HB0.out.size; simp at this ⊢; omega)))
  have R1 := Lib.hid (R0.out.below hb R0.out.lt)
  have c0 := R1.out.cell 0
  have c1 := R1.out.cell 1
  have c2 := R1.out.cell 2
  simp at c0 c1 c2
  clear hb HB0 R0
  go_wp2_with fail
  refine (T2 _).mono ?_
  rintro e w2 ⟨rfl, hb⟩
  have HB2 := Lib.hid (HB.out.trans (hb.mono HB.out.size))
  clear hb HB R1 c0 c1 c2
  go_wp2_with fail
  refine (L _).mono ?_
  rintro e w3 ⟨rfl, hb⟩
  have HB3 := Lib.hid (HB2.out.trans (hb.mono HB2.out.size))
  clear hb HB2
  go_wp2
  go_ret
  exact ⟨rfl, HB3.out⟩
end Go.Proofs.Ytfbdolcgekmdgaa
