/-
  Parts joined: None6 Elems Made6 Great6 JoinWalk.
-/
import Derived.Below
import Derived.Laws.OwnMore
import Derived.Deep.AppendLies
import Derived.Deep.Draws
import Derived.Lib.Hide
import Derived.Laws.MakeOwn
import Derived.Laws.CopyOwn
import Derived.Laws.Rows
import Derived.Laws.BitsAllLaws
import Derived.WalkKit
import Derived.Test.YtdbcbjjomhbhpaaRows
import Derived.WalkSpells
import Derived.WalkLawsBesides
import Derived.IntWalk
import Derived.Maps.AppendAt
import Derived.OwnWalk
import Derived.Deep.MidRow
import Derived.Deep.WholeRow
import Derived.Great.BuildSlice
import Derived.ProofKit
import Derived.OpenShut
import Derived.ShutString
import Derived.ChangeOld
import Derived.Lib.SmallJoins
import Derived.Recover
import Derived.Deep.RegionHeld
import Derived.Deep.QuietTactic
import Derived.BigQuiet
import Derived.Deep.Slices
import Derived.Deep.Strs
import Derived.SizedLaws
import Derived.Maps.OwnSet
import Derived.DeepKeys4
import Derived.WideKeyArr
import Derived.ChangeKeysEq
import Derived.Deep.RegionHeld2
import Derived.Deep.CutBlock
import Derived.Laws.Tables
import Derived.Deep.DeepCutAuto
import Derived.Laws.Slices
import Derived.Laws.EntriesVeiled
import Derived.Deep.RegionHeld3
import Derived.WideKeyEntry
import Derived.Shelf.SlMaps.Clone
import Derived.Test.YtdbcbjjomhbhpaaA1
import Derived.Test.YtdbcbjjomhbhpaaA2
/-
  Of part None6: what is needed here.
-/
namespace Go.Proofs.Ytdbcbjjomhbhpaa
open Go.RowKit
set_option linter.unusedVariables false
/-- what stays: the two registries, the act -/
structure None6 (w : World) (lb pb bx : Nat) (q : ARaw) (x : LAct) (w0 : World) : Prop where
  l : Row w lb 25 [.pointer none, .pointer (some ⟨pb, 0, none⟩)]
  p : Row w pb 51 [.map none]
  x : Row w bx 36 (ARaw.cells q x)
  b : Below w0.heap.size w0 w
theorem None6.below {w w' : World} {lb pb bx : Nat} {q : ARaw} {x : LAct} {w0 : World} (h : None6 w lb pb bx q x w0) (hb : Below w.heap.size w w') : None6 w' lb pb bx q x w0 :=
  ⟨h.l.below hb h.l.lt, h.p.below hb h.p.lt, h.x.below hb h.x.lt, h.b.trans (hb.mono h.b.size)⟩
theorem None6.drew {w : World} {lb pb bx : Nat} {q : ARaw} {x : LAct} {w0 : World} (h : None6 w lb pb bx q x w0) : None6 w.drew lb pb bx q x w0 :=
  h.below ⟨rfl, rfl, rfl, Nat.le_refl _, fun _ _ => rfl⟩
set_option maxRecDepth 100000 in
set_option maxHeartbeats 8000000 in
theorem none_walk (q : ARaw) (x : LAct) (w : World) (hm : ActIn w w.heap.size q x) :
    Calls Try.prog 4 #[.agg (ARaw.cells q x).toArray] w fun e w' => e = .returned (.bool true) ∧ Below w.heap.size w w' := by
  obtain ⟨KA, kn, kc, LA, ln, lc⟩ := q
  have htab := hm.tab
  have h33 := acells_33 (q := ⟨KA, kn, kc, LA, ln, lc⟩) htab
  have h34 := acells_34 (q := ⟨KA, kn, kc, LA, ln, lc⟩) htab
  have htb : ∀ j u, (bv x.tab)[j]? = some u → (ARaw.cells ⟨KA, kn, kc, LA, ln, lc⟩ x)[1 + j]? = some u := fun j u h => acells_tab h
  have HSX := Lib.hid (show (Try.prog.info? 32).map (·.size) = some (bv x.tab).length by rw [bv_length, htab]; exact size_key)
  obtain ⟨cs, hcs⟩ : ∃ cs, cs = ARaw.cells ⟨KA, kn, kc, LA, ln, lc⟩ x := ⟨_, rfl⟩
  have H0 : Hid (None6 (((w.alloc (.cells cs.toArray 36)).alloc (.cells #[.map none] 51)).alloc (.cells #[.pointer none, .pointer (some ⟨w.heap.size + 1, 0, none⟩)] 25)) (w.heap.size + 1 + 1) (w.heap.size + 1) w.heap.size ⟨KA, kn, kc, LA, ln, lc⟩ x w) := Lib.hid (by
    rw [hcs]
    refine ⟨Row.new' _ 25 [.pointer none, .pointer (some ⟨w.heap.size + 1, 0, none⟩)] (by simp), ?_, ?_, ?_⟩
    · exact (Row.new' _ 51 [.map none] (by simp)).alloc _
    · exact ((Row.new w 36 _).alloc _).alloc _
    · exact (((Below.refl w.heap.size w).alloc (Nat.le_refl _) _).alloc (by simp) _).alloc (by simp; omega) _)
  rw [← hcs] at h33 h34 htb
  have hgoal : ∀ Q, Calls Try.prog 4 #[.agg cs.toArray] w Q → Calls Try.prog 4 #[.agg (ARaw.cells ⟨KA, kn, kc, LA, ln, lc⟩ x).toArray] w Q := fun Q h => by rw [← hcs]; exact h
  refine hgoal _ ?_
  have HCS := Lib.hid hcs
  have H33 := Lib.hid h33
  have H34 := Lib.hid h34
  have HTB := Lib.hid htb
  clear hgoal hcs h33 h34 htb htab hm
  obtain ⟨pb, hpb⟩ : ∃ pb, pb = w.heap.size + 1 := ⟨_, rfl⟩
  have HPB := Lib.hid hpb
  go_enter Try.func4, Try.ntmps4
  go_wp2_with fail
  rw [← HPB.out] at H0 ⊢
  clear hpb
  obtain ⟨X, hX⟩ : ∃ X, X = bv x.tab := ⟨_, rfl⟩
  have HXX := Lib.hid hX
  rw [← hX] at HSX HTB
  clear hX
  obtain ⟨lb, hlb⟩ : ∃ lb, lb = pb + 1 := ⟨_, rfl⟩
  rw [← hlb] at H0 ⊢
  clear hlb
  obtain ⟨bx, hbx⟩ : ∃ bx, bx = w.heap.size := ⟨_, rfl⟩
  rw [← hbx] at H0 ⊢
  clear hbx
  go_loopw [4] (fun i wr => ∃ (k : Nat), k ≤ 2 ∧ i = .int .i64 k ∧ None6 wr lb pb bx ⟨KA, kn, kc, LA, ln, lc⟩ x w) (fun i _ => 2 - (intOf i).toNat)
  case atStart => exact ⟨0, by omega, rfl, H0.out⟩
  case round =>
    clear H0
    obtain ⟨k, hk, rfl, hn⟩ := hrel
    have H := Lib.hid hn
    clear hn
    have HC33 : Hid (∀ V : World, None6 V lb pb bx ⟨KA, kn, kc, LA, ln, lc⟩ x w → (∀ j u, X[j]? = some u → V.cell? ((⟨bx, 1, none⟩ : Addr).add j) = some u) ∧ V.cell? ⟨bx, 33, none⟩ = some (.slice KA kn kc) ∧ V.cell? ⟨bx, 34, none⟩ = some (.slice LA ln lc)) := Lib.hid fun V hV => by
      have hx := hV.x
      rw [← HCS.out] at hx
      exact ⟨fun j u hu => by rw [addr_row, hx.cell]; exact HTB.out j u hu, (hx.cell 33).trans H33.out, (hx.cell 34).trans H34.out⟩
    match k, hk with
    | 0, _ =>
      have HSS : Hid (∀ V : World, None6 V lb pb bx ⟨KA, kn, kc, LA, ln, lc⟩ x w → V.cell? ⟨lb, 0, none⟩ = some (.pointer none) ∧ (∀ j u, X[j]? = some u → V.cell? ((⟨bx, 1, none⟩ : Addr).add j) = some u) ∧ V.cell? ⟨bx, 33, none⟩ = some (.slice KA kn kc) ∧ V.cell? ⟨bx, 34, none⟩ = some (.slice LA ln lc)) := Lib.hid fun V hV => ⟨hV.l.cell 0, HC33.out V hV⟩
      have HNO : Hid (∀ V : World, None6 V lb pb bx ⟨KA, kn, kc, LA, ln, lc⟩ x w → NoReg V (.pointer none)) := Lib.hid fun V hV => .inl rfl
      have HF := Lib.hid (fun V hV => HXX.out ▸ findNo (.pointer none) x.tab V (HNO.out V hV))
      have HP := Lib.hid (fun V hV => HXX.out ▸ putNo (.pointer none) (.slice KA kn kc) x.tab V (HNO.out V hV))
      have HR := Lib.hid (fun V hV => resolveNo (.pointer none) (.slice LA ln lc) V (HNO.out V hV))
      have HC := Lib.hid (fun V hV => copyNo (.pointer none) V (HNO.out V hV))
      go_wp2_with fail
      have HS5 := Lib.hid (HSS.out _ H.out.drew)
      have H5 := Lib.hid H.out.drew
      refine wp_region_held_drew (S := (fun V => V.cell? ⟨lb, 0, none⟩ = some (.pointer none) ∧ (∀ j u, X[j]? = some u → V.cell? ((⟨bx, 1, none⟩ : Addr).add j) = some u) ∧ V.cell? ⟨bx, 33, none⟩ = some (.slice KA kn kc) ∧ V.cell? ⟨bx, 34, none⟩ = some (.slice LA ln lc))) (by kernel_rfl) HS5.out (fun _ => ?_)
      generalize wr.drew = V5 at *
      refine takeL (i := 0) (v := ?_) rfl (by kernel_rfl) (by kernel_rfl) (by kernel_rfl) (fun _ _ _ h => h) (Or.inl ⟨by rfl, ?_⟩) HS5.out ?_
      rotate_left
      · intro w hw
        try dsimp only at hw
        go_simp
        try with_reducible rfl
      try simp only [Act.put, List.setIfInBounds_toArray, List.set_cons_zero, List.set_cons_succ]
      refine takeL (i := 1) (v := ?_) rfl (by kernel_rfl) (by kernel_rfl) (by kernel_rfl) (fun _ _ _ h => h) (Or.inl ⟨by rfl, ?_⟩) HS5.out ?_
      rotate_left
      · intro w hw
        try dsimp only at hw
        go_simp
        try with_reducible rfl
      try simp only [Act.put, List.setIfInBounds_toArray, List.set_cons_zero, List.set_cons_succ]
      refine takeL (i := 2) (v := ?_) rfl (by kernel_rfl) (by kernel_rfl) (by kernel_rfl) (fun _ _ _ h => h) (Or.inl ⟨by rfl, ?_⟩) HS5.out ?_
      rotate_left
      · intro w hw
        try dsimp only at hw
        go_simp
        try with_reducible rfl
      try simp only [Act.put, List.setIfInBounds_toArray, List.set_cons_zero, List.set_cons_succ]
      refine takeL (i := 3) (v := ?_) rfl (by kernel_rfl) (by kernel_rfl) (by kernel_rfl) (fun _ _ _ h => h) (Or.inl ⟨by rfl, ?_⟩) HS5.out ?_
      rotate_left
      · intro w hw
        try dsimp only at hw
        obtain ⟨q0, q1, q2, q3⟩ := hw
        go_simp
        try with_reducible rfl
      try simp only [Act.put, List.setIfInBounds_toArray, List.set_cons_zero, List.set_cons_succ]
      refine takeL (i := 4) (v := ?_) rfl (by kernel_rfl) (by kernel_rfl) (by kernel_rfl) (fun _ _ _ h => h) (Or.inl ⟨by rfl, ?_⟩) HS5.out ?_
      rotate_left
      · intro w hw
        try dsimp only at hw
        go_simp
        try with_reducible rfl
      try simp only [Act.put, List.setIfInBounds_toArray, List.set_cons_zero, List.set_cons_succ]
      refine takeL (i := 5) (v := .agg X.toArray) rfl (by kernel_rfl) (by kernel_rfl) (by kernel_rfl) (fun _ _ _ h => h) (Or.inl ⟨by rfl, fun wz hwz => exec_load_at wz 32 (.tmp 24) rfl ⟨bx, 1, none⟩ X _ Try.underlying32 rfl HSX.out hwz.2.1 (by go_simp)⟩) HS5.out ?_
      try simp only [Act.put, List.setIfInBounds_toArray, List.set_cons_zero, List.set_cons_succ]
      refine readyL (i := 6) rfl (by kernel_rfl) (by kernel_rfl) fun K hK => ?_
      go_simp
      refine (HF.out V5 H5.out).mono ?_
      rintro e w6 ⟨rfl, hb6⟩
      have H6 := Lib.hid (H5.out.below hb6)
      have HS6 := Lib.hid (HSS.out _ H6.out)
      clear hb6
      unfold nilK
      refine hK.out _ _ HS6.out ?_
      clear hK K
      try simp only [Act.put, List.setIfInBounds_toArray, List.set_cons_zero, List.set_cons_succ]
      refine takeL (i := 7) (v := ?_) rfl (by kernel_rfl) (by kernel_rfl) (by kernel_rfl) (fun _ _ _ h => h) (Or.inl ⟨by rfl, ?_⟩) HS6.out ?_
      rotate_left
      · intro w hw
        try dsimp only at hw
        go_simp
        try with_reducible rfl
      try simp only [Act.put, List.setIfInBounds_toArray, List.set_cons_zero, List.set_cons_succ]
      refine takeL (i := 8) (v := ?_) rfl (by kernel_rfl) (by kernel_rfl) (by kernel_rfl) (fun _ _ _ h => h) (Or.inl ⟨by rfl, ?_⟩) HS6.out ?_
      rotate_left
      · intro w hw
        try dsimp only at hw
        go_simp
        try with_reducible rfl
      try simp only [Act.put, List.setIfInBounds_toArray, List.set_cons_zero, List.set_cons_succ]
      refine takeL (i := 9) (v := ?_) rfl (by kernel_rfl) (by kernel_rfl) (by kernel_rfl) (fun _ _ _ h => h) (Or.inl ⟨by rfl, ?_⟩) HS6.out ?_
      rotate_left
      · intro w hw
        try dsimp only at hw
        go_simp
        try with_reducible rfl
      try simp only [Act.put, List.setIfInBounds_toArray, List.set_cons_zero, List.set_cons_succ]
      refine takeL (i := 10) (v := ?_) rfl (by kernel_rfl) (by kernel_rfl) (by kernel_rfl) (fun _ _ _ h => h) (Or.inl ⟨by rfl, ?_⟩) HS6.out ?_
      rotate_left
      · intro w hw
        try dsimp only at hw
        go_simp
        try with_reducible rfl
      try simp only [Act.put, List.setIfInBounds_toArray, List.set_cons_zero, List.set_cons_succ]
      refine takeL (i := 11) (v := ?_) rfl (by kernel_rfl) (by kernel_rfl) (by kernel_rfl) (fun _ _ _ h => h) (Or.inl ⟨by rfl, ?_⟩) HS6.out ?_
      rotate_left
      · intro w hw
        try dsimp only at hw
        go_simp
        try with_reducible rfl
      try simp only [Act.put, List.setIfInBounds_toArray, List.set_cons_zero, List.set_cons_succ]
      refine wpAnyH_done (by kernel_rfl) ?_ _
      go_wp2_with fail
      have HS7 := Lib.hid (HSS.out _ H6.out.drew)
      have H7 := Lib.hid H6.out.drew
      refine wp_region_held_drew (S := (fun V => V.cell? ⟨lb, 0, none⟩ = some (.pointer none) ∧ (∀ j u, X[j]? = some u → V.cell? ((⟨bx, 1, none⟩ : Addr).add j) = some u) ∧ V.cell? ⟨bx, 33, none⟩ = some (.slice KA kn kc) ∧ V.cell? ⟨bx, 34, none⟩ = some (.slice LA ln lc))) (by kernel_rfl) HS7.out (fun _ => ?_)
      generalize w6.drew = V7 at *
      refine takeL (i := 0) (v := ?_) rfl (by kernel_rfl) (by kernel_rfl) (by kernel_rfl) (fun _ _ _ h => h) (Or.inl ⟨by rfl, ?_⟩) HS7.out ?_
      rotate_left
      · intro w hw
        try dsimp only at hw
        go_simp
        try with_reducible rfl
      try simp only [Act.put, List.setIfInBounds_toArray, List.set_cons_zero, List.set_cons_succ]
      refine takeL (i := 1) (v := ?_) rfl (by kernel_rfl) (by kernel_rfl) (by kernel_rfl) (fun _ _ _ h => h) (Or.inl ⟨by rfl, ?_⟩) HS7.out ?_
      rotate_left
      · intro w hw
        try dsimp only at hw
        go_simp
        try with_reducible rfl
      try simp only [Act.put, List.setIfInBounds_toArray, List.set_cons_zero, List.set_cons_succ]
      refine takeL (i := 2) (v := ?_) rfl (by kernel_rfl) (by kernel_rfl) (by kernel_rfl) (fun _ _ _ h => h) (Or.inl ⟨by rfl, ?_⟩) HS7.out ?_
      rotate_left
      · intro w hw
        try dsimp only at hw
        go_simp
        try with_reducible rfl
      try simp only [Act.put, List.setIfInBounds_toArray, List.set_cons_zero, List.set_cons_succ]
      refine takeL (i := 3) (v := ?_) rfl (by kernel_rfl) (by kernel_rfl) (by kernel_rfl) (fun _ _ _ h => h) (Or.inl ⟨by rfl, ?_⟩) HS7.out ?_
      rotate_left
      · intro w hw
        try dsimp only at hw
        obtain ⟨q0, q1, q2, q3⟩ := hw
        go_simp
        try with_reducible rfl
      try simp only [Act.put, List.setIfInBounds_toArray, List.set_cons_zero, List.set_cons_succ]
      refine takeL (i := 4) (v := ?_) rfl (by kernel_rfl) (by kernel_rfl) (by kernel_rfl) (fun _ _ _ h => h) (Or.inl ⟨by rfl, ?_⟩) HS7.out ?_
      rotate_left
      · intro w hw
        try dsimp only at hw
        go_simp
        try with_reducible rfl
      try simp only [Act.put, List.setIfInBounds_toArray, List.set_cons_zero, List.set_cons_succ]
      refine takeL (i := 5) (v := ?_) rfl (by kernel_rfl) (by kernel_rfl) (by kernel_rfl) (fun _ _ _ h => h) (Or.inl ⟨by rfl, ?_⟩) HS7.out ?_
      rotate_left
      · intro w hw
        try dsimp only at hw
        obtain ⟨q0, q1, q2, q3⟩ := hw
        go_simp
        try with_reducible rfl
      try simp only [Act.put, List.setIfInBounds_toArray, List.set_cons_zero, List.set_cons_succ]
      refine readyL (i := 6) rfl (by kernel_rfl) (by kernel_rfl) fun K hK => ?_
      go_simp
      refine (HR.out V7 H7.out).mono ?_
      rintro e w8 ⟨rfl, rfl⟩
      unfold nilK
      refine hK.out _ _ HS7.out ?_
      clear hK K
      try simp only [Act.put, List.setIfInBounds_toArray, List.set_cons_zero, List.set_cons_succ]
      refine takeL (i := 7) (v := ?_) rfl (by kernel_rfl) (by kernel_rfl) (by kernel_rfl) (fun _ _ _ h => h) (Or.inl ⟨by rfl, ?_⟩) HS7.out ?_
      rotate_left
      · intro w hw
        try dsimp only at hw
        go_simp
        try with_reducible rfl
      try simp only [Act.put, List.setIfInBounds_toArray, List.set_cons_zero, List.set_cons_succ]
      refine takeL (i := 8) (v := ?_) rfl (by kernel_rfl) (by kernel_rfl) (by kernel_rfl) (fun _ _ _ h => h) (Or.inl ⟨by rfl, ?_⟩) HS7.out ?_
      rotate_left
      · intro w hw
        try dsimp only at hw
        go_simp
        try with_reducible rfl
      try simp only [Act.put, List.setIfInBounds_toArray, List.set_cons_zero, List.set_cons_succ]
      refine takeL (i := 9) (v := ?_) rfl (by kernel_rfl) (by kernel_rfl) (by kernel_rfl) (fun _ _ _ h => h) (Or.inl ⟨by rfl, ?_⟩) HS7.out ?_
      rotate_left
      · intro w hw
        try dsimp only at hw
        go_simp
        try with_reducible rfl
      try simp only [Act.put, List.setIfInBounds_toArray, List.set_cons_zero, List.set_cons_succ]
      refine takeL (i := 10) (v := ?_) rfl (by kernel_rfl) (by kernel_rfl) (by kernel_rfl) (fun _ _ _ h => h) (Or.inl ⟨by rfl, ?_⟩) HS7.out ?_
      rotate_left
      · intro w hw
        try dsimp only at hw
        go_simp
        try with_reducible rfl
      try simp only [Act.put, List.setIfInBounds_toArray, List.set_cons_zero, List.set_cons_succ]
      refine takeL (i := 11) (v := ?_) rfl (by kernel_rfl) (by kernel_rfl) (by kernel_rfl) (fun _ _ _ h => h) (Or.inl ⟨by rfl, ?_⟩) HS7.out ?_
      rotate_left
      · intro w hw
        try dsimp only at hw
        go_simp
        try with_reducible rfl
      try simp only [Act.put, List.setIfInBounds_toArray, List.set_cons_zero, List.set_cons_succ]
      refine takeL (i := 12) (v := ?_) rfl (by kernel_rfl) (by kernel_rfl) (by kernel_rfl) (fun _ _ _ h => h) (Or.inl ⟨by rfl, ?_⟩) HS7.out ?_
      rotate_left
      · intro w hw
        try dsimp only at hw
        go_simp
        try with_reducible rfl
      try simp only [Act.put, List.setIfInBounds_toArray, List.set_cons_zero, List.set_cons_succ]
      refine takeL (i := 13) (v := ?_) rfl (by kernel_rfl) (by kernel_rfl) (by kernel_rfl) (fun _ _ _ h => h) (Or.inl ⟨by rfl, ?_⟩) HS7.out ?_
      rotate_left
      · intro w hw
        try dsimp only at hw
        go_simp
        try with_reducible rfl
      try simp only [Act.put, List.setIfInBounds_toArray, List.set_cons_zero, List.set_cons_succ]
      refine wpAnyH_done (by kernel_rfl) ?_ _
      go_wp2_with fail
      have HS9 := Lib.hid (HSS.out _ H7.out.drew)
      have H9 := Lib.hid H7.out.drew
      refine wp_region_held_drew (S := (fun V => V.cell? ⟨lb, 0, none⟩ = some (.pointer none) ∧ (∀ j u, X[j]? = some u → V.cell? ((⟨bx, 1, none⟩ : Addr).add j) = some u) ∧ V.cell? ⟨bx, 33, none⟩ = some (.slice KA kn kc) ∧ V.cell? ⟨bx, 34, none⟩ = some (.slice LA ln lc))) (by kernel_rfl) HS9.out (fun _ => ?_)
      generalize V7.drew = V9 at *
      refine takeL (i := 0) (v := ?_) rfl (by kernel_rfl) (by kernel_rfl) (by kernel_rfl) (fun _ _ _ h => h) (Or.inl ⟨by rfl, ?_⟩) HS9.out ?_
      rotate_left
      · intro w hw
        try dsimp only at hw
        go_simp
        try with_reducible rfl
      try simp only [Act.put, List.setIfInBounds_toArray, List.set_cons_zero, List.set_cons_succ]
      refine takeL (i := 1) (v := ?_) rfl (by kernel_rfl) (by kernel_rfl) (by kernel_rfl) (fun _ _ _ h => h) (Or.inl ⟨by rfl, ?_⟩) HS9.out ?_
      rotate_left
      · intro w hw
        try dsimp only at hw
        go_simp
        try with_reducible rfl
      try simp only [Act.put, List.setIfInBounds_toArray, List.set_cons_zero, List.set_cons_succ]
      refine takeL (i := 2) (v := ?_) rfl (by kernel_rfl) (by kernel_rfl) (by kernel_rfl) (fun _ _ _ h => h) (Or.inl ⟨by rfl, ?_⟩) HS9.out ?_
      rotate_left
      · intro w hw
        try dsimp only at hw
        go_simp
        try with_reducible rfl
      try simp only [Act.put, List.setIfInBounds_toArray, List.set_cons_zero, List.set_cons_succ]
      refine takeL (i := 3) (v := ?_) rfl (by kernel_rfl) (by kernel_rfl) (by kernel_rfl) (fun _ _ _ h => h) (Or.inl ⟨by rfl, ?_⟩) HS9.out ?_
      rotate_left
      · intro w hw
        try dsimp only at hw
        obtain ⟨q0, q1, q2, q3⟩ := hw
        go_simp
        try with_reducible rfl
      try simp only [Act.put, List.setIfInBounds_toArray, List.set_cons_zero, List.set_cons_succ]
      refine takeL (i := 4) (v := ?_) rfl (by kernel_rfl) (by kernel_rfl) (by kernel_rfl) (fun _ _ _ h => h) (Or.inl ⟨by rfl, ?_⟩) HS9.out ?_
      rotate_left
      · intro w hw
        try dsimp only at hw
        go_simp
        try with_reducible rfl
      try simp only [Act.put, List.setIfInBounds_toArray, List.set_cons_zero, List.set_cons_succ]
      refine takeL (i := 5) (v := .agg X.toArray) rfl (by kernel_rfl) (by kernel_rfl) (by kernel_rfl) (fun _ _ _ h => h) (Or.inl ⟨by rfl, fun wz hwz => exec_load_at wz 32 (.tmp 44) rfl ⟨bx, 1, none⟩ X _ Try.underlying32 rfl HSX.out hwz.2.1 (by go_simp)⟩) HS9.out ?_
      try simp only [Act.put, List.setIfInBounds_toArray, List.set_cons_zero, List.set_cons_succ]
      refine takeL (i := 6) (v := ?_) rfl (by kernel_rfl) (by kernel_rfl) (by kernel_rfl) (fun _ _ _ h => h) (Or.inl ⟨by rfl, ?_⟩) HS9.out ?_
      rotate_left
      · intro w hw
        try dsimp only at hw
        go_simp
        try with_reducible rfl
      try simp only [Act.put, List.setIfInBounds_toArray, List.set_cons_zero, List.set_cons_succ]
      refine takeL (i := 7) (v := ?_) rfl (by kernel_rfl) (by kernel_rfl) (by kernel_rfl) (fun _ _ _ h => h) (Or.inl ⟨by rfl, ?_⟩) HS9.out ?_
      rotate_left
      · intro w hw
        try dsimp only at hw
        obtain ⟨q0, q1, q2, q3⟩ := hw
        go_simp
        try with_reducible rfl
      try simp only [Act.put, List.setIfInBounds_toArray, List.set_cons_zero, List.set_cons_succ]
      refine readyL (i := 8) rfl (by kernel_rfl) (by kernel_rfl) fun K hK => ?_
      go_simp
      refine (HP.out V9 H9.out).mono ?_
      rintro e w10 ⟨rfl, hb10⟩
      have H10 := Lib.hid (H9.out.below hb10)
      have HS10 := Lib.hid (HSS.out _ H10.out)
      clear hb10
      refine hK.out _ _ HS10.out ?_
      clear hK K
      try simp only [Act.put, List.setIfInBounds_toArray, List.set_cons_zero, List.set_cons_succ]
      refine takeL (i := 9) (v := ?_) rfl (by kernel_rfl) (by kernel_rfl) (by kernel_rfl) (fun _ _ _ h => h) (Or.inl ⟨by rfl, ?_⟩) HS10.out ?_
      rotate_left
      · intro w hw
        try dsimp only at hw
        go_simp
        try with_reducible rfl
      try simp only [Act.put, List.setIfInBounds_toArray, List.set_cons_zero, List.set_cons_succ]
      refine takeL (i := 10) (v := ?_) rfl (by kernel_rfl) (by kernel_rfl) (by kernel_rfl) (fun _ _ _ h => h) (Or.inl ⟨by rfl, ?_⟩) HS10.out ?_
      rotate_left
      · intro w hw
        try dsimp only at hw
        go_simp
        try with_reducible rfl
      try simp only [Act.put, List.setIfInBounds_toArray, List.set_cons_zero, List.set_cons_succ]
      refine takeL (i := 11) (v := ?_) rfl (by kernel_rfl) (by kernel_rfl) (by kernel_rfl) (fun _ _ _ h => h) (Or.inl ⟨by rfl, ?_⟩) HS10.out ?_
      rotate_left
      · intro w hw
        try dsimp only at hw
        go_simp
        try with_reducible rfl
      try simp only [Act.put, List.setIfInBounds_toArray, List.set_cons_zero, List.set_cons_succ]
      refine takeL (i := 12) (v := ?_) rfl (by kernel_rfl) (by kernel_rfl) (by kernel_rfl) (fun _ _ _ h => h) (Or.inl ⟨by rfl, ?_⟩) HS10.out ?_
      rotate_left
      · intro w hw
        try dsimp only at hw
        go_simp
        try with_reducible rfl
      try simp only [Act.put, List.setIfInBounds_toArray, List.set_cons_zero, List.set_cons_succ]
      refine takeL (i := 13) (v := ?_) rfl (by kernel_rfl) (by kernel_rfl) (by kernel_rfl) (fun _ _ _ h => h) (Or.inl ⟨by rfl, ?_⟩) HS10.out ?_
      rotate_left
      · intro w hw
        try dsimp only at hw
        go_simp
        try with_reducible rfl
      try simp only [Act.put, List.setIfInBounds_toArray, List.set_cons_zero, List.set_cons_succ]
      refine takeL (i := 14) (v := ?_) rfl (by kernel_rfl) (by kernel_rfl) (by kernel_rfl) (fun _ _ _ h => h) (Or.inl ⟨by rfl, ?_⟩) HS10.out ?_
      rotate_left
      · intro w hw
        try dsimp only at hw
        go_simp
        try with_reducible rfl
      try simp only [Act.put, List.setIfInBounds_toArray, List.set_cons_zero, List.set_cons_succ]
      refine takeL (i := 15) (v := ?_) rfl (by kernel_rfl) (by kernel_rfl) (by kernel_rfl) (fun _ _ _ h => h) (Or.inl ⟨by rfl, ?_⟩) HS10.out ?_
      rotate_left
      · intro w hw
        try dsimp only at hw
        go_simp
        try with_reducible rfl
      try simp only [Act.put, List.setIfInBounds_toArray, List.set_cons_zero, List.set_cons_succ]
      refine takeL (i := 16) (v := ?_) rfl (by kernel_rfl) (by kernel_rfl) (by kernel_rfl) (fun _ _ _ h => h) (Or.inl ⟨by rfl, ?_⟩) HS10.out ?_
      rotate_left
      · intro w hw
        try dsimp only at hw
        go_simp
        try with_reducible rfl
      try simp only [Act.put, List.setIfInBounds_toArray, List.set_cons_zero, List.set_cons_succ]
      refine takeL (i := 17) (v := ?_) rfl (by kernel_rfl) (by kernel_rfl) (by kernel_rfl) (fun _ _ _ h => h) (Or.inl ⟨by rfl, ?_⟩) HS10.out ?_
      rotate_left
      · intro w hw
        try dsimp only at hw
        go_simp
        try with_reducible rfl
      try simp only [Act.put, List.setIfInBounds_toArray, List.set_cons_zero, List.set_cons_succ]
      refine takeL (i := 18) (v := ?_) rfl (by kernel_rfl) (by kernel_rfl) (by kernel_rfl) (fun _ _ _ h => h) (Or.inl ⟨by rfl, ?_⟩) HS10.out ?_
      rotate_left
      · intro w hw
        try dsimp only at hw
        go_simp
        try with_reducible rfl
      try simp only [Act.put, List.setIfInBounds_toArray, List.set_cons_zero, List.set_cons_succ]
      refine takeL (i := 19) (v := ?_) rfl (by kernel_rfl) (by kernel_rfl) (by kernel_rfl) (fun _ _ _ h => h) (Or.inl ⟨by rfl, ?_⟩) HS10.out ?_
      rotate_left
      · intro w hw
        try dsimp only at hw
        go_simp
        try with_reducible rfl
      try simp only [Act.put, List.setIfInBounds_toArray, List.set_cons_zero, List.set_cons_succ]
      refine takeL (i := 20) (v := ?_) rfl (by kernel_rfl) (by kernel_rfl) (by kernel_rfl) (fun _ _ _ h => h) (Or.inl ⟨by rfl, ?_⟩) HS10.out ?_
      rotate_left
      · intro w hw
        try dsimp only at hw
        go_simp
        try with_reducible rfl
      try simp only [Act.put, List.setIfInBounds_toArray, List.set_cons_zero, List.set_cons_succ]
      refine takeL (i := 21) (v := ?_) rfl (by kernel_rfl) (by kernel_rfl) (by kernel_rfl) (fun _ _ _ h => h) (Or.inl ⟨by rfl, ?_⟩) HS10.out ?_
      rotate_left
      · intro w hw
        try dsimp only at hw
        go_simp
        try with_reducible rfl
      try simp only [Act.put, List.setIfInBounds_toArray, List.set_cons_zero, List.set_cons_succ]
      refine takeL (i := 22) (v := ?_) rfl (by kernel_rfl) (by kernel_rfl) (by kernel_rfl) (fun _ _ _ h => h) (Or.inl ⟨by rfl, ?_⟩) HS10.out ?_
      rotate_left
      · intro w hw
        try dsimp only at hw
        go_simp
        try with_reducible rfl
      try simp only [Act.put, List.setIfInBounds_toArray, List.set_cons_zero, List.set_cons_succ]
      refine takeL (i := 23) (v := ?_) rfl (by kernel_rfl) (by kernel_rfl) (by kernel_rfl) (fun _ _ _ h => h) (Or.inl ⟨by rfl, ?_⟩) HS10.out ?_
      rotate_left
      · intro w hw
        try dsimp only at hw
        go_simp
        try with_reducible rfl
      try simp only [Act.put, List.setIfInBounds_toArray, List.set_cons_zero, List.set_cons_succ]
      refine takeL (i := 24) (v := ?_) rfl (by kernel_rfl) (by kernel_rfl) (by kernel_rfl) (fun _ _ _ h => h) (Or.inl ⟨by rfl, ?_⟩) HS10.out ?_
      rotate_left
      · intro w hw
        try dsimp only at hw
        go_simp
        try with_reducible rfl
      try simp only [Act.put, List.setIfInBounds_toArray, List.set_cons_zero, List.set_cons_succ]
      refine takeL (i := 25) (v := ?_) rfl (by kernel_rfl) (by kernel_rfl) (by kernel_rfl) (fun _ _ _ h => h) (Or.inl ⟨by rfl, ?_⟩) HS10.out ?_
      rotate_left
      · intro w hw
        try dsimp only at hw
        go_simp
        try with_reducible rfl
      try simp only [Act.put, List.setIfInBounds_toArray, List.set_cons_zero, List.set_cons_succ]
      refine takeL (i := 26) (v := ?_) rfl (by kernel_rfl) (by kernel_rfl) (by kernel_rfl) (fun _ _ _ h => h) (Or.inl ⟨by rfl, ?_⟩) HS10.out ?_
      rotate_left
      · intro w hw
        try dsimp only at hw
        go_simp
        try with_reducible rfl
      try simp only [Act.put, List.setIfInBounds_toArray, List.set_cons_zero, List.set_cons_succ]
      refine takeL (i := 27) (v := ?_) rfl (by kernel_rfl) (by kernel_rfl) (by kernel_rfl) (fun _ _ _ h => h) (Or.inl ⟨by rfl, ?_⟩) HS10.out ?_
      rotate_left
      · intro w hw
        try dsimp only at hw
        go_simp
        try with_reducible rfl
      try simp only [Act.put, List.setIfInBounds_toArray, List.set_cons_zero, List.set_cons_succ]
      refine takeL (i := 28) (v := ?_) rfl (by kernel_rfl) (by kernel_rfl) (by kernel_rfl) (fun _ _ _ h => h) (Or.inl ⟨by rfl, ?_⟩) HS10.out ?_
      rotate_left
      · intro w hw
        try dsimp only at hw
        go_simp
        try with_reducible rfl
      try simp only [Act.put, List.setIfInBounds_toArray, List.set_cons_zero, List.set_cons_succ]
      refine takeL (i := 29) (v := ?_) rfl (by kernel_rfl) (by kernel_rfl) (by kernel_rfl) (fun _ _ _ h => h) (Or.inl ⟨by rfl, ?_⟩) HS10.out ?_
      rotate_left
      · intro w hw
        try dsimp only at hw
        go_simp
        try with_reducible rfl
      try simp only [Act.put, List.setIfInBounds_toArray, List.set_cons_zero, List.set_cons_succ]
      refine takeL (i := 30) (v := ?_) rfl (by kernel_rfl) (by kernel_rfl) (by kernel_rfl) (fun _ _ _ h => h) (Or.inl ⟨by rfl, ?_⟩) HS10.out ?_
      rotate_left
      · intro w hw
        try dsimp only at hw
        go_simp
        try with_reducible rfl
      try simp only [Act.put, List.setIfInBounds_toArray, List.set_cons_zero, List.set_cons_succ]
      refine takeL (i := 31) (v := ?_) rfl (by kernel_rfl) (by kernel_rfl) (by kernel_rfl) (fun _ _ _ h => h) (Or.inl ⟨by rfl, ?_⟩) HS10.out ?_
      rotate_left
      · intro w hw
        try dsimp only at hw
        go_simp
        try with_reducible rfl
      try simp only [Act.put, List.setIfInBounds_toArray, List.set_cons_zero, List.set_cons_succ]
      refine takeL (i := 32) (v := ?_) rfl (by kernel_rfl) (by kernel_rfl) (by kernel_rfl) (fun _ _ _ h => h) (Or.inl ⟨by rfl, ?_⟩) HS10.out ?_
      rotate_left
      · intro w hw
        try dsimp only at hw
        go_simp
        try with_reducible rfl
      try simp only [Act.put, List.setIfInBounds_toArray, List.set_cons_zero, List.set_cons_succ]
      refine takeL (i := 33) (v := ?_) rfl (by kernel_rfl) (by kernel_rfl) (by kernel_rfl) (fun _ _ _ h => h) (Or.inl ⟨by rfl, ?_⟩) HS10.out ?_
      rotate_left
      · intro w hw
        try dsimp only at hw
        obtain ⟨q0, q1, q2, q3⟩ := hw
        go_simp
        try with_reducible rfl
      try simp only [Act.put, List.setIfInBounds_toArray, List.set_cons_zero, List.set_cons_succ]
      refine readyL (i := 34) rfl (by kernel_rfl) (by kernel_rfl) fun K hK => ?_
      go_simp
      refine (HC.out w10 H10.out).mono ?_
      rintro e w11 ⟨rfl, rfl⟩
      refine hK.out _ _ HS10.out ?_
      clear hK K
      try simp only [Act.put, List.setIfInBounds_toArray, List.set_cons_zero, List.set_cons_succ]
      refine takeL (i := 35) (v := ?_) rfl (by kernel_rfl) (by kernel_rfl) (by kernel_rfl) (fun _ _ _ h => h) (Or.inl ⟨by rfl, ?_⟩) HS10.out ?_
      rotate_left
      · intro w hw
        try dsimp only at hw
        go_simp
        try with_reducible rfl
      try simp only [Act.put, List.setIfInBounds_toArray, List.set_cons_zero, List.set_cons_succ]
      refine takeL (i := 36) (v := ?_) rfl (by kernel_rfl) (by kernel_rfl) (by kernel_rfl) (fun _ _ _ h => h) (Or.inl ⟨by rfl, ?_⟩) HS10.out ?_
      rotate_left
      · intro w hw
        try dsimp only at hw
        go_simp
        try with_reducible rfl
      try simp only [Act.put, List.setIfInBounds_toArray, List.set_cons_zero, List.set_cons_succ]
      refine wpAnyH_done (by kernel_rfl) ?_ _
      go_wp2_with fail
      go_roundw
      case rel => exact ⟨1, by omega, by go_num, H10.out⟩
      case measure => simp [intOf]
    | 1, _ =>
      have HSS : Hid (∀ V : World, None6 V lb pb bx ⟨KA, kn, kc, LA, ln, lc⟩ x w → V.cell? ⟨lb, 1, none⟩ = some (.pointer (some ⟨pb, 0, none⟩)) ∧ (∀ j u, X[j]? = some u → V.cell? ((⟨bx, 1, none⟩ : Addr).add j) = some u) ∧ V.cell? ⟨bx, 33, none⟩ = some (.slice KA kn kc) ∧ V.cell? ⟨bx, 34, none⟩ = some (.slice LA ln lc)) := Lib.hid fun V hV => ⟨hV.l.cell 1, HC33.out V hV⟩
      have HNO : Hid (∀ V : World, None6 V lb pb bx ⟨KA, kn, kc, LA, ln, lc⟩ x w → NoReg V (.pointer (some ⟨pb, 0, none⟩))) := Lib.hid fun V hV => .inr ⟨pb, rfl, hV.p⟩
      have HF := Lib.hid (fun V hV => HXX.out ▸ findNo (.pointer (some ⟨pb, 0, none⟩)) x.tab V (HNO.out V hV))
      have HP := Lib.hid (fun V hV => HXX.out ▸ putNo (.pointer (some ⟨pb, 0, none⟩)) (.slice KA kn kc) x.tab V (HNO.out V hV))
      have HR := Lib.hid (fun V hV => resolveNo (.pointer (some ⟨pb, 0, none⟩)) (.slice LA ln lc) V (HNO.out V hV))
      have HC := Lib.hid (fun V hV => copyNo (.pointer (some ⟨pb, 0, none⟩)) V (HNO.out V hV))
      go_wp2_with fail
      have HS5 := Lib.hid (HSS.out _ H.out.drew)
      have H5 := Lib.hid H.out.drew
      refine wp_region_held_drew (S := (fun V => V.cell? ⟨lb, 1, none⟩ = some (.pointer (some ⟨pb, 0, none⟩)) ∧ (∀ j u, X[j]? = some u → V.cell? ((⟨bx, 1, none⟩ : Addr).add j) = some u) ∧ V.cell? ⟨bx, 33, none⟩ = some (.slice KA kn kc) ∧ V.cell? ⟨bx, 34, none⟩ = some (.slice LA ln lc))) (by kernel_rfl) HS5.out (fun _ => ?_)
      generalize wr.drew = V5 at *
      refine takeL (i := 0) (v := ?_) rfl (by kernel_rfl) (by kernel_rfl) (by kernel_rfl) (fun _ _ _ h => h) (Or.inl ⟨by rfl, ?_⟩) HS5.out ?_
      rotate_left
      · intro w hw
        try dsimp only at hw
        go_simp
        try with_reducible rfl
      try simp only [Act.put, List.setIfInBounds_toArray, List.set_cons_zero, List.set_cons_succ]
      refine takeL (i := 1) (v := ?_) rfl (by kernel_rfl) (by kernel_rfl) (by kernel_rfl) (fun _ _ _ h => h) (Or.inl ⟨by rfl, ?_⟩) HS5.out ?_
      rotate_left
      · intro w hw
        try dsimp only at hw
        go_simp
        try with_reducible rfl
      try simp only [Act.put, List.setIfInBounds_toArray, List.set_cons_zero, List.set_cons_succ]
      refine takeL (i := 2) (v := ?_) rfl (by kernel_rfl) (by kernel_rfl) (by kernel_rfl) (fun _ _ _ h => h) (Or.inl ⟨by rfl, ?_⟩) HS5.out ?_
      rotate_left
      · intro w hw
        try dsimp only at hw
        go_simp
        try with_reducible rfl
      try simp only [Act.put, List.setIfInBounds_toArray, List.set_cons_zero, List.set_cons_succ]
      refine takeL (i := 3) (v := ?_) rfl (by kernel_rfl) (by kernel_rfl) (by kernel_rfl) (fun _ _ _ h => h) (Or.inl ⟨by rfl, ?_⟩) HS5.out ?_
      rotate_left
      · intro w hw
        try dsimp only at hw
        obtain ⟨q0, q1, q2, q3⟩ := hw
        go_simp
        try with_reducible rfl
      try simp only [Act.put, List.setIfInBounds_toArray, List.set_cons_zero, List.set_cons_succ]
      refine takeL (i := 4) (v := ?_) rfl (by kernel_rfl) (by kernel_rfl) (by kernel_rfl) (fun _ _ _ h => h) (Or.inl ⟨by rfl, ?_⟩) HS5.out ?_
      rotate_left
      · intro w hw
        try dsimp only at hw
        go_simp
        try with_reducible rfl
      try simp only [Act.put, List.setIfInBounds_toArray, List.set_cons_zero, List.set_cons_succ]
      refine takeL (i := 5) (v := .agg X.toArray) rfl (by kernel_rfl) (by kernel_rfl) (by kernel_rfl) (fun _ _ _ h => h) (Or.inl ⟨by rfl, fun wz hwz => exec_load_at wz 32 (.tmp 24) rfl ⟨bx, 1, none⟩ X _ Try.underlying32 rfl HSX.out hwz.2.1 (by go_simp)⟩) HS5.out ?_
      try simp only [Act.put, List.setIfInBounds_toArray, List.set_cons_zero, List.set_cons_succ]
      refine readyL (i := 6) rfl (by kernel_rfl) (by kernel_rfl) fun K hK => ?_
      go_simp
      refine (HF.out V5 H5.out).mono ?_
      rintro e w6 ⟨rfl, hb6⟩
      have H6 := Lib.hid (H5.out.below hb6)
      have HS6 := Lib.hid (HSS.out _ H6.out)
      clear hb6
      unfold nilK
      refine hK.out _ _ HS6.out ?_
      clear hK K
      try simp only [Act.put, List.setIfInBounds_toArray, List.set_cons_zero, List.set_cons_succ]
      refine takeL (i := 7) (v := ?_) rfl (by kernel_rfl) (by kernel_rfl) (by kernel_rfl) (fun _ _ _ h => h) (Or.inl ⟨by rfl, ?_⟩) HS6.out ?_
      rotate_left
      · intro w hw
        try dsimp only at hw
        go_simp
        try with_reducible rfl
      try simp only [Act.put, List.setIfInBounds_toArray, List.set_cons_zero, List.set_cons_succ]
      refine takeL (i := 8) (v := ?_) rfl (by kernel_rfl) (by kernel_rfl) (by kernel_rfl) (fun _ _ _ h => h) (Or.inl ⟨by rfl, ?_⟩) HS6.out ?_
      rotate_left
      · intro w hw
        try dsimp only at hw
        go_simp
        try with_reducible rfl
      try simp only [Act.put, List.setIfInBounds_toArray, List.set_cons_zero, List.set_cons_succ]
      refine takeL (i := 9) (v := ?_) rfl (by kernel_rfl) (by kernel_rfl) (by kernel_rfl) (fun _ _ _ h => h) (Or.inl ⟨by rfl, ?_⟩) HS6.out ?_
      rotate_left
      · intro w hw
        try dsimp only at hw
        go_simp
        try with_reducible rfl
      try simp only [Act.put, List.setIfInBounds_toArray, List.set_cons_zero, List.set_cons_succ]
      refine takeL (i := 10) (v := ?_) rfl (by kernel_rfl) (by kernel_rfl) (by kernel_rfl) (fun _ _ _ h => h) (Or.inl ⟨by rfl, ?_⟩) HS6.out ?_
      rotate_left
      · intro w hw
        try dsimp only at hw
        go_simp
        try with_reducible rfl
      try simp only [Act.put, List.setIfInBounds_toArray, List.set_cons_zero, List.set_cons_succ]
      refine takeL (i := 11) (v := ?_) rfl (by kernel_rfl) (by kernel_rfl) (by kernel_rfl) (fun _ _ _ h => h) (Or.inl ⟨by rfl, ?_⟩) HS6.out ?_
      rotate_left
      · intro w hw
        try dsimp only at hw
        go_simp
        try with_reducible rfl
      try simp only [Act.put, List.setIfInBounds_toArray, List.set_cons_zero, List.set_cons_succ]
      refine wpAnyH_done (by kernel_rfl) ?_ _
      go_wp2_with fail
      have HS7 := Lib.hid (HSS.out _ H6.out.drew)
      have H7 := Lib.hid H6.out.drew
      refine wp_region_held_drew (S := (fun V => V.cell? ⟨lb, 1, none⟩ = some (.pointer (some ⟨pb, 0, none⟩)) ∧ (∀ j u, X[j]? = some u → V.cell? ((⟨bx, 1, none⟩ : Addr).add j) = some u) ∧ V.cell? ⟨bx, 33, none⟩ = some (.slice KA kn kc) ∧ V.cell? ⟨bx, 34, none⟩ = some (.slice LA ln lc))) (by kernel_rfl) HS7.out (fun _ => ?_)
      generalize w6.drew = V7 at *
      refine takeL (i := 0) (v := ?_) rfl (by kernel_rfl) (by kernel_rfl) (by kernel_rfl) (fun _ _ _ h => h) (Or.inl ⟨by rfl, ?_⟩) HS7.out ?_
      rotate_left
      · intro w hw
        try dsimp only at hw
        go_simp
        try with_reducible rfl
      try simp only [Act.put, List.setIfInBounds_toArray, List.set_cons_zero, List.set_cons_succ]
      refine takeL (i := 1) (v := ?_) rfl (by kernel_rfl) (by kernel_rfl) (by kernel_rfl) (fun _ _ _ h => h) (Or.inl ⟨by rfl, ?_⟩) HS7.out ?_
      rotate_left
      · intro w hw
        try dsimp only at hw
        go_simp
        try with_reducible rfl
      try simp only [Act.put, List.setIfInBounds_toArray, List.set_cons_zero, List.set_cons_succ]
      refine takeL (i := 2) (v := ?_) rfl (by kernel_rfl) (by kernel_rfl) (by kernel_rfl) (fun _ _ _ h => h) (Or.inl ⟨by rfl, ?_⟩) HS7.out ?_
      rotate_left
      · intro w hw
        try dsimp only at hw
        go_simp
        try with_reducible rfl
      try simp only [Act.put, List.setIfInBounds_toArray, List.set_cons_zero, List.set_cons_succ]
      refine takeL (i := 3) (v := ?_) rfl (by kernel_rfl) (by kernel_rfl) (by kernel_rfl) (fun _ _ _ h => h) (Or.inl ⟨by rfl, ?_⟩) HS7.out ?_
      rotate_left
      · intro w hw
        try dsimp only at hw
        obtain ⟨q0, q1, q2, q3⟩ := hw
        go_simp
        try with_reducible rfl
      try simp only [Act.put, List.setIfInBounds_toArray, List.set_cons_zero, List.set_cons_succ]
      refine takeL (i := 4) (v := ?_) rfl (by kernel_rfl) (by kernel_rfl) (by kernel_rfl) (fun _ _ _ h => h) (Or.inl ⟨by rfl, ?_⟩) HS7.out ?_
      rotate_left
      · intro w hw
        try dsimp only at hw
        go_simp
        try with_reducible rfl
      try simp only [Act.put, List.setIfInBounds_toArray, List.set_cons_zero, List.set_cons_succ]
      refine takeL (i := 5) (v := ?_) rfl (by kernel_rfl) (by kernel_rfl) (by kernel_rfl) (fun _ _ _ h => h) (Or.inl ⟨by rfl, ?_⟩) HS7.out ?_
      rotate_left
      · intro w hw
        try dsimp only at hw
        obtain ⟨q0, q1, q2, q3⟩ := hw
        go_simp
        try with_reducible rfl
      try simp only [Act.put, List.setIfInBounds_toArray, List.set_cons_zero, List.set_cons_succ]
      refine readyL (i := 6) rfl (by kernel_rfl) (by kernel_rfl) fun K hK => ?_
      go_simp
      refine (HR.out V7 H7.out).mono ?_
      rintro e w8 ⟨rfl, rfl⟩
      unfold nilK
      refine hK.out _ _ HS7.out ?_
      clear hK K
      try simp only [Act.put, List.setIfInBounds_toArray, List.set_cons_zero, List.set_cons_succ]
      refine takeL (i := 7) (v := ?_) rfl (by kernel_rfl) (by kernel_rfl) (by kernel_rfl) (fun _ _ _ h => h) (Or.inl ⟨by rfl, ?_⟩) HS7.out ?_
      rotate_left
      · intro w hw
        try dsimp only at hw
        go_simp
        try with_reducible rfl
      try simp only [Act.put, List.setIfInBounds_toArray, List.set_cons_zero, List.set_cons_succ]
      refine takeL (i := 8) (v := ?_) rfl (by kernel_rfl) (by kernel_rfl) (by kernel_rfl) (fun _ _ _ h => h) (Or.inl ⟨by rfl, ?_⟩) HS7.out ?_
      rotate_left
      · intro w hw
        try dsimp only at hw
        go_simp
        try with_reducible rfl
      try simp only [Act.put, List.setIfInBounds_toArray, List.set_cons_zero, List.set_cons_succ]
      refine takeL (i := 9) (v := ?_) rfl (by kernel_rfl) (by kernel_rfl) (by kernel_rfl) (fun _ _ _ h => h) (Or.inl ⟨by rfl, ?_⟩) HS7.out ?_
      rotate_left
      · intro w hw
        try dsimp only at hw
        go_simp
        try with_reducible rfl
      try simp only [Act.put, List.setIfInBounds_toArray, List.set_cons_zero, List.set_cons_succ]
      refine takeL (i := 10) (v := ?_) rfl (by kernel_rfl) (by kernel_rfl) (by kernel_rfl) (fun _ _ _ h => h) (Or.inl ⟨by rfl, ?_⟩) HS7.out ?_
      rotate_left
      · intro w hw
        try dsimp only at hw
        go_simp
        try with_reducible rfl
      try simp only [Act.put, List.setIfInBounds_toArray, List.set_cons_zero, List.set_cons_succ]
      refine takeL (i := 11) (v := ?_) rfl (by kernel_rfl) (by kernel_rfl) (by kernel_rfl) (fun _ _ _ h => h) (Or.inl ⟨by rfl, ?_⟩) HS7.out ?_
      rotate_left
      · intro w hw
        try dsimp only at hw
        go_simp
        try with_reducible rfl
      try simp only [Act.put, List.setIfInBounds_toArray, List.set_cons_zero, List.set_cons_succ]
      refine takeL (i := 12) (v := ?_) rfl (by kernel_rfl) (by kernel_rfl) (by kernel_rfl) (fun _ _ _ h => h) (Or.inl ⟨by rfl, ?_⟩) HS7.out ?_
      rotate_left
      · intro w hw
        try dsimp only at hw
        go_simp
        try with_reducible rfl
      try simp only [Act.put, List.setIfInBounds_toArray, List.set_cons_zero, List.set_cons_succ]
      refine takeL (i := 13) (v := ?_) rfl (by kernel_rfl) (by kernel_rfl) (by kernel_rfl) (fun _ _ _ h => h) (Or.inl ⟨by rfl, ?_⟩) HS7.out ?_
      rotate_left
      · intro w hw
        try dsimp only at hw
        go_simp
        try with_reducible rfl
      try simp only [Act.put, List.setIfInBounds_toArray, List.set_cons_zero, List.set_cons_succ]
      refine wpAnyH_done (by kernel_rfl) ?_ _
      go_wp2_with fail
      have HS9 := Lib.hid (HSS.out _ H7.out.drew)
      have H9 := Lib.hid H7.out.drew
      refine wp_region_held_drew (S := (fun V => V.cell? ⟨lb, 1, none⟩ = some (.pointer (some ⟨pb, 0, none⟩)) ∧ (∀ j u, X[j]? = some u → V.cell? ((⟨bx, 1, none⟩ : Addr).add j) = some u) ∧ V.cell? ⟨bx, 33, none⟩ = some (.slice KA kn kc) ∧ V.cell? ⟨bx, 34, none⟩ = some (.slice LA ln lc))) (by kernel_rfl) HS9.out (fun _ => ?_)
      generalize V7.drew = V9 at *
      refine takeL (i := 0) (v := ?_) rfl (by kernel_rfl) (by kernel_rfl) (by kernel_rfl) (fun _ _ _ h => h) (Or.inl ⟨by rfl, ?_⟩) HS9.out ?_
      rotate_left
      · intro w hw
        try dsimp only at hw
        go_simp
        try with_reducible rfl
      try simp only [Act.put, List.setIfInBounds_toArray, List.set_cons_zero, List.set_cons_succ]
      refine takeL (i := 1) (v := ?_) rfl (by kernel_rfl) (by kernel_rfl) (by kernel_rfl) (fun _ _ _ h => h) (Or.inl ⟨by rfl, ?_⟩) HS9.out ?_
      rotate_left
      · intro w hw
        try dsimp only at hw
        go_simp
        try with_reducible rfl
      try simp only [Act.put, List.setIfInBounds_toArray, List.set_cons_zero, List.set_cons_succ]
      refine takeL (i := 2) (v := ?_) rfl (by kernel_rfl) (by kernel_rfl) (by kernel_rfl) (fun _ _ _ h => h) (Or.inl ⟨by rfl, ?_⟩) HS9.out ?_
      rotate_left
      · intro w hw
        try dsimp only at hw
        go_simp
        try with_reducible rfl
      try simp only [Act.put, List.setIfInBounds_toArray, List.set_cons_zero, List.set_cons_succ]
      refine takeL (i := 3) (v := ?_) rfl (by kernel_rfl) (by kernel_rfl) (by kernel_rfl) (fun _ _ _ h => h) (Or.inl ⟨by rfl, ?_⟩) HS9.out ?_
      rotate_left
      · intro w hw
        try dsimp only at hw
        obtain ⟨q0, q1, q2, q3⟩ := hw
        go_simp
        try with_reducible rfl
      try simp only [Act.put, List.setIfInBounds_toArray, List.set_cons_zero, List.set_cons_succ]
      refine takeL (i := 4) (v := ?_) rfl (by kernel_rfl) (by kernel_rfl) (by kernel_rfl) (fun _ _ _ h => h) (Or.inl ⟨by rfl, ?_⟩) HS9.out ?_
      rotate_left
      · intro w hw
        try dsimp only at hw
        go_simp
        try with_reducible rfl
      try simp only [Act.put, List.setIfInBounds_toArray, List.set_cons_zero, List.set_cons_succ]
      refine takeL (i := 5) (v := .agg X.toArray) rfl (by kernel_rfl) (by kernel_rfl) (by kernel_rfl) (fun _ _ _ h => h) (Or.inl ⟨by rfl, fun wz hwz => exec_load_at wz 32 (.tmp 44) rfl ⟨bx, 1, none⟩ X _ Try.underlying32 rfl HSX.out hwz.2.1 (by go_simp)⟩) HS9.out ?_
      try simp only [Act.put, List.setIfInBounds_toArray, List.set_cons_zero, List.set_cons_succ]
      refine takeL (i := 6) (v := ?_) rfl (by kernel_rfl) (by kernel_rfl) (by kernel_rfl) (fun _ _ _ h => h) (Or.inl ⟨by rfl, ?_⟩) HS9.out ?_
      rotate_left
      · intro w hw
        try dsimp only at hw
        go_simp
        try with_reducible rfl
      try simp only [Act.put, List.setIfInBounds_toArray, List.set_cons_zero, List.set_cons_succ]
      refine takeL (i := 7) (v := ?_) rfl (by kernel_rfl) (by kernel_rfl) (by kernel_rfl) (fun _ _ _ h => h) (Or.inl ⟨by rfl, ?_⟩) HS9.out ?_
      rotate_left
      · intro w hw
        try dsimp only at hw
        obtain ⟨q0, q1, q2, q3⟩ := hw
        go_simp
        try with_reducible rfl
      try simp only [Act.put, List.setIfInBounds_toArray, List.set_cons_zero, List.set_cons_succ]
      refine readyL (i := 8) rfl (by kernel_rfl) (by kernel_rfl) fun K hK => ?_
      go_simp
      refine (HP.out V9 H9.out).mono ?_
      rintro e w10 ⟨rfl, hb10⟩
      have H10 := Lib.hid (H9.out.below hb10)
      have HS10 := Lib.hid (HSS.out _ H10.out)
      clear hb10
      refine hK.out _ _ HS10.out ?_
      clear hK K
      try simp only [Act.put, List.setIfInBounds_toArray, List.set_cons_zero, List.set_cons_succ]
      refine takeL (i := 9) (v := ?_) rfl (by kernel_rfl) (by kernel_rfl) (by kernel_rfl) (fun _ _ _ h => h) (Or.inl ⟨by rfl, ?_⟩) HS10.out ?_
      rotate_left
      · intro w hw
        try dsimp only at hw
        go_simp
        try with_reducible rfl
      try simp only [Act.put, List.setIfInBounds_toArray, List.set_cons_zero, List.set_cons_succ]
      refine takeL (i := 10) (v := ?_) rfl (by kernel_rfl) (by kernel_rfl) (by kernel_rfl) (fun _ _ _ h => h) (Or.inl ⟨by rfl, ?_⟩) HS10.out ?_
      rotate_left
      · intro w hw
        try dsimp only at hw
        go_simp
        try with_reducible rfl
      try simp only [Act.put, List.setIfInBounds_toArray, List.set_cons_zero, List.set_cons_succ]
      refine takeL (i := 11) (v := ?_) rfl (by kernel_rfl) (by kernel_rfl) (by kernel_rfl) (fun _ _ _ h => h) (Or.inl ⟨by rfl, ?_⟩) HS10.out ?_
      rotate_left
      · intro w hw
        try dsimp only at hw
        go_simp
        try with_reducible rfl
      try simp only [Act.put, List.setIfInBounds_toArray, List.set_cons_zero, List.set_cons_succ]
      refine takeL (i := 12) (v := ?_) rfl (by kernel_rfl) (by kernel_rfl) (by kernel_rfl) (fun _ _ _ h => h) (Or.inl ⟨by rfl, ?_⟩) HS10.out ?_
      rotate_left
      · intro w hw
        try dsimp only at hw
        go_simp
        try with_reducible rfl
      try simp only [Act.put, List.setIfInBounds_toArray, List.set_cons_zero, List.set_cons_succ]
      refine takeL (i := 13) (v := ?_) rfl (by kernel_rfl) (by kernel_rfl) (by kernel_rfl) (fun _ _ _ h => h) (Or.inl ⟨by rfl, ?_⟩) HS10.out ?_
      rotate_left
      · intro w hw
        try dsimp only at hw
        go_simp
        try with_reducible rfl
      try simp only [Act.put, List.setIfInBounds_toArray, List.set_cons_zero, List.set_cons_succ]
      refine takeL (i := 14) (v := ?_) rfl (by kernel_rfl) (by kernel_rfl) (by kernel_rfl) (fun _ _ _ h => h) (Or.inl ⟨by rfl, ?_⟩) HS10.out ?_
      rotate_left
      · intro w hw
        try dsimp only at hw
        go_simp
        try with_reducible rfl
      try simp only [Act.put, List.setIfInBounds_toArray, List.set_cons_zero, List.set_cons_succ]
      refine takeL (i := 15) (v := ?_) rfl (by kernel_rfl) (by kernel_rfl) (by kernel_rfl) (fun _ _ _ h => h) (Or.inl ⟨by rfl, ?_⟩) HS10.out ?_
      rotate_left
      · intro w hw
        try dsimp only at hw
        go_simp
        try with_reducible rfl
      try simp only [Act.put, List.setIfInBounds_toArray, List.set_cons_zero, List.set_cons_succ]
      refine takeL (i := 16) (v := ?_) rfl (by kernel_rfl) (by kernel_rfl) (by kernel_rfl) (fun _ _ _ h => h) (Or.inl ⟨by rfl, ?_⟩) HS10.out ?_
      rotate_left
      · intro w hw
        try dsimp only at hw
        go_simp
        try with_reducible rfl
      try simp only [Act.put, List.setIfInBounds_toArray, List.set_cons_zero, List.set_cons_succ]
      refine takeL (i := 17) (v := ?_) rfl (by kernel_rfl) (by kernel_rfl) (by kernel_rfl) (fun _ _ _ h => h) (Or.inl ⟨by rfl, ?_⟩) HS10.out ?_
      rotate_left
      · intro w hw
        try dsimp only at hw
        go_simp
        try with_reducible rfl
      try simp only [Act.put, List.setIfInBounds_toArray, List.set_cons_zero, List.set_cons_succ]
      refine takeL (i := 18) (v := ?_) rfl (by kernel_rfl) (by kernel_rfl) (by kernel_rfl) (fun _ _ _ h => h) (Or.inl ⟨by rfl, ?_⟩) HS10.out ?_
      rotate_left
      · intro w hw
        try dsimp only at hw
        go_simp
        try with_reducible rfl
      try simp only [Act.put, List.setIfInBounds_toArray, List.set_cons_zero, List.set_cons_succ]
      refine takeL (i := 19) (v := ?_) rfl (by kernel_rfl) (by kernel_rfl) (by kernel_rfl) (fun _ _ _ h => h) (Or.inl ⟨by rfl, ?_⟩) HS10.out ?_
      rotate_left
      · intro w hw
        try dsimp only at hw
        go_simp
        try with_reducible rfl
      try simp only [Act.put, List.setIfInBounds_toArray, List.set_cons_zero, List.set_cons_succ]
      refine takeL (i := 20) (v := ?_) rfl (by kernel_rfl) (by kernel_rfl) (by kernel_rfl) (fun _ _ _ h => h) (Or.inl ⟨by rfl, ?_⟩) HS10.out ?_
      rotate_left
      · intro w hw
        try dsimp only at hw
        go_simp
        try with_reducible rfl
      try simp only [Act.put, List.setIfInBounds_toArray, List.set_cons_zero, List.set_cons_succ]
      refine takeL (i := 21) (v := ?_) rfl (by kernel_rfl) (by kernel_rfl) (by kernel_rfl) (fun _ _ _ h => h) (Or.inl ⟨by rfl, ?_⟩) HS10.out ?_
      rotate_left
      · intro w hw
        try dsimp only at hw
        go_simp
        try with_reducible rfl
      try simp only [Act.put, List.setIfInBounds_toArray, List.set_cons_zero, List.set_cons_succ]
      refine takeL (i := 22) (v := ?_) rfl (by kernel_rfl) (by kernel_rfl) (by kernel_rfl) (fun _ _ _ h => h) (Or.inl ⟨by rfl, ?_⟩) HS10.out ?_
      rotate_left
      · intro w hw
        try dsimp only at hw
        go_simp
        try with_reducible rfl
      try simp only [Act.put, List.setIfInBounds_toArray, List.set_cons_zero, List.set_cons_succ]
      refine takeL (i := 23) (v := ?_) rfl (by kernel_rfl) (by kernel_rfl) (by kernel_rfl) (fun _ _ _ h => h) (Or.inl ⟨by rfl, ?_⟩) HS10.out ?_
      rotate_left
      · intro w hw
        try dsimp only at hw
        go_simp
        try with_reducible rfl
      try simp only [Act.put, List.setIfInBounds_toArray, List.set_cons_zero, List.set_cons_succ]
      refine takeL (i := 24) (v := ?_) rfl (by kernel_rfl) (by kernel_rfl) (by kernel_rfl) (fun _ _ _ h => h) (Or.inl ⟨by rfl, ?_⟩) HS10.out ?_
      rotate_left
      · intro w hw
        try dsimp only at hw
        go_simp
        try with_reducible rfl
      try simp only [Act.put, List.setIfInBounds_toArray, List.set_cons_zero, List.set_cons_succ]
      refine takeL (i := 25) (v := ?_) rfl (by kernel_rfl) (by kernel_rfl) (by kernel_rfl) (fun _ _ _ h => h) (Or.inl ⟨by rfl, ?_⟩) HS10.out ?_
      rotate_left
      · intro w hw
        try dsimp only at hw
        go_simp
        try with_reducible rfl
      try simp only [Act.put, List.setIfInBounds_toArray, List.set_cons_zero, List.set_cons_succ]
      refine takeL (i := 26) (v := ?_) rfl (by kernel_rfl) (by kernel_rfl) (by kernel_rfl) (fun _ _ _ h => h) (Or.inl ⟨by rfl, ?_⟩) HS10.out ?_
      rotate_left
      · intro w hw
        try dsimp only at hw
        go_simp
        try with_reducible rfl
      try simp only [Act.put, List.setIfInBounds_toArray, List.set_cons_zero, List.set_cons_succ]
      refine takeL (i := 27) (v := ?_) rfl (by kernel_rfl) (by kernel_rfl) (by kernel_rfl) (fun _ _ _ h => h) (Or.inl ⟨by rfl, ?_⟩) HS10.out ?_
      rotate_left
      · intro w hw
        try dsimp only at hw
        go_simp
        try with_reducible rfl
      try simp only [Act.put, List.setIfInBounds_toArray, List.set_cons_zero, List.set_cons_succ]
      refine takeL (i := 28) (v := ?_) rfl (by kernel_rfl) (by kernel_rfl) (by kernel_rfl) (fun _ _ _ h => h) (Or.inl ⟨by rfl, ?_⟩) HS10.out ?_
      rotate_left
      · intro w hw
        try dsimp only at hw
        go_simp
        try with_reducible rfl
      try simp only [Act.put, List.setIfInBounds_toArray, List.set_cons_zero, List.set_cons_succ]
      refine takeL (i := 29) (v := ?_) rfl (by kernel_rfl) (by kernel_rfl) (by kernel_rfl) (fun _ _ _ h => h) (Or.inl ⟨by rfl, ?_⟩) HS10.out ?_
      rotate_left
      · intro w hw
        try dsimp only at hw
        go_simp
        try with_reducible rfl
      try simp only [Act.put, List.setIfInBounds_toArray, List.set_cons_zero, List.set_cons_succ]
      refine takeL (i := 30) (v := ?_) rfl (by kernel_rfl) (by kernel_rfl) (by kernel_rfl) (fun _ _ _ h => h) (Or.inl ⟨by rfl, ?_⟩) HS10.out ?_
      rotate_left
      · intro w hw
        try dsimp only at hw
        go_simp
        try with_reducible rfl
      try simp only [Act.put, List.setIfInBounds_toArray, List.set_cons_zero, List.set_cons_succ]
      refine takeL (i := 31) (v := ?_) rfl (by kernel_rfl) (by kernel_rfl) (by kernel_rfl) (fun _ _ _ h => h) (Or.inl ⟨by rfl, ?_⟩) HS10.out ?_
      rotate_left
      · intro w hw
        try dsimp only at hw
        go_simp
        try with_reducible rfl
      try simp only [Act.put, List.setIfInBounds_toArray, List.set_cons_zero, List.set_cons_succ]
      refine takeL (i := 32) (v := ?_) rfl (by kernel_rfl) (by kernel_rfl) (by kernel_rfl) (fun _ _ _ h => h) (Or.inl ⟨by rfl, ?_⟩) HS10.out ?_
      rotate_left
      · intro w hw
        try dsimp only at hw
        go_simp
        try with_reducible rfl
      try simp only [Act.put, List.setIfInBounds_toArray, List.set_cons_zero, List.set_cons_succ]
      refine takeL (i := 33) (v := ?_) rfl (by kernel_rfl) (by kernel_rfl) (by kernel_rfl) (fun _ _ _ h => h) (Or.inl ⟨by rfl, ?_⟩) HS10.out ?_
      rotate_left
      · intro w hw
        try dsimp only at hw
        obtain ⟨q0, q1, q2, q3⟩ := hw
        go_simp
        try with_reducible rfl
      try simp only [Act.put, List.setIfInBounds_toArray, List.set_cons_zero, List.set_cons_succ]
      refine readyL (i := 34) rfl (by kernel_rfl) (by kernel_rfl) fun K hK => ?_
      go_simp
      refine (HC.out w10 H10.out).mono ?_
      rintro e w11 ⟨rfl, rfl⟩
      refine hK.out _ _ HS10.out ?_
      clear hK K
      try simp only [Act.put, List.setIfInBounds_toArray, List.set_cons_zero, List.set_cons_succ]
      refine takeL (i := 35) (v := ?_) rfl (by kernel_rfl) (by kernel_rfl) (by kernel_rfl) (fun _ _ _ h => h) (Or.inl ⟨by rfl, ?_⟩) HS10.out ?_
      rotate_left
      · intro w hw
        try dsimp only at hw
        go_simp
        try with_reducible rfl
      try simp only [Act.put, List.setIfInBounds_toArray, List.set_cons_zero, List.set_cons_succ]
      refine takeL (i := 36) (v := ?_) rfl (by kernel_rfl) (by kernel_rfl) (by kernel_rfl) (fun _ _ _ h => h) (Or.inl ⟨by rfl, ?_⟩) HS10.out ?_
      rotate_left
      · intro w hw
        try dsimp only at hw
        go_simp
        try with_reducible rfl
      try simp only [Act.put, List.setIfInBounds_toArray, List.set_cons_zero, List.set_cons_succ]
      refine wpAnyH_done (by kernel_rfl) ?_ _
      go_wp2_with fail
      go_roundw
      case rel => exact ⟨2, by omega, by go_num, H10.out⟩
      case measure => simp [intOf]
    | 2, _ =>
      go_wp2_with fail
      refine (lives6 _).mono ?_
      rintro e w' ⟨rfl, hb⟩
      have HBB := Lib.hid (H.out.b.trans (hb.mono H.out.b.size))
      clear hb
      go_wp2_with fail
      go_ret
      exact ⟨rfl, HBB.out⟩
end Go.Proofs.Ytdbcbjjomhbhpaa

/-
  Of part Elems: what is needed here.
-/
namespace Go.Proofs.Ytdbcbjjomhbhpaa
open Go.RowKit
set_option linter.unusedVariables false
/-- elements as cells, each of them size cells long -/
structure Elems {α : Type} (size : Nat) (E : World → Nat → List Value → α → Prop) (w : World) (B : Nat) (l : List α) (css : List (List Value)) : Prop where
  len : css.length = l.length
  at_ : ∀ (i : Nat) (x : α) (cs : List Value), l[i]? = some x → css[i]? = some cs → E w B cs x ∧ cs.length = size ∧ ∀ u ∈ cs, u.oneCell' = true
section
variable {α : Type} {size : Nat} {E : World → Nat → List Value → α → Prop} {w w' : World} {B B' : Nat} {l l' : List α} {css css' : List (List Value)}
theorem Elems.nil : Elems size E w B ([] : List α) [] := ⟨rfl, fun i x cs h => by simp at h⟩
theorem Elems.size_ (h : Elems size E w B l css) : ∀ (i : Nat) y, css[i]? = some y → y.length = size := fun i y hy => by
  have hi := (List.getElem?_eq_some_iff.1 hy).1
  exact (h.at_ i _ y (List.getElem?_eq_getElem (by rw [← h.len]; exact hi)) hy).2.1
theorem flatten_length {size : Nat} : ∀ (css : List (List Value)), (∀ y ∈ css, y.length = size) → css.flatten.length = css.length * size
  | [], _ => by simp
  | y :: r, h => by
    rw [List.flatten_cons, List.length_append, flatten_length r (fun z hz => h z (List.mem_cons_of_mem _ hz)), h y (by simp), List.length_cons, Nat.add_mul]
    omega
theorem Elems.flat (h : Elems size E w B l css) : css.flatten.length = l.length * size := by
  rw [flatten_length css (fun y hy => by obtain ⟨i, hi, rfl⟩ := List.getElem_of_mem hy; exact h.size_ i _ (List.getElem?_eq_getElem hi)), h.len]
theorem Elems.one (h : Elems size E w B l css) : ∀ u ∈ css.flatten, u.oneCell' = true := fun u hu => by
  obtain ⟨cs, hcs, hu⟩ := List.mem_flatten.1 hu
  obtain ⟨i, hi, rfl⟩ := List.getElem_of_mem hcs
  exact (h.at_ i _ _ (List.getElem?_eq_getElem (by rw [← h.len]; exact hi)) (List.getElem?_eq_getElem hi)).2.2 u hu
theorem Elems.app (h : Elems size E w B l css) (h' : Elems size E w B l' css') : Elems size E w B (l ++ l') (css ++ css') :=
  ⟨by rw [List.length_append, List.length_append, h.len, h'.len], fun i x cs hx hcs => by
    by_cases hi : i < l.length
    · rw [List.getElem?_append_left hi] at hx
      rw [List.getElem?_append_left (by rw [h.len]; exact hi)] at hcs
      exact h.at_ i x cs hx hcs
    · rw [List.getElem?_append_right (by omega)] at hx
      rw [List.getElem?_append_right (by rw [h.len]; omega), h.len] at hcs
      exact h'.at_ _ x cs hx hcs⟩
theorem Elems.map (h : Elems size E w B l css) (hm : ∀ cs x, E w B cs x → E w' B' cs x) : Elems size E w' B' l css :=
  ⟨h.len, fun i x cs hx hcs => by
    obtain ⟨a, b⟩ := h.at_ i x cs hx hcs
    exact ⟨hm _ _ a, b⟩⟩
theorem Elems.get (h : Elems size E w B l css) {A : Option Addr} {C : Nat} (hs : Sees w C A (l.length * size) css.flatten) {k : Nat} (hk : k < l.length) (h0 : 0 < size) :
    ∃ a x cs, A = some a ∧ a.block < C ∧ l[k]? = some x ∧ css[k]? = some cs ∧ E w B cs x ∧ cs.length = size ∧ (∀ j u, cs[j]? = some u → w.cell? ((a.add (k * size)).add j) = some u) ∧ ∀ u ∈ cs, u.oneCell' = true := by
  have hx := List.getElem?_eq_getElem (l := l) (i := k) hk
  have hcs := List.getElem?_eq_getElem (l := css) (i := k) (by rw [h.len]; exact hk)
  obtain ⟨e1, e2, e3⟩ := h.at_ k _ _ hx hcs
  have hat := flatten_at size css k _ h.size_ hcs
  obtain ⟨u0, hu0⟩ : ∃ u, (css[k]'(by rw [h.len]; exact hk))[0]? = some u := ⟨_, List.getElem?_eq_getElem (show 0 < (css[k]'(by rw [h.len]; exact hk)).length by rw [e2]; exact h0)⟩
  obtain ⟨a, rfl, hab, _⟩ := hs.cell _ _ (hat 0 u0 hu0)
  refine ⟨a, _, _, rfl, hab, hx, hcs, e1, e2, fun j u hu => ?_, e3⟩
  obtain ⟨a', e, _, hc⟩ := hs.cell _ _ (hat j u hu)
  cases e
  rw [addr_add]
  exact hc
/-- elements that stand in memory, as cells -/
theorem Elems.of {A : Option Addr} {n C : Nat} (hl : l.length = n) (h0 : 0 < size) (h : ∀ i x, l[i]? = some x → ∃ a cs, A = some a ∧ a.block < C ∧ (∀ j u, cs[j]? = some u → w.cell? (a.add (i * size + j)) = some u) ∧ E w B cs x ∧ cs.length = size ∧ ∀ u ∈ cs, u.oneCell' = true) :
    ∃ css, Elems size E w B l css ∧ Sees w C A (n * size) css.flatten := by
  obtain ⟨css, h1, h2⟩ := list_of (α := List Value) (p := fun i cs => ∀ x, l[i]? = some x → ∃ a, A = some a ∧ a.block < C ∧ (∀ j u, cs[j]? = some u → w.cell? (a.add (i * size + j)) = some u) ∧ E w B cs x ∧ cs.length = size ∧ ∀ u ∈ cs, u.oneCell' = true) n fun i hi => by
    obtain ⟨a, cs, e⟩ := h i _ (List.getElem?_eq_getElem (by rw [hl]; exact hi))
    refine ⟨cs, fun x hx => ?_⟩
    rw [List.getElem?_eq_getElem (by rw [hl]; exact hi)] at hx
    obtain rfl := Option.some.inj hx
    exact ⟨a, e⟩
  have he : Elems size E w B l css := ⟨by rw [h1, hl], fun i x cs hx hcs => by
    obtain ⟨a, _, _, _, e4, e5, e6⟩ := h2 i cs hcs x hx
    exact ⟨e4, e5, e6⟩⟩
  refine ⟨css, he, by rw [he.flat, hl], fun m u hu => ?_⟩
  have hm := (List.getElem?_eq_some_iff.1 hu).1
  rw [he.flat] at hm
  have hi : m / size < l.length := (Nat.div_lt_iff_lt_mul h0).2 hm
  have hcs := List.getElem?_eq_getElem (l := css) (i := m / size) (by rw [he.len]; exact hi)
  obtain ⟨a, rfl, hab, hc, _, e5, _⟩ := h2 _ _ hcs _ (List.getElem?_eq_getElem hi)
  have hj : m % size < size := Nat.mod_lt _ h0
  obtain ⟨v, hv⟩ : ∃ v, (css[m / size]'(by rw [he.len]; exact hi))[m % size]? = some v := ⟨_, List.getElem?_eq_getElem (by rw [e5]; exact hj)⟩
  have hf := flatten_at size css _ _ he.size_ hcs _ _ hv
  have hmm : m / size * size + m % size = m := by rw [Nat.mul_comm]; exact Nat.div_add_mod m size
  rw [hmm, hu] at hf
  obtain rfl := Option.some.inj hf
  have := hc _ _ hv
  rw [hmm] at this
  exact ⟨a, rfl, hab, this⟩
end
/-- a lookup's cells -/
def EL (w : World) (B : Nat) (cs : List Value) (x : LLook) : Prop := ∃ va vd, cs = bv x.tab ++ [va, vd] ∧ x.tab.length = 32 ∧ BytesIn w B va x.wr ∧ BytesIn w B vd x.rd
theorem EL.keep {w w' : World} {B B' : Nat} {cs : List Value} {x : LLook} (h : EL w B cs x) (hb : Below B w w') (hB : B ≤ B') : EL w' B' cs x := by
  obtain ⟨va, vd, h1, h2, h3, h4⟩ := h
  exact ⟨va, vd, h1, h2, (h3.below hb).more hB, (h4.below hb).more hB⟩
theorem LooksIn.elems {w : World} {B n : Nat} {A : Option Addr} {l : List LLook} (h : LooksIn w B A n l) : ∃ css, Elems 34 EL w B l css ∧ Sees w B A (n * 34) css.flatten :=
  Elems.of h.len (by omega) fun i x hx => by
    obtain ⟨a, va, vd, e1, e2, e3, e4, e5, e6⟩ := h.at_ i x hx
    exact ⟨a, _, e1, e2, e3, ⟨va, vd, rfl, e4, e5, e6⟩, by simp [bv_length, e4], lookCells_one (tab := x.tab) e5 e6⟩
theorem Elems.looks {w : World} {B n : Nat} {A : Option Addr} {l : List LLook} {css : List (List Value)} (h : Elems 34 EL w B l css) (hs : Sees w B A (n * 34) css.flatten) (hn : l.length = n) : LooksIn w B A n l := by
  subst hn
  refine ⟨rfl, fun i x hx => ?_⟩
  obtain ⟨a, y, cs, e1, e2, e3, _, ⟨va, vd, rfl, f2, f3, f4⟩, _, e5, _⟩ := h.get hs (k := i) (List.getElem?_eq_some_iff.1 hx).1 (by omega)
  rw [hx] at e3
  obtain rfl := Option.some.inj e3
  exact ⟨a, va, vd, e1, e2, fun j u hu => by rw [← addr_add]; exact e5 j u hu, f2, f3, f4⟩
/-- append onto a clipped list of keys: what shows then -/
theorem wpList_addClip {P : Program} {w : World} {ops : Array Oper} {rest : List Oper} {o : Oper} {a : Act} {Q : Exit → Act → World → Prop} (hw : Region.wanted o (yielded ops a.tmps) = true) (s x : Operand) (t e : TypeId)
    (ho : o.op = .call { callee := .builtin .append, args := #[s, x], argTypes := #[t, t] })
    (z : Value) (size bytes : Nat) (ht : P.underlying t = some (.slice e)) (hi : (P.info? e).map (fun i => (i.zero, i.size, i.bytes)) = some (some z, size, bytes)) (hzs : z.cells.size = size) (hs0 : 0 < size)
    (g : Option Nat) (n : Nat) (xs : List Value) (hs : a.eval s = .slice (g.map fun g => ⟨g, 0, none⟩) n n) (hg : ∀ k, g = some k → ∃ cur, Row w k e cur ∧ n * size ≤ cur.length) (hxs : Sees w w.heap.size (g.map fun g => ⟨g, 0, none⟩) (n * size) xs)
    (B : Nat) (A : Option Addr) (m c : Nat) (news : List Value) (hx : a.eval x = .slice A m c) (hr : Sees w B A (m * size) news) (h1 : ∀ u ∈ news, u.oneCell' = true)
    (hnm : n + m ≤ maxLen) (hbytes : (n + m) * bytes ≤ 140737488355328)
    (h : ∀ A' c' w', Sees w' w'.heap.size A' ((n + m) * size) (xs ++ news) → Below w.heap.size w w' → wpList P ops Q rest (a.put o.dst (.slice A' (n + m) c')) w') : wpList P ops Q (o :: rest) a w := by
  have main : ∃ A' c' w', (Builtin.append_ #[t, t] o.type #[.slice (g.map fun g => ⟨g, 0, none⟩) n n, .slice A m c]).run P w = .ok (.slice A' (n + m) c') w' ∧ Sees w' w'.heap.size A' ((n + m) * size) (xs ++ news) ∧ Below w.heap.size w w' := by
    have hml := hr.len
    have hxl := hxs.len
    cases g with
    | none =>
      have hn0 : n = 0 := by
        rcases Nat.eq_zero_or_pos n with h | h
        · exact h
        · obtain ⟨a', _, h', _⟩ := hxs.at_ (k := 0) (Nat.mul_pos h hs0)
          cases h'
      subst hn0
      have hx0 : xs = [] := List.eq_nil_of_length_eq_zero (by omega)
      subst hx0
      obtain ⟨i0, hi, hz0, hz1, hz2⟩ := info_parts hi
      cases A with
      | none =>
        have hn : news = [] := by
          cases news with
          | nil => rfl
          | cons u r =>
            obtain ⟨a, h, _⟩ := hr.cell 0 u rfl
            cases h
        subst hn
        have hl : m * size = 0 := by simpa using hml.symm
        obtain rfl : m = 0 := by
          rcases Nat.mul_eq_zero.1 hl with h | h
          · exact h
          · omega
        exact ⟨none, 0, w, run_append_nothingN (base := w.heap.size) (size := size) ht hi (World.ownsRow_nil w _ e size) c, by simpa using Sees.nil w w.heap.size none, Below.refl _ _⟩
      | some ad =>
        obtain ⟨v', w', hrun, h2, h3, _, h5⟩ := run_append_own_at (P := P) w w.heap.size t o.type e i0 z size bytes ht hi hz0 hz1 hz2 hzs hs0 (.slice none 0 0) 0 [] (World.ownsRow_nil w _ e size) ad m c news hml
          (fun j u hu => by
            obtain ⟨a, h, _, hc⟩ := hr.cell j u hu
            cases h
            exact hc) h1 hnm hbytes (Nat.le_refl _)
        obtain ⟨A', c', rfl, hse, _⟩ := own_form2 h2
        exact ⟨A', c', w', hrun, hse, (Below.refl _ _).grown h3 (Nat.le_refl _) (fun k hk => by simp [Value.ownBlock] at hk)⟩
    | some g =>
      obtain ⟨cur, hrow, hcl⟩ := hg g rfl
      obtain ⟨i0, hi, hz0, hz1, hz2⟩ := info_parts hi
      cases A with
      | none =>
        have hn : news = [] := by
          cases news with
          | nil => rfl
          | cons u r =>
            obtain ⟨a, h, _⟩ := hr.cell 0 u rfl
            cases h
        subst hn
        have hl : m * size = 0 := by simpa using hml.symm
        obtain rfl : m = 0 := by
          rcases Nat.mul_eq_zero.1 hl with h | h
          · exact h
          · omega
        refine ⟨some ⟨g, 0, none⟩, n, w, ?_, by simpa using hxs, Below.refl _ _⟩
        simp [Builtin.append_, run_underlying ht, sizeOf, typeInfo, Builtin.lenOf, Builtin.firstCells, storeCells, hi]
      | some ad =>
        have hnews : ∀ j u, news[j]? = some u → w.cell? (ad.add j) = some u := fun j u hu => by
          obtain ⟨a, h, _, hc⟩ := hr.cell j u hu
          cases h
          exact hc
        rcases Nat.eq_zero_or_pos m with h0 | h0
        · subst h0
          have hn : news = [] := List.eq_nil_of_length_eq_zero (by omega)
          subst hn
          have hrm := run_append_room (P := P) w t o.type e i0 ht hi g n n cur.toArray hrow.is ad 0 c [] (by simp) hnews h1 (by omega) (by simp [hz1]; exact hcl)
          refine ⟨some ⟨g, 0, none⟩, n, _, hrm, ?_, ?_⟩
          · have ht2 := turned_setRow w g (cur.toArray.toList.take (n * i0.size) ++ [] ++ cur.toArray.toList.drop (n * i0.size + ([] : List Value).length)).toArray
            have e : cur.toArray.toList.take (n * i0.size) ++ [] ++ cur.toArray.toList.drop (n * i0.size + ([] : List Value).length) = cur := by simp
            rw [e]
            have hr2 := row_setRow hrow cur
            have hz := (turned_setRow w g cur.toArray).size
            refine ⟨by simpa using hxl, fun j u hu => ?_⟩
            rw [List.append_nil] at hu
            obtain ⟨a', h', hab, hc⟩ := hxs.cell j u hu
            cases h'
            refine ⟨_, rfl, by rw [hz]; exact hab, ?_⟩
            rw [addr_row, hr2.cell]
            rw [addr_row, hrow.cell] at hc
            exact hc
          · have e : cur.toArray.toList.take (n * i0.size) ++ [] ++ cur.toArray.toList.drop (n * i0.size + ([] : List Value).length) = cur := by simp
            rw [e]
            have ht2 := turned_setRow w g cur.toArray
            refine ⟨ht2.os, ht2.tape, ht2.output, Nat.le_of_eq ht2.size.symm, fun k hk => ?_⟩
            by_cases hkg : k = g
            · subst hkg
              rw [(row_setRow hrow cur).is, hrow.is]
            · exact ht2.block k hkg
        · have hxat : ∀ j u, xs[j]? = some u → w.cell? ((⟨g, 0, none⟩ : Addr).add j) = some u := fun j u hu => by
            obtain ⟨a', h', _, hc⟩ := hxs.cell j u hu
            cases h'
            exact hc
          have hgr := run_append_grow (P := P) w t o.type e i0 z ht hi hz0 ⟨g, 0, none⟩ n n xs (by rw [hz1]; exact hxl) hxat ad m c news (by rw [hz1]; exact hml) hnews (by omega) (by unfold maxLen at hnm; omega) (by rw [hz2]; exact growslice_fits (by omega) hbytes)
          refine ⟨_, _, _, hgr, ⟨by rw [List.length_append, hxl, hml, Nat.add_mul], fun j u hu => ⟨_, rfl, by simp, ?_⟩⟩, (Below.refl w.heap.size w).drew.alloc (Nat.le_refl _) _⟩
          have hrow2 := Row.new w.drew e (xs ++ news ++ (Builtin.zeroCells z.cells (grownCap w (n + m) n e - (n + m))).toList)
          rw [addr_row, Nat.zero_add]
          have := hrow2.cell j
          rw [List.getElem?_append_left (List.getElem?_eq_some_iff.1 hu).1, hu] at this
          rw [← this]
          congr 2
          congr 1
          apply Array.ext'
          simp
  obtain ⟨A', c', w', hrun, h2, h3⟩ := main
  refine BigFrame.wpList_want hw fun K hK => ?_
  unfold Oper.wp execOp
  simp only [ho, resolve, invoke, builtin, Sem.run_bind, Sem.run_pure, Result.andThen_ok, List.map_toArray, List.map_cons, List.map_nil, hs, hx, hrun]
  exact hK _ _ (h A' c' w' h2 h3)
end Go.Proofs.Ytdbcbjjomhbhpaa

/-
  Of part Made6: what is needed here.
-/
namespace Go.Proofs.Ytdbcbjjomhbhpaa
open Go.RowKit
set_option linter.unusedVariables false
def madeT (l : List LAct) : List LTab := l.foldl (fun ts x => putT ts x.tab x.keys) []
theorem madeT_succ {l : List LAct} {k : Nat} {x : LAct} (h : l[k]? = some x) : madeT (l.take (k + 1)) = putT (madeT (l.take k)) x.tab x.keys := by
  unfold madeT
  rw [List.take_add_one, h, List.foldl_append]
  rfl
theorem World.grownBy.trans_drew {w w' : World} {r : Option Nat} (h : w.drew.grownBy w' r) : w.grownBy w' r := ⟨h.os, h.tape, h.output, h.size, h.block⟩
def MadeDone (w : World) (l : List LAct) (e : Ending) (w' : World) : Prop :=
  ∃ rb mb, e = .returned (.pointer (some ⟨rb, 0, none⟩)) ∧ Reg w' rb mb w'.heap.size l.length (madeT l) ∧ w.heap.size ≤ rb ∧ w.heap.size ≤ mb ∧ Below w.heap.size w w'
set_option maxRecDepth 100000 in
set_option maxHeartbeats 4000000 in
theorem made_ (A : Option Addr) (n c B : Nat) (l : List LAct) (w : World) (hl : ActsIn w B A n l) (hB : B ≤ w.heap.size) (hn : n ≤ 80) (hok : ∀ y ∈ l, ActOk y) :
    Calls Try.prog 24 #[.slice A n c] w (MadeDone w l) := by
  have LL := Lib.hid hl.len
  have HM := Lib.hid hl
  have HOK := Lib.hid hok
  clear hl hok
  go_enter Try.func24, Try.ntmps24
  go_wp2_with fail
  refine (newReg w).mono ?_
  rintro e w1 ⟨rfl, hreg1, hb1⟩
  have REG1 := Lib.hid hreg1
  have B1 := Lib.hid hb1
  obtain ⟨rb, hrb⟩ : ∃ rb, rb = w.heap.size + 1 := ⟨_, rfl⟩
  rw [← hrb] at REG1 ⊢
  obtain ⟨mb, hmb⟩ : ∃ mb, mb = w.heap.size := ⟨_, rfl⟩
  rw [← hmb] at REG1
  have HMB : Hid (w.heap.size ≤ rb ∧ w.heap.size ≤ mb) := Lib.hid (by omega)
  clear hreg1 hb1 hmb hrb
  go_wp2_with fail
  go_loopw [4] (fun i wr => ∃ k : Nat, k ≤ n ∧ i = .int .i64 k ∧ Reg wr rb mb wr.heap.size k (madeT (l.take k)) ∧ Below w.heap.size w wr) (fun i _ => n - (intOf i).toNat)
  case atStart => exact ⟨0, Nat.zero_le _, rfl, REG1.out, B1.out⟩
  case round =>
    clear REG1 B1
    obtain ⟨k, hk, rfl, hreg, hb⟩ := hrel
    have HREG := Lib.hid hreg
    have HB := Lib.hid hb
    clear hreg hb
    by_cases hlt : k < n
    · obtain ⟨a, q, x, rfl, hab, hx, hcs, hin⟩ := (HM.out.below (HB.out.mono hB)).get hlt
      obtain ⟨KA, kn, kc, LA, ln, lc⟩ := q
      have hx0 := HOK.out x (List.mem_of_getElem? hx)
      have hbw : B ≤ wr.heap.size := Nat.le_trans hB HB.out.size
      have HSX := Lib.hid (show (Try.prog.info? 32).map (·.size) = some (bv x.tab).length by rw [bv_length, hin.tab]; exact size_key)
      have HMT := Lib.hid (madeT_succ hx)
      have h33 := acells_33 (q := ⟨KA, kn, kc, LA, ln, lc⟩) hin.tab
      have hcell : ∀ V : World, (∀ p : Addr, p.block < B → V.cell? p = wr.cell? p) → (∀ j u, (bv x.tab)[j]? = some u → V.cell? ((⟨(a.add (k * 35)).block, (a.add (k * 35)).off + 1, none⟩ : Addr).add j) = some u) ∧ V.cell? ⟨(a.add (k * 35)).block, (a.add (k * 35)).off + 33, none⟩ = some (.slice KA kn kc) := fun V hV => by
        have habl : (a.add (k * 35)).block < B := by rw [addr_block]; exact hab
        refine ⟨fun j u hu => ?_, ?_⟩
        · rw [addr_row]
          refine (hV ⟨(a.add (k * 35)).block, (a.add (k * 35)).off + 1 + j, none⟩ habl).trans ?_
          have := hcs (1 + j) u (acells_tab hu)
          rw [← addr_add] at this
          have h2 : ((a.add (k * 35)).add 1).add j = ⟨(a.add (k * 35)).block, (a.add (k * 35)).off + 1 + j, none⟩ := addr_row (a.add (k * 35)).block ((a.add (k * 35)).off + 1) j
          rwa [h2] at this
        · exact (hV ⟨(a.add (k * 35)).block, (a.add (k * 35)).off + 33, none⟩ habl).trans (hcs 33 _ h33)
      have HSS : Hid (∀ V : World, Below wr.heap.size wr V → (∀ j u, (bv x.tab)[j]? = some u → V.cell? ((⟨(a.add (k * 35)).block, (a.add (k * 35)).off + 1, none⟩ : Addr).add j) = some u) ∧ V.cell? ⟨(a.add (k * 35)).block, (a.add (k * 35)).off + 33, none⟩ = some (.slice KA kn kc)) := Lib.hid fun V hV => hcell V fun p hp => hV.cell (Nat.lt_of_lt_of_le hp hbw)
      have HSG : Hid (∀ V : World, wr.grownBy V (some mb) → (∀ j u, (bv x.tab)[j]? = some u → V.cell? ((⟨(a.add (k * 35)).block, (a.add (k * 35)).off + 1, none⟩ : Addr).add j) = some u) ∧ V.cell? ⟨(a.add (k * 35)).block, (a.add (k * 35)).off + 33, none⟩ = some (.slice KA kn kc)) := Lib.hid fun V hV => hcell V fun p hp => ((Below.refl w.heap.size wr).grown hV HB.out.size (fun j hj => by
        cases hj
        exact HMB.out.2)).cell (Nat.lt_of_lt_of_le hp hB)
      have HP : Hid (∀ V : World, Below wr.heap.size wr V → Calls Try.prog 13 #[.pointer (some ⟨rb, 0, none⟩), .agg (bv x.tab).toArray, .slice KA kn kc] V (PutTDone V rb mb k (madeT (l.take k)) x.tab x.keys)) := Lib.hid fun V hV =>
        putReg rb mb wr.heap.size k (madeT (l.take k)) x.tab KA kn kc B x.keys V (HREG.out.below hV) hx0.tab (hin.keys.below (hV.mono hbw)) (Nat.le_trans hbw hV.size) (by omega) (Nat.le_trans hin.kn.1 hin.kn.2)
      clear hcell hcs hin hx0 hx h33 hbw hab
      generalize hX : bv x.tab = X at *
      clear hX
      go_wp2_with fail
      have HS5 := Lib.hid (HSS.out _ (show Below wr.heap.size wr wr.drew from ⟨rfl, rfl, rfl, Nat.le_refl _, fun _ _ => rfl⟩))
      have HP5 := Lib.hid (HP.out wr.drew ⟨rfl, rfl, rfl, Nat.le_refl _, fun _ _ => rfl⟩)
      have HDB : Hid (wr.drew.heap = wr.heap) := Lib.hid rfl
      refine wp_region_held_drew (S := (fun V => (∀ j u, X[j]? = some u → V.cell? ((⟨(a.add (k * 35)).block, (a.add (k * 35)).off + 1, none⟩ : Addr).add j) = some u) ∧ V.cell? ⟨(a.add (k * 35)).block, (a.add (k * 35)).off + 33, none⟩ = some (.slice KA kn kc))) (by kernel_rfl) HS5.out (fun _ => ?_)
      refine takeL (i := 0) (v := ?_) rfl (by kernel_rfl) (by kernel_rfl) (by kernel_rfl) (fun _ _ _ h => h) (Or.inl ⟨by rfl, ?_⟩) HS5.out ?_
      rotate_left
      · intro w hw
        try dsimp only at hw
        go_simp
        try with_reducible rfl
      try simp only [Act.put, List.setIfInBounds_toArray, List.set_cons_zero, List.set_cons_succ]
      refine takeL (i := 1) (v := ?_) rfl (by kernel_rfl) (by kernel_rfl) (by kernel_rfl) (fun _ _ _ h => h) (Or.inl ⟨by rfl, ?_⟩) HS5.out ?_
      rotate_left
      · intro w hw
        try dsimp only at hw
        go_simp
        try with_reducible rfl
      try simp only [Act.put, List.setIfInBounds_toArray, List.set_cons_zero, List.set_cons_succ]
      refine takeL (i := 2) (v := ?_) rfl (by kernel_rfl) (by kernel_rfl) (by kernel_rfl) (fun _ _ _ h => h) (Or.inl ⟨by rfl, ?_⟩) HS5.out ?_
      rotate_left
      · intro w hw
        try dsimp only at hw
        go_simp
        try with_reducible rfl
      try simp only [Act.put, List.setIfInBounds_toArray, List.set_cons_zero, List.set_cons_succ]
      refine takeL (i := 3) (v := ?_) rfl (by kernel_rfl) (by kernel_rfl) (by kernel_rfl) (fun _ _ _ h => h) (Or.inl ⟨by rfl, ?_⟩) HS5.out ?_
      rotate_left
      · intro w hw
        try dsimp only at hw
        go_simp
        try with_reducible rfl
      try simp only [Act.put, List.setIfInBounds_toArray, List.set_cons_zero, List.set_cons_succ]
      refine takeL (i := 4) (v := ?_) rfl (by kernel_rfl) (by kernel_rfl) (by kernel_rfl) (fun _ _ _ h => h) (Or.inl ⟨by rfl, ?_⟩) HS5.out ?_
      rotate_left
      · intro w hw
        try dsimp only at hw
        go_simp
        try with_reducible rfl
      try simp only [Act.put, List.setIfInBounds_toArray, List.set_cons_zero, List.set_cons_succ]
      refine takeL (i := 5) (v := .agg X.toArray) rfl (by kernel_rfl) (by kernel_rfl) (by kernel_rfl) (fun _ _ _ h => h) (Or.inl ⟨by rfl, fun wz hwz => exec_load_at wz 32 (.tmp 16) rfl ⟨(a.add (k * 35)).block, (a.add (k * 35)).off + 1, none⟩ X _ Try.underlying32 rfl HSX.out hwz.1 (by go_simp)⟩) HS5.out ?_
      try simp only [Act.put, List.setIfInBounds_toArray, List.set_cons_zero, List.set_cons_succ]
      refine takeL (i := 6) (v := ?_) rfl (by kernel_rfl) (by kernel_rfl) (by kernel_rfl) (fun _ _ _ h => h) (Or.inl ⟨by rfl, ?_⟩) HS5.out ?_
      rotate_left
      · intro w hw
        try dsimp only at hw
        go_simp
        try with_reducible rfl
      try simp only [Act.put, List.setIfInBounds_toArray, List.set_cons_zero, List.set_cons_succ]
      refine takeL (i := 7) (v := ?_) rfl (by kernel_rfl) (by kernel_rfl) (by kernel_rfl) (fun _ _ _ h => h) (Or.inl ⟨by rfl, ?_⟩) HS5.out ?_
      rotate_left
      · intro w hw
        try dsimp only at hw
        go_simp
        try with_reducible rfl
      try simp only [Act.put, List.setIfInBounds_toArray, List.set_cons_zero, List.set_cons_succ]
      refine takeL (i := 8) (v := ?_) rfl (by kernel_rfl) (by kernel_rfl) (by kernel_rfl) (fun _ _ _ h => h) (Or.inl ⟨by rfl, ?_⟩) HS5.out ?_
      rotate_left
      · intro w hw
        try dsimp only at hw
        go_simp
        try with_reducible rfl
      try simp only [Act.put, List.setIfInBounds_toArray, List.set_cons_zero, List.set_cons_succ]
      refine takeL (i := 9) (v := ?_) rfl (by kernel_rfl) (by kernel_rfl) (by kernel_rfl) (fun _ _ _ h => h) (Or.inl ⟨by rfl, ?_⟩) HS5.out ?_
      rotate_left
      · intro w hw
        try dsimp only at hw
        go_simp
        try with_reducible rfl
      try simp only [Act.put, List.setIfInBounds_toArray, List.set_cons_zero, List.set_cons_succ]
      refine takeL (i := 10) (v := ?_) rfl (by kernel_rfl) (by kernel_rfl) (by kernel_rfl) (fun _ _ _ h => h) (Or.inl ⟨by rfl, ?_⟩) HS5.out ?_
      rotate_left
      · intro w hw
        try dsimp only at hw
        obtain ⟨q0, q1⟩ := hw
        go_simp
        try with_reducible rfl
      try simp only [Act.put, List.setIfInBounds_toArray, List.set_cons_zero, List.set_cons_succ]
      refine readyL (i := 11) rfl (by kernel_rfl) (by kernel_rfl) fun K hK => ?_
      go_simp
      refine HP5.out.mono ?_
      rintro e w6 ⟨rfl, hreg6, hgr6⟩
      have HREG6 := Lib.hid hreg6
      have HG6 : Hid (Below w.heap.size w w6) := Lib.hid (HB.out.grown (World.grownBy.trans_drew hgr6) HB.out.size (fun j hj => by cases hj; exact HMB.out.2))
      have HS6 := Lib.hid (HSG.out w6 (World.grownBy.trans_drew hgr6))
      clear hreg6 hgr6
      refine hK.out _ _ HS6.out ?_
      clear hK K
      try simp only [Act.put, List.setIfInBounds_toArray, List.set_cons_zero, List.set_cons_succ]
      refine wpAnyH_done (by kernel_rfl) ?_ _
      go_wp2_with fail
      go_roundw
      case rel =>
        refine ⟨k + 1, by omega, by go_num, ?_, HG6.out⟩
        rw [HMT.out]
        exact HREG6.out
      case measure => simp [intOf]; omega
    · have hkn : k = n := by omega
      have HD : Hid (MadeDone w l (.returned (.pointer (some ⟨rb, 0, none⟩))) wr) := Lib.hid ⟨rb, mb, rfl, by
        have := HREG.out
        rw [hkn, List.take_of_length_le (by rw [LL.out]; exact Nat.le_refl _), ← LL.out] at this
        exact this, HMB.out.1, HMB.out.2, HB.out⟩
      clear hkn
      go_wp2_with fail
      go_ret
      exact HD.out
end Go.Proofs.Ytdbcbjjomhbhpaa

/-
  Of part Great6: what is needed here.
-/
namespace Go.Proofs.Ytdbcbjjomhbhpaa
open Go.RowKit
set_option linter.unusedVariables false
def LongDone (w : World) (ls : List LLook) (e : Ending) (w' : World) : Prop := (∃ b, e = .returned (.bool b) ∧ (b = false → ls.length + lookSize ls < 2000)) ∧ Below w.heap.size w w'
set_option maxRecDepth 100000 in
set_option maxHeartbeats 1000000 in
theorem long_ (A : Option Addr) (n c B : Nat) (ls : List LLook) (w : World) (hl : LooksIn w B A n ls) (hn : n ≤ 140737488355328) (hs : ∀ y ∈ ls, y.wr.length ≤ 140737488355328 ∧ y.rd.length ≤ 140737488355328) :
    Calls Try.prog 23 #[.slice A n c] w (LongDone w ls) := by
  have ll := hl.len
  have LL := Lib.hid ll
  have HM := Lib.hid hl
  have HSZ := Lib.hid hs
  clear ll hl hs
  go_enter Try.func23, Try.ntmps23
  go_wp2
  obtain ⟨W0, hW0⟩ : ∃ u : World, u = w := ⟨_, rfl⟩
  go_loopw [3, 4] (fun nn i wr => ∃ (k j s : Nat), k ≤ n ∧ i = .int .i64 k ∧ nn = .int .i64 s ∧ wr = w.drewN j ∧ s = n + lookSize (ls.take k) ∧ s ≤ 900000000000000) (fun nn i _ => n - (intOf i).toNat)
  case atStart => exact ⟨0, 0, n, Nat.zero_le _, rfl, rfl, rfl, by simp [lookSize], by omega⟩
  case round =>
    obtain ⟨k, j, s, hk, rfl, rfl, rfl, hsum, hs9⟩ := hrel
    have HS := Lib.hid hsum
    clear hsum
    by_cases hgo : k < n ∧ s < 2000
    · obtain ⟨hlt, hs3⟩ := hgo
      obtain ⟨a, x, va, vd, rfl, hab, hx, hat⟩ := HM.out.get hlt
      have hc1 : w.cell? ((a.add (k * 34)).add 32) = some va := hat.cells 32 va (by rw [List.getElem?_append_right (by rw [bv_length, hat.len]; exact Nat.le_refl _), bv_length, hat.len]; rfl)
      have hc2 : w.cell? ((a.add (k * 34)).add 33) = some vd := hat.cells 33 vd (by rw [List.getElem?_append_right (by rw [bv_length, hat.len]; omega), bv_length, hat.len]; rfl)
      obtain ⟨A1, c1, rfl, _, _, _⟩ := hat.wr.is
      obtain ⟨A2, c2, rfl, _, _, _⟩ := hat.rd.is
      have e1 : w.cell? ⟨(a.add (k * 34)).block, (a.add (k * 34)).off + 32, none⟩ = some (.slice A1 x.wr.length c1) := hc1
      have e2 : w.cell? ⟨(a.add (k * 34)).block, (a.add (k * 34)).off + 33, none⟩ = some (.slice A2 x.rd.length c2) := hc2
      have l1 := (HSZ.out x (List.mem_of_getElem? hx)).1
      have l2 := (HSZ.out x (List.mem_of_getElem? hx)).2
      have HX := Lib.hid (lookSize_succ hx)
      clear hat hx hc1 hc2
      go_wp2
      go_quiet (fail)
      go_wp2
      go_roundw
      case rel => exact ⟨k + 1, j + nq, s + x.wr.length + x.rd.length, by omega, by go_num, by go_num, by simp, by have := HS.out; have := HX.out; omega, by omega⟩
      case measure => simp [intOf]; omega
    · have HT2 : Hid (s < 2000 → ls.length + lookSize ls < 2000) := by
        refine Lib.hid fun h3 => ?_
        have hkn : k = n := by
          have : ¬ k < n := fun h => hgo ⟨h, h3⟩
          omega
        have h1 := HS.out
        rw [hkn, List.take_of_length_le (by rw [LL.out]; omega)] at h1
        have h2 := LL.out
        omega
      have hdec : (k < n ∧ ¬ s < 2000) ∨ ¬ k < n := by
        by_cases h : k < n
        · exact .inl ⟨h, fun h3 => hgo ⟨h, h3⟩⟩
        · exact .inr h
      clear HS hgo
      rcases hdec with ⟨hd1, hd2⟩ | hd1
      all_goals
        (go_wp2
         go_ret
         exact ⟨⟨_, rfl, fun hb => HT2.out (by first | (simp at hb; done) | (simp at hb; omega))⟩, below_drewN (Below.refl _ _) j⟩)
/-- acts that are gone through -/
def SmallActs (l : List LAct) : Prop := l.length ≤ 80 ∧ ∀ x ∈ l, x.keys.length ≤ 400 ∧ x.looks.length ≤ 40 ∧ lookSize x.looks < 2000
def GreatDone6 (w : World) (l : List LAct) (e : Ending) (w' : World) : Prop := (∃ b, e = .returned (.bool b) ∧ (b = false → SmallActs l)) ∧ Below w.heap.size w w'
set_option maxRecDepth 100000 in
set_option maxHeartbeats 2000000 in
theorem great6 (A : Option Addr) (n c B : Nat) (l : List LAct) (w : World) (hl : ActsIn w B A n l) (hB : B ≤ w.heap.size) (hn : n ≤ 140737488355328) (hok : ∀ y ∈ l, ActOk y) :
    Calls Try.prog 8 #[.slice A n c] w (GreatDone6 w l) := by
  have LL := Lib.hid hl.len
  have HM := Lib.hid hl
  have HOK := Lib.hid hok
  clear hl hok
  by_cases h80 : 80 < n
  · go_enter Try.func8, Try.ntmps8
    go_wp2
    go_ret
    exact ⟨⟨_, rfl, fun hb => by cases hb⟩, Below.refl _ _⟩
  · go_enter Try.func8, Try.ntmps8
    go_wp2
    go_loopw [3] (fun i wr => ∃ (k : Nat), k ≤ n ∧ i = .int .i64 k ∧ Below w.heap.size w wr ∧ ∀ x ∈ l.take k, x.keys.length ≤ 400 ∧ x.looks.length ≤ 40 ∧ lookSize x.looks < 2000) (fun i _ => n - (intOf i).toNat)
    case atStart => exact ⟨0, Nat.zero_le _, rfl, Below.refl _ _, by simp⟩
    case round =>
      obtain ⟨k, hk, rfl, hbw, hall⟩ := hrel
      have HBW := Lib.hid hbw
      have HALL := Lib.hid hall
      clear hbw hall
      by_cases hlt : k < n
      · obtain ⟨a, q, x, rfl, hab, hx, hcs, hin⟩ := (HM.out.below (HBW.out.mono hB)).get hlt
        obtain ⟨KA, kn, kc, LA, ln, lc⟩ := q
        have hx0 := HOK.out x (List.mem_of_getElem? hx)
        have e1 : wr.cell? ⟨(a.add (k * 35)).block, (a.add (k * 35)).off + 33, none⟩ = some (.slice KA kn kc) := hcs 33 _ (acells_33 hin.tab)
        have e2 : wr.cell? ⟨(a.add (k * 35)).block, (a.add (k * 35)).off + 34, none⟩ = some (.slice LA ln lc) := hcs 34 _ (acells_34 hin.tab)
        have hq1 : x.keys.length = kn := hin.keys.len
        have hq2 : x.looks.length = ln := hin.looks.len
        have HL1 := Lib.hid hq1
        have HL2 := Lib.hid hq2
        have HX := Lib.hid hx
        have HC := Lib.hid (long_ LA ln lc B x.looks wr hin.looks (by rw [← hq2]; exact hx0.ln) hx0.sizes)
        have hln : ln ≤ 140737488355328 := by rw [← hq2]; exact hx0.ln
        have hkn : kn ≤ 140737488355328 := by rw [← hq1]; exact hx0.kn
        clear hcs hin hx hx0 hq1 hq2
        by_cases h1 : 400 < kn
        · go_wp2
          go_ret
          exact ⟨⟨_, rfl, fun hb => by cases hb⟩, HBW.out⟩
        by_cases h2 : 40 < ln
        · go_wp2
          go_ret
          exact ⟨⟨_, rfl, fun hb => by cases hb⟩, HBW.out⟩
        go_wp2_with fail
        refine HC.out.mono ?_
        rintro e w2 ⟨⟨b, rfl, hb⟩, hbel⟩
        have HB2 := Lib.hid (HBW.out.trans (hbel.mono HBW.out.size))
        have HBB := Lib.hid hb
        clear hb hbel
        cases b with
        | true =>
          go_wp2_with fail
          go_ret
          exact ⟨⟨_, rfl, fun hb => by cases hb⟩, HB2.out⟩
        | false =>
          go_wp2_with fail
          go_roundw
          case rel =>
            refine ⟨k + 1, by omega, by go_num, HB2.out, (forall_take_succ HX.out).2 ⟨HALL.out, ?_⟩⟩
            have := HBB.out (by simp)
            have q1 := HL1.out
            have q2 := HL2.out
            omega
          case measure => simp [intOf]; omega
      · have HA : Hid (SmallActs l) := Lib.hid ⟨by rw [LL.out]; omega, by
          have := HALL.out
          rwa [List.take_of_length_le (by rw [LL.out]; omega)] at this⟩
        go_wp2
        go_ret
        exact ⟨⟨_, rfl, fun _ => HA.out⟩, HBW.out⟩
end Go.Proofs.Ytdbcbjjomhbhpaa

/-
  Of part JoinWalk: what is needed here.
-/
namespace Go.Proofs.Ytdbcbjjomhbhpaa
open Go.RowKit
set_option linter.unusedVariables false
theorem resErr_cases (ts : List LTab) : ∀ ls : List LLook, resErr ts ls = 0 ∨ resErr ts ls = 8 ∨ resErr ts ls = 11
  | [] => .inl rfl
  | x :: r => by
    unfold resErr
    split
    · exact resErr_cases ts r
    · have h : errL ts x = 0 ∨ errL ts x = 8 ∨ errL ts x = 11 := by
        unfold errL
        split
        · exact .inr (.inr rfl)
        · split
          · exact .inr (.inl rfl)
          · exact .inl rfl
      exact h
theorem resW_append {ts : List LTab} {a b : List LLook} (ha : resErr ts a = 0) (hb : resErr ts b = 0) : resW ts (a ++ b) = resW ts a ++ resW ts b ∧ resR ts (a ++ b) = resR ts a ++ resR ts b := by
  have h : resErr ts (a ++ b) = 0 := by rw [resErr_append, if_pos ha, hb]
  unfold resW resR
  simp [ha, hb, h]
theorem resW_len (ts : List LTab) (ls : List LLook) : (resW ts ls).length ≤ lookSize ls ∧ (resR ts ls).length ≤ lookSize ls := by
  have := wrs_le ts ls
  unfold resW resR
  split
  · exact this
  · exact ⟨Nat.zero_le _, Nat.zero_le _⟩
theorem resW_none {ts : List LTab} {ls : List LLook} (h : resErr ts ls ≠ 0) : resW ts ls = [] ∧ resR ts ls = [] := by
  unfold resW resR
  rw [if_neg h, if_neg h]
  exact ⟨rfl, rfl⟩
theorem lookSize_append (a b : List LLook) : lookSize (a ++ b) = lookSize a + lookSize b := by simp [lookSize]
theorem keys_app {w : World} {B n m : Nat} {A : Option Addr} {a b : List (List Int)} (h : Sees w B A ((n + m) * 32) (bv a.flatten ++ bv b.flatten)) (hn : a.length = n) (hm : b.length = m) (ha : ∀ y ∈ a, y.length = 32) (hb : ∀ y ∈ b, y.length = 32) : KeysIn w B A (n + m) (a ++ b) :=
  ⟨by rw [List.length_append, hn, hm], fun k hk => (List.mem_append.1 hk).elim (ha k) (hb k), by rw [List.flatten_append, bv_append]; exact h⟩
/-- a list that was answered, as what is appended onto, and as what is appended -/
theorem KOut.room {w : World} {lo hi : Nat} {S : Sl} {l : List (List Int)} (h : KOut w lo hi S l) (hc : S.c = S.n) : ∀ k, S.A = some k → ∃ cur, Row w k 32 cur ∧ S.n * 32 ≤ cur.length := by
  intro k hk
  have := h.fit
  obtain ⟨A, n, c⟩ := S
  have hk' : A = some k := hk
  subst hk'
  obtain ⟨_, _, cur, h1, h2, _⟩ := this
  have hc' : c = n := hc
  have h2' : c * 32 ≤ cur.length := h2
  exact ⟨cur, h1, by show n * 32 ≤ _; rw [← hc']; exact h2'⟩
/-- three bounds on a list of lookups -/
def LksOk (ls : List LLook) : Prop := (∀ i ∈ ls, LkOk i ∧ i.wr.length ≤ 140737488355328 ∧ i.rd.length ≤ 140737488355328) ∧ ls.length ≤ 140737488355328
set_option maxRecDepth 100000 in
set_option maxHeartbeats 8000000 in
theorem joined_walk (A A1 A2 : Option Addr) (n c n1 c1 n2 c2 : Nat) (l : List LAct) (la lb : List LLook) (w : World)
    (hl : ActsIn w w.heap.size A n l) (hok : ∀ y ∈ l, ActOk y) (hn : l.length ≤ 140737488355328) (h1 : LooksIn w w.heap.size A1 n1 la) (ok1 : LksOk la) (h2 : LooksIn w w.heap.size A2 n2 lb) (ok2 : LksOk lb) :
    Calls Try.prog 5 #[.slice A n c, .slice A1 n1 c1, .slice A2 n2 c2] w fun e w' => e = .returned (.bool true) ∧ Below w.heap.size w w' := by
  have hnl := hl.len
  have hn1 := h1.len
  have hn2 := h2.len
  have HL := Lib.hid hl
  have HK := Lib.hid hok
  have H1 := Lib.hid h1
  have H2 := Lib.hid h2
  have O1 := Lib.hid ok1
  have O2 := Lib.hid ok2
  have HG := Lib.hid (great6 A n c _ l w hl (Nat.le_refl _) (by rw [← hnl]; exact hn) hok)
  have HL1 : Hid (∀ V : World, Below w.heap.size w V → Calls Try.prog 23 #[.slice A1 n1 c1] V (LongDone V la)) := Lib.hid fun V hV => long_ A1 n1 c1 _ la V (h1.below hV) (by rw [← hn1]; exact ok1.2) fun y hy => (ok1.1 y hy).2
  have HL2 : Hid (∀ V : World, Below w.heap.size w V → Calls Try.prog 23 #[.slice A2 n2 c2] V (LongDone V lb)) := Lib.hid fun V hV => long_ A2 n2 c2 _ lb V (h2.below hV) (by rw [← hn2]; exact ok2.2) fun y hy => (ok2.1 y hy).2
  have LN := Lib.hid (And.intro hnl (And.intro hn1 hn2))
  clear hl hok hn h1 ok1 h2 ok2 hnl hn1 hn2
  go_enter Try.func5, Try.ntmps5
  go_wp2_with fail
  refine HG.out.mono ?_
  rintro e wa ⟨⟨b, rfl, hb⟩, hbel⟩
  have BA := Lib.hid hbel
  have SM := Lib.hid hb
  clear hb hbel HG
  cases b with
  | true =>
    go_wp2_with fail
    refine (lives6 _).mono ?_
    rintro e w' ⟨rfl, hb⟩
    have HBB := Lib.hid (BA.out.trans (hb.mono BA.out.size))
    clear hb
    go_wp2_with fail
    go_ret
    exact ⟨rfl, HBB.out⟩
  | false =>
    have SA := Lib.hid (SM.out rfl)
    clear SM
    go_wp2_with fail
    refine (HL1.out wa BA.out).mono ?_
    rintro e wb ⟨⟨b, rfl, hb⟩, hbel⟩
    have BB := Lib.hid (BA.out.trans (hbel.mono BA.out.size))
    have SM := Lib.hid hb
    clear hb hbel
    cases b with
    | true =>
      go_wp2_with fail
      refine (lives6 _).mono ?_
      rintro e w' ⟨rfl, hb⟩
      have HBB := Lib.hid (BB.out.trans (hb.mono BB.out.size))
      clear hb
      go_wp2_with fail
      go_ret
      exact ⟨rfl, HBB.out⟩
    | false =>
      have S1 := Lib.hid (SM.out rfl)
      clear SM
      go_wp2_with fail
      refine (HL2.out wb BB.out).mono ?_
      rintro e wc ⟨⟨b, rfl, hb⟩, hbel⟩
      have BC := Lib.hid (BB.out.trans (hbel.mono BB.out.size))
      have SM := Lib.hid hb
      clear hb hbel
      cases b with
      | true =>
        go_wp2_with fail
        refine (lives6 _).mono ?_
        rintro e w' ⟨rfl, hb⟩
        have HBB := Lib.hid (BC.out.trans (hb.mono BC.out.size))
        clear hb
        go_wp2_with fail
        go_ret
        exact ⟨rfl, HBB.out⟩
      | false =>
        have S2 := Lib.hid (SM.out rfl)
        clear SM BA BB HL1 HL2
        have HM := Lib.hid (made_ A n c _ l wc (HL.out.below BC.out) BC.out.size (by rw [← LN.out.1]; exact SA.out.1) HK.out)
        clear HL
        go_wp2_with fail
        refine HM.out.mono ?_
        rintro e wd ⟨rb, mb, rfl, hreg, hrb, hmb, hbel⟩
        have BD := Lib.hid (BC.out.trans (hbel.mono BC.out.size))
        have RD := Lib.hid hreg
        clear HM hreg hrb hmb hbel BC
        have OK1 : Hid (∀ i ∈ la, LkOk i) := Lib.hid fun i hi => (O1.out.1 i hi).1
        have OK2 : Hid (∀ i ∈ lb, LkOk i) := Lib.hid fun i hi => (O2.out.1 i hi).1
        generalize madeT l = ts at *
        have HR1 := Lib.hid (resolveReg rb mb _ _ ts A1 n1 c1 _ la wd RD.out (H1.out.below BD.out) BD.out.size OK1.out (by have := LN.out; have := S1.out; omega) (by have := S1.out; omega))
        go_wp2_with fail
        refine HR1.out.mono ?_
        rintro e we ⟨P, Q, rfl, hP, hQ, hd, hbel⟩
        have BE := Lib.hid (BD.out.trans (hbel.mono BD.out.size))
        have RE := Lib.hid (RD.out.below (hbel.mono RD.out.lt.2.2))
        have KP := Lib.hid hP
        have KQ := Lib.hid hQ
        have CP := Lib.hid hd.2
        clear HR1 hbel hP hQ hd BD RD
        have HR2 := Lib.hid (resolveReg rb mb _ _ ts A2 n2 c2 _ lb we RE.out (H2.out.below BE.out) BE.out.size OK2.out (by have := LN.out; have := S2.out; omega) (by have := S2.out; omega))
        unfold Sl.val
        go_wp2_with fail
        refine HR2.out.mono ?_
        rintro e wf ⟨P', Q', rfl, hP, hQ, hd, hbel⟩
        have BF := Lib.hid (BE.out.trans (hbel.mono BE.out.size))
        have RF := Lib.hid (RE.out.below (hbel.mono RE.out.lt.2.2))
        have KP' := Lib.hid hP
        have KQ' := Lib.hid hQ
        have KP2 := Lib.hid ((KP.out.below hbel).more (Nat.le_refl _) hbel.size)
        have KQ2 := Lib.hid ((KQ.out.below hbel).more (Nat.le_refl _) hbel.size)
        have CP' := Lib.hid hd.2
        clear HR2 hbel hP hQ hd BE RE KP KQ
        unfold Sl.val
        obtain ⟨css1, hcs1, hsee1⟩ := (H1.out.below BF.out).elems
        obtain ⟨css2, hcs2, hsee2⟩ := (H2.out.below BF.out).elems
        have CS1 := Lib.hid hcs1
        have CS2 := Lib.hid hcs2
        have SEE1 := Lib.hid hsee1
        have SEE2 := Lib.hid hsee2
        have LB1 : Hid (n1 ≤ 2000 ∧ n2 ≤ 2000) := Lib.hid (by have := LN.out; have := S1.out; have := S2.out; omega)
        clear hcs1 hcs2 hsee1 hsee2
        go_wp2_with (first
          | ((with_reducible show wpList _ _ _ ({ dst := some 47, op := _, type := _, pos := _, after := _, guard := _ } :: _) _ _); go_must (refine wpList_appendN rfl (.const (.slice none 0 0)) (.tmp 46) 34 60 _ 34 80 rfl Try.underlying34 info_look6 zsz_look6 (by omega) (.slice none 0 0) 0 [] wf.heap.size w.heap.size A1 n1 c1 css1.flatten rfl (World.ownsRow_nil _ _ _ _) ?_ SEE1.out CS1.out.one (by unfold maxLen; have := LB1.out; omega) (by have := LB1.out; omega) (Nat.le_refl _) ?_; go_simp; intro v1 u1 ho1 hg1; rw [Nat.zero_add, List.nil_append] at ho1; obtain ⟨A3, c3, rfl, _, _, _, _⟩ := own_form2 ho1; have OA := Lib.hid ho1; have GA := Lib.hid (hg1.below (World.ownsRow_nil wf wf.heap.size 60 34) (Nat.le_refl _)); clear ho1 hg1))
          | ((with_reducible show wpList _ _ _ ({ dst := some 49, op := _, type := _, pos := _, after := _, guard := _ } :: _) _ _); go_must (refine wpList_appendN rfl (.tmp 47) (.tmp 48) 34 60 _ 34 80 rfl Try.underlying34 info_look6 zsz_look6 (by omega) (.slice A3 n1 c3) n1 css1.flatten wf.heap.size w.heap.size A2 n2 c2 css2.flatten ?_ OA.out ?_ (SEE2.out.below (GA.out.mono BF.out.size)) CS2.out.one (by unfold maxLen; have := LB1.out; omega) (by have := LB1.out; omega) GA.out.size ?_; go_simp; go_simp; intro v2 u2 ho2 hg2; obtain ⟨A4, c4, rfl, hs4, _, _, _⟩ := own_form2 ho2; have SE4 := Lib.hid hs4; have GB := Lib.hid (GA.out.trans (hg2.below OA.out GA.out.size)); clear ho2 hg2 hs4)))
        have BU := Lib.hid (BF.out.trans (GB.out.mono BF.out.size))
        have RU := Lib.hid (RF.out.below (GB.out.mono RF.out.lt.2.2))
        have HLU : Hid (LooksIn u2 u2.heap.size A4 (n1 + n2) (la ++ lb)) := Lib.hid (by
          have hb : Below w.heap.size wf u2 := GB.out.mono BF.out.size
          have hz : w.heap.size ≤ u2.heap.size := BU.out.size
          have he := Elems.app (CS1.out.map (w' := u2) (B' := u2.heap.size) fun cs x h => h.keep hb hz) (CS2.out.map (w' := u2) (B' := u2.heap.size) fun cs x h => h.keep hb hz)
          exact he.looks (by rw [List.flatten_append]; exact SE4.out) (by rw [List.length_append]; have := LN.out; omega))
        have HR3 := Lib.hid (resolveReg rb mb _ _ ts A4 (n1 + n2) c4 _ (la ++ lb) u2 RU.out HLU.out (Nat.le_refl _) (fun x hx => (List.mem_append.1 hx).elim (OK1.out x) (OK2.out x)) (by have := LB1.out; omega) (by rw [lookSize_append]; have := S1.out; have := S2.out; omega))
        have KP3 := Lib.hid ((KP2.out.below (GB.out)).more (Nat.le_refl _) GB.out.size)
        have KQ3 := Lib.hid ((KQ2.out.below (GB.out)).more (Nat.le_refl _) GB.out.size)
        have KP3' := Lib.hid ((KP'.out.below (GB.out)).more (Nat.le_refl _) GB.out.size)
        have KQ3' := Lib.hid ((KQ'.out.below (GB.out)).more (Nat.le_refl _) GB.out.size)
        clear KP2 KQ2 KP' KQ' CS1 CS2 SEE1 SEE2 OA GA
        unfold Sl.val at *
        refine HR3.out.mono ?_
        rintro e wg ⟨U, V, rfl, hU, hV, hd, hbel⟩
        have BG := Lib.hid (BU.out.trans (hbel.mono BU.out.size))
        have KU := Lib.hid hU
        have KV := Lib.hid hV
        have GP := Lib.hid ((KP3.out.below hbel).more (Nat.le_refl _) hbel.size)
        have GQ := Lib.hid ((KQ3.out.below hbel).more (Nat.le_refl _) hbel.size)
        have GP' := Lib.hid ((KP3'.out.below hbel).more (Nat.le_refl _) hbel.size)
        have GQ' := Lib.hid ((KQ3'.out.below hbel).more (Nat.le_refl _) hbel.size)
        clear hU hV hd hbel HR3 HLU SE4
        obtain ⟨UA, un, uc⟩ := U
        obtain ⟨VA, vn, vc⟩ := V
        unfold Sl.val
        obtain ⟨PA, pn, pc⟩ := P
        obtain ⟨QA, qn, qc⟩ := Q
        obtain ⟨PA', pn', pc'⟩ := P'
        obtain ⟨QA', qn', qc'⟩ := Q'
        dsimp only
        rcases resErr_cases ts la with e1 | e1 | e1
        · rcases resErr_cases ts lb with e2 | e2 | e2
          · have hz : resErr ts (la ++ lb) = 0 := by rw [resErr_append, if_pos e1, e2]
            obtain ⟨hw, hr⟩ := resW_append e1 e2
            have KU2 := KU.out
            have KV2 := KV.out
            rw [hw] at KU2
            rw [hr] at KV2
            obtain rfl : pc = pn := CP.out.1
            obtain rfl : qc = qn := CP.out.2
            have l1 : (resW ts la).length = pc := GP.out.keys.len
            have l2 : (resR ts la).length = qc := GQ.out.keys.len
            have l3 : (resW ts lb).length = pn' := GP'.out.keys.len
            have l4 : (resR ts lb).length = qn' := GQ'.out.keys.len
            have l5 : (resW ts la ++ resW ts lb).length = un := KU2.keys.len
            have l6 : (resR ts la ++ resR ts lb).length = vn := KV2.keys.len
            rw [List.length_append, l1, l3] at l5
            rw [List.length_append, l2, l4] at l6
            subst l5 l6
            have HSZ : Hid (pc ≤ 2000 ∧ qc ≤ 2000 ∧ pn' ≤ 2000 ∧ qn' ≤ 2000) := Lib.hid (by
              have := resW_len ts la
              have := resW_len ts lb
              have := S1.out
              have := S2.out
              omega)
            have L1 := Lib.hid (And.intro l1 (And.intro l2 (And.intro l3 l4)))
            have HU := Lib.hid KU2
            have HV := Lib.hid KV2
            rw [hz, e1, e2]
            clear hz hw hr KU2 KV2 KU KV l1 l2 l3 l4 e1 e2 CP CP'
            generalize resW ts la = xa at *
            generalize resR ts la = ya at *
            generalize resW ts lb = xb at *
            generalize resR ts lb = yb at *
            go_wp2_with (first
              | ((with_reducible show wpList _ _ _ ({ dst := some 83, op := _, type := _, pos := _, after := _, guard := _ } :: _) _ _); go_must (refine wpList_addClip (by kernel_rfl) (.tmp 81) (.tmp 82) 33 32 rfl _ 32 32 Try.underlying33 info_key zsz6 (by omega) PA pc (bv xa.flatten) ?_ (GP.out.room rfl) GP.out.keys.sees wg.heap.size (PA'.map fun g => ⟨g, 0, none⟩) pn' pc' (bv xb.flatten) ?_ GP'.out.keys.sees (bv_one _) (by unfold maxLen; have := HSZ.out; omega) (by have := HSZ.out; omega) ?_; go_simp; go_simp; intro A5 c5 w5 hs5 hb5; have K5 := Lib.hid (keys_app hs5 L1.out.1 L1.out.2.2.1 GP.out.keys.each GP'.out.keys.each); have B5 := Lib.hid hb5; clear hs5 hb5)))
            refine (sameKeys _ _ (pc + pn') _ _ (xa ++ xb) w5 _ _ (HU.out.keys.below B5.out) K5.out (by unfold maxLen; have := HSZ.out; omega)).mono ?_
            rintro e w6 ⟨rfl, k6, hw6⟩
            have B6 : Hid (Below wg.heap.size wg w6) := Lib.hid (by rw [hw6]; exact below_drewN B5.out k6)
            clear hw6 K5 B5
            have GQ6 := Lib.hid (GQ.out.below B6.out)
            have GQ6' := Lib.hid (GQ'.out.below B6.out)
            have ZZ := Lib.hid B6.out.size
            go_wp2_with (first
              | ((with_reducible show wpList _ _ _ ({ dst := some 90, op := _, type := _, pos := _, after := _, guard := _ } :: _) _ _); go_must (refine wpList_addClip (by kernel_rfl) (.tmp 88) (.tmp 89) 33 32 rfl _ 32 32 Try.underlying33 info_key zsz6 (by omega) QA qc (bv ya.flatten) ?_ (GQ6.out.room rfl) (GQ6.out.keys.sees.more ZZ.out) wg.heap.size (QA'.map fun g => ⟨g, 0, none⟩) qn' qc' (bv yb.flatten) ?_ GQ6'.out.keys.sees (bv_one _) (by unfold maxLen; have := HSZ.out; omega) (by have := HSZ.out; omega) ?_; go_simp; go_simp; intro A7 c7 w7 hs7 hb7; have K7 := Lib.hid (keys_app hs7 L1.out.2.1 L1.out.2.2.2 GQ.out.keys.each GQ'.out.keys.each); have B7 := Lib.hid (B6.out.trans (hb7.mono B6.out.size)); clear hs7 hb7)))
            refine (sameKeys _ _ (qc + qn') _ _ (ya ++ yb) w7 _ _ (HV.out.keys.below B7.out) K7.out (by unfold maxLen; have := HSZ.out; omega)).mono ?_
            rintro e w8 ⟨rfl, k8, hw8⟩
            have B8 : Hid (Below w.heap.size w w8) := Lib.hid (BG.out.trans ((show Below wg.heap.size wg w8 by rw [hw8]; exact below_drewN B7.out k8).mono BG.out.size))
            clear hw8 K7 B7
            go_wp2_with fail
            refine (lives6 _).mono ?_
            rintro e w' ⟨rfl, hb⟩
            have HBB := Lib.hid (B8.out.trans (hb.mono B8.out.size))
            clear hb
            go_wp2_with fail
            go_ret
            exact ⟨rfl, HBB.out⟩
          · have hz : resErr ts (la ++ lb) = 8 := by rw [resErr_append]; rw [if_pos e1, e2]
            obtain ⟨hw, hr⟩ := resW_none (show resErr ts (la ++ lb) ≠ 0 by rw [hz]; omega)
            have hun := KU.out.keys.len
            have hvn := KV.out.keys.len
            rw [hw] at hun
            rw [hr] at hvn
            obtain rfl : 0 = un := hun
            obtain rfl : 0 = vn := hvn
            rw [hz, e1, e2]
            clear hz hw hr KU KV GP GQ GP' GQ' e1 e2
            go_wp2_with fail
            refine (lives6 _).mono ?_
            rintro e w' ⟨rfl, hb⟩
            have HBB := Lib.hid (BG.out.trans (hb.mono BG.out.size))
            clear hb
            go_wp2_with fail
            go_ret
            exact ⟨rfl, HBB.out⟩
          · have hz : resErr ts (la ++ lb) = 11 := by rw [resErr_append]; rw [if_pos e1, e2]
            obtain ⟨hw, hr⟩ := resW_none (show resErr ts (la ++ lb) ≠ 0 by rw [hz]; omega)
            have hun := KU.out.keys.len
            have hvn := KV.out.keys.len
            rw [hw] at hun
            rw [hr] at hvn
            obtain rfl : 0 = un := hun
            obtain rfl : 0 = vn := hvn
            rw [hz, e1, e2]
            clear hz hw hr KU KV GP GQ GP' GQ' e1 e2
            go_wp2_with fail
            refine (lives6 _).mono ?_
            rintro e w' ⟨rfl, hb⟩
            have HBB := Lib.hid (BG.out.trans (hb.mono BG.out.size))
            clear hb
            go_wp2_with fail
            go_ret
            exact ⟨rfl, HBB.out⟩
        · have hz : resErr ts (la ++ lb) = 8 := by rw [resErr_append]; rw [if_neg (by rw [e1]; omega), e1]
          obtain ⟨hw, hr⟩ := resW_none (show resErr ts (la ++ lb) ≠ 0 by rw [hz]; omega)
          have hun := KU.out.keys.len
          have hvn := KV.out.keys.len
          rw [hw] at hun
          rw [hr] at hvn
          obtain rfl : 0 = un := hun
          obtain rfl : 0 = vn := hvn
          rw [hz, e1]
          clear hz hw hr KU KV GP GQ GP' GQ' e1
          go_wp2_with fail
          refine (lives6 _).mono ?_
          rintro e w' ⟨rfl, hb⟩
          have HBB := Lib.hid (BG.out.trans (hb.mono BG.out.size))
          clear hb
          go_wp2_with fail
          go_ret
          exact ⟨rfl, HBB.out⟩
        · have hz : resErr ts (la ++ lb) = 11 := by rw [resErr_append]; rw [if_neg (by rw [e1]; omega), e1]
          obtain ⟨hw, hr⟩ := resW_none (show resErr ts (la ++ lb) ≠ 0 by rw [hz]; omega)
          have hun := KU.out.keys.len
          have hvn := KV.out.keys.len
          rw [hw] at hun
          rw [hr] at hvn
          obtain rfl : 0 = un := hun
          obtain rfl : 0 = vn := hvn
          rw [hz, e1]
          clear hz hw hr KU KV GP GQ GP' GQ' e1
          go_wp2_with fail
          refine (lives6 _).mono ?_
          rintro e w' ⟨rfl, hb⟩
          have HBB := Lib.hid (BG.out.trans (hb.mono BG.out.size))
          clear hb
          go_wp2_with fail
          go_ret
          exact ⟨rfl, HBB.out⟩
end Go.Proofs.Ytdbcbjjomhbhpaa
