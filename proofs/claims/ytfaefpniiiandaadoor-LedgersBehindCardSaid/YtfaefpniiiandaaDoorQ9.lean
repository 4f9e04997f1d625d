/-
  Parts joined: Prog15 Step15 All15.
-/
import Derived.Below
import Derived.Laws.OwnMore
import Derived.Deep.AppendLies
import Derived.Deep.Draws
import Derived.Lib.Hide
import Derived.Laws.MakeOwn
import Derived.Laws.CopyOwn
import Derived.Laws.Rows
import Derived.Maps.AppendAt
import Derived.OwnWalk
import Derived.Laws.BitsAllLaws
import Derived.WalkKit
import Derived.Test.YtfaefpniiiandaaDoorRows
import Derived.WalkSpells
import Derived.WalkLawsBesides
import Derived.IntWalk
import Derived.Deep.MidRow
import Derived.Deep.WholeRow
import Derived.Great.BuildSlice
import Derived.Recover
import Derived.Deep.RegionHeld
import Derived.Deep.QuietTactic
import Derived.BigQuiet
import Derived.ChangeKeysEq
import Derived.Deep.RegionHeld2
import Derived.Deep.CutBlock
import Derived.Laws.Tables
import Derived.ProofKit
import Derived.OpenShut
import Derived.ShutString
import Derived.ChangeOld
import Derived.Lib.SmallJoins
import Derived.Deep.Slices
import Derived.Deep.Strs
import Derived.SizedLaws
import Derived.Laws.StructEq
import Derived.Laws.Slices
import Derived.Deep.DeepCutAuto
import Derived.Maps.OwnSet
import Derived.DeepKeys4
import Derived.WideKeyArr
import Derived.Laws.EntriesVeiled
import Derived.Deep.RegionHeld3
import Derived.WideKeyEntry
import Derived.WalkMore
import Derived.Maps.RangeWalk
import Derived.Shelf.SlMaps.Clone
import Derived.Laws.Append
import Derived.Laws.AppendOwn
import Derived.LaidMore
import Derived.Maps.OwnOps
import Derived.Laws.BytesArg
import Derived.Laws.Strings
import Derived.Lib.Strings
import Derived.Great.Walk
import Derived.Laws.Bits64b
import Derived.Laws.Externs
import Derived.LaidHandle
import Derived.LaidLaws
import Derived.RangeFuncOwn
import Derived.Test.YtfaefpniiiandaaDoorQ1
import Derived.Test.YtfaefpniiiandaaDoorQ2
import Derived.Test.YtfaefpniiiandaaDoorQ3
import Derived.Test.YtfaefpniiiandaaDoorQ4
import Derived.Test.YtfaefpniiiandaaDoorQ5
import Derived.Test.YtfaefpniiiandaaDoorQ6
import Derived.Test.YtfaefpniiiandaaDoorQ7
import Derived.Test.YtfaefpniiiandaaDoorQ8
/-
  Of part Prog15: what is needed here.
-/
namespace Go.Proofs.YtfaefpniiiandaaDoor
open Go.RowKit Go.Maps
set_option linter.unusedVariables false
set_option maxRecDepth 100000
theorem k0_key15 : k0.length = 32 ∧ AllBytes k0 := by
  refine ⟨rfl, fun x hx => ?_⟩
  obtain rfl := List.eq_of_mem_replicate (show x ∈ List.replicate 32 0 from hx)
  exact ⟨by decide, by decide⟩
theorem k3_key15 : k3.length = 32 ∧ AllBytes k3 := by
  refine ⟨rfl, fun x hx => ?_⟩
  have h : ∀ y ∈ k3, 0 ≤ y ∧ y < 256 := by decide
  exact h x hx
theorem k0_ne15 : k0 ≠ k3 := by decide
theorem fnE_inv_nil {v : Value} {ps : List MemPlace} (h : fnE v = some (.lit (.int .i64 (-1)), ps)) : v = .nilFunc := by
  unfold fnE at h
  split at h
  · rename_i hx
    injection h with h
    injection h with h _
    injection h with h
    injection h with _ h
    omega
  · split at h
    · assumption
    · cases h
/-- what the map of programs reads as -/
structure PD15 (D : DataW Unit) : Prop where
  at0 : ∀ z, D.atKey (KL k0) z = FnD14 65
  at3 : ∀ z, D.atKey (KL k3) z = FnD14 66
  no : ∀ k, k.length = 32 ∧ AllBytes k → k ≠ k0 → k ≠ k3 → Go.Maps.has D (KL k) = false
theorem pd_a15 : PD15 (((DataW.map []).put (KL k0) (FnD14 65)).put (KL k3) (FnD14 66)) := by
  have hk0 := KL_key k0_key15.1 k0_key15.2
  have hk3 := KL_key k3_key15.1 k3_key15.2
  have hm := (isMap_empty (H := Unit)).put (KL k0) (FnD14 65)
  have ne : KL k0 ≠ KL k3 := fun e => k0_ne15 (KL_inj k0_key15.1 k0_key15.2 k3_key15.1 k3_key15.2 e)
  refine ⟨fun z => ?_, fun z => atKey_put_same hm hk3 _ _, fun k hk h0 h3 => ?_⟩
  · rw [atKey_put_other ne, atKey_put_same isMap_empty hk0]
  · rw [has_put_other (fun e => h3 (KL_inj hk.1 hk.2 k3_key15.1 k3_key15.2 e)), has_put_other (fun e => h0 (KL_inj hk.1 hk.2 k0_key15.1 k0_key15.2 e))]
    rfl
theorem pd_b15 : PD15 (((DataW.map []).put (KL k3) (FnD14 66)).put (KL k0) (FnD14 65)) := by
  have hk0 := KL_key k0_key15.1 k0_key15.2
  have hk3 := KL_key k3_key15.1 k3_key15.2
  have hm := (isMap_empty (H := Unit)).put (KL k3) (FnD14 66)
  have ne : KL k3 ≠ KL k0 := fun e => k0_ne15 (KL_inj k3_key15.1 k3_key15.2 k0_key15.1 k0_key15.2 e).symm
  refine ⟨fun z => atKey_put_same hm hk0 _ _, fun z => ?_, fun k hk h0 h3 => ?_⟩
  · rw [atKey_put_other ne, atKey_put_same isMap_empty hk3]
  · rw [has_put_other (fun e => h0 (KL_inj hk.1 hk.2 k0_key15.1 k0_key15.2 e)), has_put_other (fun e => h3 (KL_inj hk.1 hk.2 k3_key15.1 k3_key15.2 e))]
    rfl
/-- a map of programs in a block -/
def PM15 (w : World) (mb : Nat) : Prop := ∃ n D, w.ownsMap Tryd.prog 57 fnE mb n D ∧ PD15 D
theorem PM15.lt {w : World} {mb : Nat} (h : PM15 w mb) : mb < w.heap.size := by
  obtain ⟨n, D, ⟨es, cl, hm, _⟩, _⟩ := h
  exact (Array.getElem?_eq_some_iff.1 hm).1
theorem PM15.keep {w w' : World} {mb : Nat} (h : PM15 w mb) (h2 : w'.heap[mb]? = w.heap[mb]?) : PM15 w' mb := by
  obtain ⟨n, D, ⟨es, cl, hm, F, hs, hD⟩, had⟩ := h
  exact ⟨n, D, ⟨es, cl, h2.trans hm, F, hs, hD⟩, had⟩
theorem PM15.below {w w' : World} {mb : Nat} (h : PM15 w mb) (hb : Below w.heap.size w w') : PM15 w' mb := h.keep (hb.block _ h.lt)
theorem PM15.row_ne {w : World} {mb g t : Nat} {xs : List Value} (h : PM15 w mb) (hr : Row w g t xs) : g ≠ mb := by
  rintro rfl
  obtain ⟨n, D, ⟨es, cl, hm, _⟩, _⟩ := h
  rw [hr.is] at hm
  cases hm
/-- the program of a key -/
def fnV15 (k : List Int) : Value := if k = k0 then .func (.func 65) #[] #[] else if k = k3 then .func (.func 66) #[] #[] else .nilFunc
theorem zero_fn15 (w : World) : (zeroValue 154).run Tryd.prog w = .ok .nilFunc w := by kernel_rfl
theorem PM15.look {w : World} {mb : Nat} (h : PM15 w mb) {k : List Int} (hk : k.length = 32 ∧ AllBytes k) : (Instr.lookup 124 (.map (some mb)) (.agg (bv k).toArray) true).run Tryd.prog w = .ok (.tuple #[fnV15 k, .bool (decide (k = k0 ∨ k = k3))]) w := by
  obtain ⟨n, D, hown, hd⟩ := h
  obtain ⟨v, ps, hrun, hv⟩ := hown.look_ok key_law Tryd.underlying124 (zero_fn15 w) fnE_nil (KL_is hk.1 hk.2)
  rw [hrun]
  unfold fnV15
  by_cases e0 : k = k0
  · subst e0
    rw [hd.at0] at hv
    rw [fnE_inv hv, has_true_of_atKey hd.at0, if_pos rfl, decide_eq_true (.inl rfl)]
  · by_cases e3 : k = k3
    · subst e3
      rw [hd.at3] at hv
      rw [fnE_inv hv, has_true_of_atKey hd.at3, if_neg e0, if_pos rfl, decide_eq_true (.inr rfl)]
    · have hn := hd.no k hk e0 e3
      rw [atKey_of_not_has hn] at hv
      rw [fnE_inv_nil hv, hn, if_neg e0, if_neg e3, decide_eq_false (by rintro (h | h); exact e0 h; exact e3 h)]
theorem exec_lookup15 {a : Act} {o : Oper} (w : World) (m x : Operand) (hop : o.op = Op.lookup 124 m x true) (b : Nat) (k : List Int) (v : Value) (hm : a.eval m = .map (some b)) (hx : a.eval x = .agg (bv k).toArray)
    (hr : (Instr.lookup 124 (.map (some b)) (.agg (bv k).toArray) true).run Tryd.prog w = .ok v w) : (execOp a.eval o).run Tryd.prog w = .ok (.value v) w := by
  unfold execOp
  simp only [hop, hm, hx, Sem.run_bind, Sem.run_pure, hr, Result.andThen_ok]
theorem wp_makeMap15 {P : Program} {o : Oper} {a : Act} {w w' : World} {K : Act → World → Prop} {Q : Exit → Act → World → Prop} (t : TypeId) (hop : o.op = Op.makeMap t none) {v : Value} (hrun : (Instr.makeMap t none).run P w = .ok v w') (h : K (a.put o.dst v) w') : o.wp P a w K Q := by
  unfold Oper.wp
  simp [execOp, hop, hrun, Result.andThen]
  exact h
theorem wp_insert15 {H : Type} {P : Program} (w : World) {o : Oper} {a : Act} {K : Act → World → Prop} {Q : Exit → Act → World → Prop} (m x v : Operand) (t : TypeId) (hop : o.op = Op.insert t m x v)
    (k e : TypeId) (KK : Keyed P k) (ht : P.underlying t = some (.map k e)) (R : Value → Option (DataW H × List MemPlace)) (b n : Nat) (D : DataW H)
    (hm : a.eval m = .map (some b)) (hown : w.ownsMap P k R b n D) (hn : n < maxLen) (key val : Value) (kl : Lit) (hx : a.eval x = key) (hv : a.eval v = val) (hkey : Go.keyOf P k key = some kl)
    (d : DataW H) (ps : List MemPlace) (hval : R val = some (d, ps))
    (hK : ∀ w', w'.ownsMap P k R b (n + 1) (D.put kl d) → w.grownBy w' (some b) → K (a.put o.dst undef) w') : o.wp P a w K Q := by
  obtain ⟨w', hrun, r1, r2⟩ := hown.update KK ht hn hkey hval
  unfold Oper.wp
  simp [execOp, hop, hm, hx, hv, hrun, Result.andThen]
  exact hK w' r1 r2
theorem own_below15 {k : TypeId} {R : Value → Option (DataW Unit × List MemPlace)} {w w' : World} {b n : Nat} {D : DataW Unit} (h : w.ownsMap Tryd.prog k R b n D) (hb : Below w.heap.size w w') : w'.ownsMap Tryd.prog k R b n D := by
  have hlt := h.lt
  obtain ⟨es, cl, hm, F, hs, hD⟩ := h
  exact ⟨es, cl, (hb.block _ hlt).trans hm, F, hs, hD⟩
set_option maxHeartbeats 8000000 in
theorem programs15 (w : World) : Calls Tryd.prog 50 #[] w fun e w' => ∃ mb, e = .returned (.map (some mb)) ∧ PM15 w' mb ∧ w.heap.size ≤ mb ∧ Below w.heap.size w w' := by
  have hmm : ∀ w, (Instr.makeMap 124 none).run Tryd.prog w = .ok (.map (some w.heap.size)) (w.alloc (.map #[] 0)) := fun w => by first | rfl | kernel_rfl
  go_enter Tryd.func50, Tryd.ntmps50
  go_upto_region 1 with fail
  have B0 := Lib.hid (Below.refl w.heap.size w).drew
  refine wp_region_held_drew (S := fun V => Below w.heap.size w V) (by kernel_rfl) B0.out (fun _ => ?_)
  try dsimp only [List.append]
  obtain ⟨y0, hy0⟩ : ∃ u, u = w.drew := ⟨_, rfl⟩
  rw [← hy0] at B0 ⊢
  clear hy0
  refine readyL2 (i := 0) (j := 1) rfl rfl (by kernel_rfl) (by kernel_rfl) (by kernel_rfl) (fun K hK => ?_) (fun K hK => ?_)
  · have hx := hmm y0
    have H1 := Lib.hid (World.ownsMap_made y0 Tryd.prog 57 fnE)
    have B1 := Lib.hid (B0.out.alloc B0.out.size (.map #[] 0))
    have G1 : Hid (w.heap.size ≤ y0.heap.size) := Lib.hid B0.out.size
    refine wp_makeMap15 124 rfl hx ?_
    clear hx
    obtain ⟨m1, hm1⟩ : ∃ m, m = y0.heap.size := ⟨_, rfl⟩
    rw [← hm1] at H1 G1 ⊢
    clear hm1
    generalize y0.alloc (.map #[] 0) = y1 at *
    refine hK.out _ _ B1.out ?_
    clear hK K
    try simp only [Act.put, List.setIfInBounds_toArray, List.set_cons_zero, List.set_cons_succ]
    refine readyL (i := 1) rfl (by kernel_rfl) (by kernel_rfl) fun K hK => ?_
    go_simp
    refine (system_ _).mono ?_
    rintro e y3 ⟨rfl, hb⟩
    have B3 := Lib.hid (B1.out.trans (hb.mono B1.out.size))
    have H3 := Lib.hid (own_below15 H1.out hb)
    clear hb
    refine hK.out _ _ B3.out ?_
    clear hK K
    try simp only [Act.put, List.setIfInBounds_toArray, List.set_cons_zero, List.set_cons_succ]
    refine readyL2 (i := 2) (j := 3) rfl rfl (by kernel_rfl) (by kernel_rfl) (by kernel_rfl) (fun K hK => ?_) (fun K hK => ?_)
    · refine wp_insert15 _ (.tmp 1) (.tmp 2) (.func 65) 124 rfl 57 154 key_law Tryd.underlying124 fnE m1 0 (DataW.map []) (by go_simp) H3.out (by decide) (.agg (bv k0).toArray) (.func (.func 65) #[] #[]) (KL k0) (by go_simp) (by go_simp) (KL_is k0_key15.1 k0_key15.2) (FnD14 65) [] (fnE_mk _) ?_
      intro y4 ho hg
      have H4 := Lib.hid ho
      have B4 := Lib.hid (B3.out.grown hg B3.out.size (fun k hk => by cases hk; exact G1.out))
      clear ho hg
      refine hK.out _ _ B4.out ?_
      clear hK K
      try simp only [Act.put]
      refine readyL (i := 3) rfl (by kernel_rfl) (by kernel_rfl) fun K hK => ?_
      go_simp
      refine (budget_ _).mono ?_
      rintro e y6 ⟨rfl, hb⟩
      have B6 := Lib.hid (B4.out.trans (hb.mono B4.out.size))
      have H6 := Lib.hid (own_below15 H4.out hb)
      clear hb
      refine hK.out _ _ B6.out ?_
      clear hK K
      try simp only [Act.put, List.setIfInBounds_toArray, List.set_cons_zero, List.set_cons_succ]
      refine readyL (i := 4) rfl (by kernel_rfl) (by kernel_rfl) fun K hK => ?_
      refine wp_insert15 _ (.tmp 1) (.tmp 3) (.func 66) 124 rfl 57 154 key_law Tryd.underlying124 fnE m1 1 ((DataW.map []).put (KL k0) (FnD14 65)) (by go_simp) H6.out (by decide) (.agg (bv k3).toArray) (.func (.func 66) #[] #[]) (KL k3) (by go_simp) (by go_simp) (KL_is k3_key15.1 k3_key15.2) (FnD14 66) [] (fnE_mk _) ?_
      intro y7 ho hg
      have H7 := Lib.hid ho
      have B7 := Lib.hid (B6.out.grown hg B6.out.size (fun k hk => by cases hk; exact G1.out))
      clear ho hg
      refine hK.out _ _ B7.out ?_
      clear hK K
      try simp only [Act.put]
      refine takeL (i := 5) (v := ?_) rfl (by kernel_rfl) (by kernel_rfl) (by kernel_rfl) (fun _ _ _ h => h) (Or.inl ⟨by rfl, ?_⟩) B7.out ?_
      rotate_left
      · intro w hw
        try dsimp only at hw
        go_simp
        try with_reducible rfl
      try simp only [Act.put, List.setIfInBounds_toArray, List.set_cons_zero, List.set_cons_succ]
      refine takeL (i := 6) (v := ?_) rfl (by kernel_rfl) (by kernel_rfl) (by kernel_rfl) (fun _ _ _ h => h) (Or.inl ⟨by rfl, ?_⟩) B7.out ?_
      rotate_left
      · intro w hw
        try dsimp only at hw
        go_simp
        try with_reducible rfl
      try simp only [Act.put, List.setIfInBounds_toArray, List.set_cons_zero]
      refine wpAnyH_done (by kernel_rfl) ?_ _
      go_wp2_with fail
      go_ret
      exact ⟨_, rfl, ⟨_, _, H7.out, pd_a15⟩, G1.out, B7.out⟩
    · go_simp
      refine (budget_ _).mono ?_
      rintro e y5 ⟨rfl, hb⟩
      have B5 := Lib.hid (B3.out.trans (hb.mono B3.out.size))
      have H5 := Lib.hid (own_below15 H3.out hb)
      clear hb
      refine hK.out _ _ B5.out ?_
      clear hK K
      try simp only [Act.put, List.setIfInBounds_toArray, List.set_cons_zero, List.set_cons_succ]
      refine readyL2 (i := 2) (j := 4) rfl rfl (by kernel_rfl) (by kernel_rfl) (by kernel_rfl) (fun K hK => ?_) (fun K hK => ?_)
      · refine wp_insert15 _ (.tmp 1) (.tmp 2) (.func 65) 124 rfl 57 154 key_law Tryd.underlying124 fnE m1 0 (DataW.map []) (by go_simp) H5.out (by decide) (.agg (bv k0).toArray) (.func (.func 65) #[] #[]) (KL k0) (by go_simp) (by go_simp) (KL_is k0_key15.1 k0_key15.2) (FnD14 65) [] (fnE_mk _) ?_
        intro y8 ho hg
        have H8 := Lib.hid ho
        have B8 := Lib.hid (B5.out.grown hg B5.out.size (fun k hk => by cases hk; exact G1.out))
        clear ho hg
        refine hK.out _ _ B8.out ?_
        clear hK K
        try simp only [Act.put]
        refine readyL (i := 4) rfl (by kernel_rfl) (by kernel_rfl) fun K hK => ?_
        refine wp_insert15 _ (.tmp 1) (.tmp 3) (.func 66) 124 rfl 57 154 key_law Tryd.underlying124 fnE m1 1 ((DataW.map []).put (KL k0) (FnD14 65)) (by go_simp) H8.out (by decide) (.agg (bv k3).toArray) (.func (.func 66) #[] #[]) (KL k3) (by go_simp) (by go_simp) (KL_is k3_key15.1 k3_key15.2) (FnD14 66) [] (fnE_mk _) ?_
        intro y10 ho hg
        have H10 := Lib.hid ho
        have B10 := Lib.hid (B8.out.grown hg B8.out.size (fun k hk => by cases hk; exact G1.out))
        clear ho hg
        refine hK.out _ _ B10.out ?_
        clear hK K
        try simp only [Act.put]
        refine takeL (i := 5) (v := ?_) rfl (by kernel_rfl) (by kernel_rfl) (by kernel_rfl) (fun _ _ _ h => h) (Or.inl ⟨by rfl, ?_⟩) B10.out ?_
        rotate_left
        · intro w hw
          try dsimp only at hw
          go_simp
          try with_reducible rfl
        try simp only [Act.put, List.setIfInBounds_toArray, List.set_cons_zero, List.set_cons_succ]
        refine takeL (i := 6) (v := ?_) rfl (by kernel_rfl) (by kernel_rfl) (by kernel_rfl) (fun _ _ _ h => h) (Or.inl ⟨by rfl, ?_⟩) B10.out ?_
        rotate_left
        · intro w hw
          try dsimp only at hw
          go_simp
          try with_reducible rfl
        try simp only [Act.put, List.setIfInBounds_toArray, List.set_cons_zero]
        refine wpAnyH_done (by kernel_rfl) ?_ _
        go_wp2_with fail
        go_ret
        exact ⟨_, rfl, ⟨_, _, H10.out, pd_a15⟩, G1.out, B10.out⟩
      · refine wp_insert15 _ (.tmp 1) (.tmp 3) (.func 66) 124 rfl 57 154 key_law Tryd.underlying124 fnE m1 0 (DataW.map []) (by go_simp) H5.out (by decide) (.agg (bv k3).toArray) (.func (.func 66) #[] #[]) (KL k3) (by go_simp) (by go_simp) (KL_is k3_key15.1 k3_key15.2) (FnD14 66) [] (fnE_mk _) ?_
        intro y9 ho hg
        have H9 := Lib.hid ho
        have B9 := Lib.hid (B5.out.grown hg B5.out.size (fun k hk => by cases hk; exact G1.out))
        clear ho hg
        refine hK.out _ _ B9.out ?_
        clear hK K
        try simp only [Act.put]
        refine readyL (i := 2) rfl (by kernel_rfl) (by kernel_rfl) fun K hK => ?_
        refine wp_insert15 _ (.tmp 1) (.tmp 2) (.func 65) 124 rfl 57 154 key_law Tryd.underlying124 fnE m1 1 ((DataW.map []).put (KL k3) (FnD14 66)) (by go_simp) H9.out (by decide) (.agg (bv k0).toArray) (.func (.func 65) #[] #[]) (KL k0) (by go_simp) (by go_simp) (KL_is k0_key15.1 k0_key15.2) (FnD14 65) [] (fnE_mk _) ?_
        intro y11 ho hg
        have H11 := Lib.hid ho
        have B11 := Lib.hid (B9.out.grown hg B9.out.size (fun k hk => by cases hk; exact G1.out))
        clear ho hg
        refine hK.out _ _ B11.out ?_
        clear hK K
        try simp only [Act.put]
        refine takeL (i := 5) (v := ?_) rfl (by kernel_rfl) (by kernel_rfl) (by kernel_rfl) (fun _ _ _ h => h) (Or.inl ⟨by rfl, ?_⟩) B11.out ?_
        rotate_left
        · intro w hw
          try dsimp only at hw
          go_simp
          try with_reducible rfl
        try simp only [Act.put, List.setIfInBounds_toArray, List.set_cons_zero, List.set_cons_succ]
        refine takeL (i := 6) (v := ?_) rfl (by kernel_rfl) (by kernel_rfl) (by kernel_rfl) (fun _ _ _ h => h) (Or.inl ⟨by rfl, ?_⟩) B11.out ?_
        rotate_left
        · intro w hw
          try dsimp only at hw
          go_simp
          try with_reducible rfl
        try simp only [Act.put, List.setIfInBounds_toArray, List.set_cons_zero]
        refine wpAnyH_done (by kernel_rfl) ?_ _
        go_wp2_with fail
        go_ret
        exact ⟨_, rfl, ⟨_, _, H11.out, pd_b15⟩, G1.out, B11.out⟩
  · go_simp
    refine (system_ _).mono ?_
    rintro e y2 ⟨rfl, hb⟩
    have B2 := Lib.hid (B0.out.trans (hb.mono B0.out.size))
    clear hb
    refine hK.out _ _ B2.out ?_
    clear hK K
    try simp only [Act.put, List.setIfInBounds_toArray, List.set_cons_zero, List.set_cons_succ]
    refine readyL2 (i := 0) (j := 3) rfl rfl (by kernel_rfl) (by kernel_rfl) (by kernel_rfl) (fun K hK => ?_) (fun K hK => ?_)
    · have hx := hmm y2
      have H12 := Lib.hid (World.ownsMap_made y2 Tryd.prog 57 fnE)
      have B12 := Lib.hid (B2.out.alloc B2.out.size (.map #[] 0))
      have G12 : Hid (w.heap.size ≤ y2.heap.size) := Lib.hid B2.out.size
      refine wp_makeMap15 124 rfl hx ?_
      clear hx
      obtain ⟨m12, hm12⟩ : ∃ m, m = y2.heap.size := ⟨_, rfl⟩
      rw [← hm12] at H12 G12 ⊢
      clear hm12
      generalize y2.alloc (.map #[] 0) = y12 at *
      refine hK.out _ _ B12.out ?_
      clear hK K
      try simp only [Act.put, List.setIfInBounds_toArray, List.set_cons_zero, List.set_cons_succ]
      refine readyL2 (i := 2) (j := 3) rfl rfl (by kernel_rfl) (by kernel_rfl) (by kernel_rfl) (fun K hK => ?_) (fun K hK => ?_)
      · refine wp_insert15 _ (.tmp 1) (.tmp 2) (.func 65) 124 rfl 57 154 key_law Tryd.underlying124 fnE m12 0 (DataW.map []) (by go_simp) H12.out (by decide) (.agg (bv k0).toArray) (.func (.func 65) #[] #[]) (KL k0) (by go_simp) (by go_simp) (KL_is k0_key15.1 k0_key15.2) (FnD14 65) [] (fnE_mk _) ?_
        intro y14 ho hg
        have H14 := Lib.hid ho
        have B14 := Lib.hid (B12.out.grown hg B12.out.size (fun k hk => by cases hk; exact G12.out))
        clear ho hg
        refine hK.out _ _ B14.out ?_
        clear hK K
        try simp only [Act.put]
        refine readyL (i := 3) rfl (by kernel_rfl) (by kernel_rfl) fun K hK => ?_
        go_simp
        refine (budget_ _).mono ?_
        rintro e y16 ⟨rfl, hb⟩
        have B16 := Lib.hid (B14.out.trans (hb.mono B14.out.size))
        have H16 := Lib.hid (own_below15 H14.out hb)
        clear hb
        refine hK.out _ _ B16.out ?_
        clear hK K
        try simp only [Act.put, List.setIfInBounds_toArray, List.set_cons_zero, List.set_cons_succ]
        refine readyL (i := 4) rfl (by kernel_rfl) (by kernel_rfl) fun K hK => ?_
        refine wp_insert15 _ (.tmp 1) (.tmp 3) (.func 66) 124 rfl 57 154 key_law Tryd.underlying124 fnE m12 1 ((DataW.map []).put (KL k0) (FnD14 65)) (by go_simp) H16.out (by decide) (.agg (bv k3).toArray) (.func (.func 66) #[] #[]) (KL k3) (by go_simp) (by go_simp) (KL_is k3_key15.1 k3_key15.2) (FnD14 66) [] (fnE_mk _) ?_
        intro y17 ho hg
        have H17 := Lib.hid ho
        have B17 := Lib.hid (B16.out.grown hg B16.out.size (fun k hk => by cases hk; exact G12.out))
        clear ho hg
        refine hK.out _ _ B17.out ?_
        clear hK K
        try simp only [Act.put]
        refine takeL (i := 5) (v := ?_) rfl (by kernel_rfl) (by kernel_rfl) (by kernel_rfl) (fun _ _ _ h => h) (Or.inl ⟨by rfl, ?_⟩) B17.out ?_
        rotate_left
        · intro w hw
          try dsimp only at hw
          go_simp
          try with_reducible rfl
        try simp only [Act.put, List.setIfInBounds_toArray, List.set_cons_zero, List.set_cons_succ]
        refine takeL (i := 6) (v := ?_) rfl (by kernel_rfl) (by kernel_rfl) (by kernel_rfl) (fun _ _ _ h => h) (Or.inl ⟨by rfl, ?_⟩) B17.out ?_
        rotate_left
        · intro w hw
          try dsimp only at hw
          go_simp
          try with_reducible rfl
        try simp only [Act.put, List.setIfInBounds_toArray, List.set_cons_zero]
        refine wpAnyH_done (by kernel_rfl) ?_ _
        go_wp2_with fail
        go_ret
        exact ⟨_, rfl, ⟨_, _, H17.out, pd_a15⟩, G12.out, B17.out⟩
      · go_simp
        refine (budget_ _).mono ?_
        rintro e y15 ⟨rfl, hb⟩
        have B15 := Lib.hid (B12.out.trans (hb.mono B12.out.size))
        have H15 := Lib.hid (own_below15 H12.out hb)
        clear hb
        refine hK.out _ _ B15.out ?_
        clear hK K
        try simp only [Act.put, List.setIfInBounds_toArray, List.set_cons_zero, List.set_cons_succ]
        refine readyL2 (i := 2) (j := 4) rfl rfl (by kernel_rfl) (by kernel_rfl) (by kernel_rfl) (fun K hK => ?_) (fun K hK => ?_)
        · refine wp_insert15 _ (.tmp 1) (.tmp 2) (.func 65) 124 rfl 57 154 key_law Tryd.underlying124 fnE m12 0 (DataW.map []) (by go_simp) H15.out (by decide) (.agg (bv k0).toArray) (.func (.func 65) #[] #[]) (KL k0) (by go_simp) (by go_simp) (KL_is k0_key15.1 k0_key15.2) (FnD14 65) [] (fnE_mk _) ?_
          intro y18 ho hg
          have H18 := Lib.hid ho
          have B18 := Lib.hid (B15.out.grown hg B15.out.size (fun k hk => by cases hk; exact G12.out))
          clear ho hg
          refine hK.out _ _ B18.out ?_
          clear hK K
          try simp only [Act.put]
          refine readyL (i := 4) rfl (by kernel_rfl) (by kernel_rfl) fun K hK => ?_
          refine wp_insert15 _ (.tmp 1) (.tmp 3) (.func 66) 124 rfl 57 154 key_law Tryd.underlying124 fnE m12 1 ((DataW.map []).put (KL k0) (FnD14 65)) (by go_simp) H18.out (by decide) (.agg (bv k3).toArray) (.func (.func 66) #[] #[]) (KL k3) (by go_simp) (by go_simp) (KL_is k3_key15.1 k3_key15.2) (FnD14 66) [] (fnE_mk _) ?_
          intro y20 ho hg
          have H20 := Lib.hid ho
          have B20 := Lib.hid (B18.out.grown hg B18.out.size (fun k hk => by cases hk; exact G12.out))
          clear ho hg
          refine hK.out _ _ B20.out ?_
          clear hK K
          try simp only [Act.put]
          refine takeL (i := 5) (v := ?_) rfl (by kernel_rfl) (by kernel_rfl) (by kernel_rfl) (fun _ _ _ h => h) (Or.inl ⟨by rfl, ?_⟩) B20.out ?_
          rotate_left
          · intro w hw
            try dsimp only at hw
            go_simp
            try with_reducible rfl
          try simp only [Act.put, List.setIfInBounds_toArray, List.set_cons_zero, List.set_cons_succ]
          refine takeL (i := 6) (v := ?_) rfl (by kernel_rfl) (by kernel_rfl) (by kernel_rfl) (fun _ _ _ h => h) (Or.inl ⟨by rfl, ?_⟩) B20.out ?_
          rotate_left
          · intro w hw
            try dsimp only at hw
            go_simp
            try with_reducible rfl
          try simp only [Act.put, List.setIfInBounds_toArray, List.set_cons_zero]
          refine wpAnyH_done (by kernel_rfl) ?_ _
          go_wp2_with fail
          go_ret
          exact ⟨_, rfl, ⟨_, _, H20.out, pd_a15⟩, G12.out, B20.out⟩
        · refine wp_insert15 _ (.tmp 1) (.tmp 3) (.func 66) 124 rfl 57 154 key_law Tryd.underlying124 fnE m12 0 (DataW.map []) (by go_simp) H15.out (by decide) (.agg (bv k3).toArray) (.func (.func 66) #[] #[]) (KL k3) (by go_simp) (by go_simp) (KL_is k3_key15.1 k3_key15.2) (FnD14 66) [] (fnE_mk _) ?_
          intro y19 ho hg
          have H19 := Lib.hid ho
          have B19 := Lib.hid (B15.out.grown hg B15.out.size (fun k hk => by cases hk; exact G12.out))
          clear ho hg
          refine hK.out _ _ B19.out ?_
          clear hK K
          try simp only [Act.put]
          refine readyL (i := 2) rfl (by kernel_rfl) (by kernel_rfl) fun K hK => ?_
          refine wp_insert15 _ (.tmp 1) (.tmp 2) (.func 65) 124 rfl 57 154 key_law Tryd.underlying124 fnE m12 1 ((DataW.map []).put (KL k3) (FnD14 66)) (by go_simp) H19.out (by decide) (.agg (bv k0).toArray) (.func (.func 65) #[] #[]) (KL k0) (by go_simp) (by go_simp) (KL_is k0_key15.1 k0_key15.2) (FnD14 65) [] (fnE_mk _) ?_
          intro y21 ho hg
          have H21 := Lib.hid ho
          have B21 := Lib.hid (B19.out.grown hg B19.out.size (fun k hk => by cases hk; exact G12.out))
          clear ho hg
          refine hK.out _ _ B21.out ?_
          clear hK K
          try simp only [Act.put]
          refine takeL (i := 5) (v := ?_) rfl (by kernel_rfl) (by kernel_rfl) (by kernel_rfl) (fun _ _ _ h => h) (Or.inl ⟨by rfl, ?_⟩) B21.out ?_
          rotate_left
          · intro w hw
            try dsimp only at hw
            go_simp
            try with_reducible rfl
          try simp only [Act.put, List.setIfInBounds_toArray, List.set_cons_zero, List.set_cons_succ]
          refine takeL (i := 6) (v := ?_) rfl (by kernel_rfl) (by kernel_rfl) (by kernel_rfl) (fun _ _ _ h => h) (Or.inl ⟨by rfl, ?_⟩) B21.out ?_
          rotate_left
          · intro w hw
            try dsimp only at hw
            go_simp
            try with_reducible rfl
          try simp only [Act.put, List.setIfInBounds_toArray, List.set_cons_zero]
          refine wpAnyH_done (by kernel_rfl) ?_ _
          go_wp2_with fail
          go_ret
          exact ⟨_, rfl, ⟨_, _, H21.out, pd_b15⟩, G12.out, B21.out⟩
    · go_simp
      refine (budget_ _).mono ?_
      rintro e y13 ⟨rfl, hb⟩
      have B13 := Lib.hid (B2.out.trans (hb.mono B2.out.size))
      clear hb
      refine hK.out _ _ B13.out ?_
      clear hK K
      try simp only [Act.put, List.setIfInBounds_toArray, List.set_cons_zero, List.set_cons_succ]
      refine readyL (i := 0) rfl (by kernel_rfl) (by kernel_rfl) fun K hK => ?_
      have hx := hmm y13
      have H22 := Lib.hid (World.ownsMap_made y13 Tryd.prog 57 fnE)
      have B22 := Lib.hid (B13.out.alloc B13.out.size (.map #[] 0))
      have G22 : Hid (w.heap.size ≤ y13.heap.size) := Lib.hid B13.out.size
      refine wp_makeMap15 124 rfl hx ?_
      clear hx
      obtain ⟨m22, hm22⟩ : ∃ m, m = y13.heap.size := ⟨_, rfl⟩
      rw [← hm22] at H22 G22 ⊢
      clear hm22
      generalize y13.alloc (.map #[] 0) = y22 at *
      refine hK.out _ _ B22.out ?_
      clear hK K
      try simp only [Act.put, List.setIfInBounds_toArray, List.set_cons_zero, List.set_cons_succ]
      refine readyL2 (i := 2) (j := 4) rfl rfl (by kernel_rfl) (by kernel_rfl) (by kernel_rfl) (fun K hK => ?_) (fun K hK => ?_)
      · refine wp_insert15 _ (.tmp 1) (.tmp 2) (.func 65) 124 rfl 57 154 key_law Tryd.underlying124 fnE m22 0 (DataW.map []) (by go_simp) H22.out (by decide) (.agg (bv k0).toArray) (.func (.func 65) #[] #[]) (KL k0) (by go_simp) (by go_simp) (KL_is k0_key15.1 k0_key15.2) (FnD14 65) [] (fnE_mk _) ?_
        intro y23 ho hg
        have H23 := Lib.hid ho
        have B23 := Lib.hid (B22.out.grown hg B22.out.size (fun k hk => by cases hk; exact G22.out))
        clear ho hg
        refine hK.out _ _ B23.out ?_
        clear hK K
        try simp only [Act.put]
        refine readyL (i := 4) rfl (by kernel_rfl) (by kernel_rfl) fun K hK => ?_
        refine wp_insert15 _ (.tmp 1) (.tmp 3) (.func 66) 124 rfl 57 154 key_law Tryd.underlying124 fnE m22 1 ((DataW.map []).put (KL k0) (FnD14 65)) (by go_simp) H23.out (by decide) (.agg (bv k3).toArray) (.func (.func 66) #[] #[]) (KL k3) (by go_simp) (by go_simp) (KL_is k3_key15.1 k3_key15.2) (FnD14 66) [] (fnE_mk _) ?_
        intro y25 ho hg
        have H25 := Lib.hid ho
        have B25 := Lib.hid (B23.out.grown hg B23.out.size (fun k hk => by cases hk; exact G22.out))
        clear ho hg
        refine hK.out _ _ B25.out ?_
        clear hK K
        try simp only [Act.put]
        refine takeL (i := 5) (v := ?_) rfl (by kernel_rfl) (by kernel_rfl) (by kernel_rfl) (fun _ _ _ h => h) (Or.inl ⟨by rfl, ?_⟩) B25.out ?_
        rotate_left
        · intro w hw
          try dsimp only at hw
          go_simp
          try with_reducible rfl
        try simp only [Act.put, List.setIfInBounds_toArray, List.set_cons_zero, List.set_cons_succ]
        refine takeL (i := 6) (v := ?_) rfl (by kernel_rfl) (by kernel_rfl) (by kernel_rfl) (fun _ _ _ h => h) (Or.inl ⟨by rfl, ?_⟩) B25.out ?_
        rotate_left
        · intro w hw
          try dsimp only at hw
          go_simp
          try with_reducible rfl
        try simp only [Act.put, List.setIfInBounds_toArray, List.set_cons_zero]
        refine wpAnyH_done (by kernel_rfl) ?_ _
        go_wp2_with fail
        go_ret
        exact ⟨_, rfl, ⟨_, _, H25.out, pd_a15⟩, G22.out, B25.out⟩
      · refine wp_insert15 _ (.tmp 1) (.tmp 3) (.func 66) 124 rfl 57 154 key_law Tryd.underlying124 fnE m22 0 (DataW.map []) (by go_simp) H22.out (by decide) (.agg (bv k3).toArray) (.func (.func 66) #[] #[]) (KL k3) (by go_simp) (by go_simp) (KL_is k3_key15.1 k3_key15.2) (FnD14 66) [] (fnE_mk _) ?_
        intro y24 ho hg
        have H24 := Lib.hid ho
        have B24 := Lib.hid (B22.out.grown hg B22.out.size (fun k hk => by cases hk; exact G22.out))
        clear ho hg
        refine hK.out _ _ B24.out ?_
        clear hK K
        try simp only [Act.put]
        refine readyL (i := 2) rfl (by kernel_rfl) (by kernel_rfl) fun K hK => ?_
        refine wp_insert15 _ (.tmp 1) (.tmp 2) (.func 65) 124 rfl 57 154 key_law Tryd.underlying124 fnE m22 1 ((DataW.map []).put (KL k3) (FnD14 66)) (by go_simp) H24.out (by decide) (.agg (bv k0).toArray) (.func (.func 65) #[] #[]) (KL k0) (by go_simp) (by go_simp) (KL_is k0_key15.1 k0_key15.2) (FnD14 65) [] (fnE_mk _) ?_
        intro y26 ho hg
        have H26 := Lib.hid ho
        have B26 := Lib.hid (B24.out.grown hg B24.out.size (fun k hk => by cases hk; exact G22.out))
        clear ho hg
        refine hK.out _ _ B26.out ?_
        clear hK K
        try simp only [Act.put]
        refine takeL (i := 5) (v := ?_) rfl (by kernel_rfl) (by kernel_rfl) (by kernel_rfl) (fun _ _ _ h => h) (Or.inl ⟨by rfl, ?_⟩) B26.out ?_
        rotate_left
        · intro w hw
          try dsimp only at hw
          go_simp
          try with_reducible rfl
        try simp only [Act.put, List.setIfInBounds_toArray, List.set_cons_zero, List.set_cons_succ]
        refine takeL (i := 6) (v := ?_) rfl (by kernel_rfl) (by kernel_rfl) (by kernel_rfl) (fun _ _ _ h => h) (Or.inl ⟨by rfl, ?_⟩) B26.out ?_
        rotate_left
        · intro w hw
          try dsimp only at hw
          go_simp
          try with_reducible rfl
        try simp only [Act.put, List.setIfInBounds_toArray, List.set_cons_zero]
        refine wpAnyH_done (by kernel_rfl) ?_ _
        go_wp2_with fail
        go_ret
        exact ⟨_, rfl, ⟨_, _, H26.out, pd_b15⟩, G22.out, B26.out⟩
/-- Budget's program does nothing -/
theorem budget15 (v : Value) (q : List Value) (w : World) : Calls Tryd.prog 66 #[v, .agg q.toArray] w fun e w' => e = .returned .nilIface ∧ Below w.heap.size w w' := by
  go_enter Tryd.func66, Tryd.ntmps66
  go_wp2_with fail
  go_ret
  exact ⟨rfl, (Below.refl w.heap.size w).alloc (Nat.le_refl _) _⟩
end Go.Proofs.YtfaefpniiiandaaDoor

/-
  Of part Step15: what is needed here.
-/
namespace Go.Proofs.YtfaefpniiiandaaDoor
open Go.RowKit
set_option linter.unusedVariables false
set_option maxRecDepth 100000
/-- the work's cells -/
def wkC (RA : Option Addr) (rn rc : Nat) (va : Value) (left space : Int) : List Value := [.slice RA rn rc, va, .int .u64 left, .int .u64 space]
/-- the accounts of the work in h: loaded ones, or of the call's own -/
def AV15 (w : World) (h : Nat) (va : Value) (l : List LAcc) : Prop := (∃ LA lc, va = .slice LA l.length lc ∧ AccsIn w h LA l.length l ∧ l.length ≤ lc ∧ lc ≤ maxLen) ∨ OA14 w (h + 1) va l
theorem AV15.but {w w' : World} {h : Nat} {va : Value} {l : List LAcc} (a : AV15 w h va l) (hb : But h w w') (hh : h < w.heap.size) : AV15 w' h va l := by
  rcases a with ⟨LA, lc, e, ha, hc⟩ | ho
  · exact .inl ⟨LA, lc, e, ha.below (hb.below (Nat.le_refl _) (Nat.le_of_lt hh)), hc⟩
  · exact .inr (ho.keep fun g hg => hb.block g (ho.lt g hg).2 (by have := (ho.lt g hg).1; omega))
theorem AV15.below {w w' : World} {h : Nat} {va : Value} {l : List LAcc} (a : AV15 w h va l) (hb : Below w.heap.size w w') (hh : h < w.heap.size) : AV15 w' h va l := a.but (.of_below hb h) hh
theorem AV15.form {w : World} {h : Nat} {va : Value} {l : List LAcc} (a : AV15 w h va l) (hh : h < w.heap.size) : ∃ LA lc, va = .slice LA l.length lc ∧ AccsIn w w.heap.size LA l.length l ∧ l.length ≤ lc ∧ lc ≤ maxLen := by
  rcases a with ⟨LA, lc, e, ha, hc⟩ | ho
  · exact ⟨LA, lc, e, ha.more (Nat.le_of_lt hh), hc⟩
  · obtain ⟨A, c, rfl, h1, h2⟩ := ho.form
    exact ⟨A, c, rfl, ho.accs rfl, h1, h2⟩
theorem AV15.ok {w : World} {h : Nat} {va : Value} {l : List LAcc} (a : AV15 w h va l) : ∀ x ∈ l, AccOk x := by
  rcases a with ⟨LA, lc, e, ha, hc⟩ | ho
  · exact ha.ok
  · exact ho.ok
theorem wk_size15 (RA : Option Addr) (rn rc : Nat) (va : Value) (left space : Int) : (Tryd.prog.info? 96).map (·.size) = some (wkC RA rn rc va left space).length := by kernel_rfl
/-- what system leaves -/
def SysDone15 (w : World) (h : Nat) (RA : Option Addr) (rn rc : Nat) (va : Value) (left space : Int) (R : Res14) (e : Ending) (w' : World) : Prop :=
  But h w w' ∧ ((R.e ≠ 0 ∧ e = .returned (.iface 50 (.int .i64 R.e)) ∧ Row w' h 96 (wkC RA rn rc va left space)) ∨ (R.e = 0 ∧ e = .returned .nilIface ∧ ∃ v, OA14 w' w.heap.size v R.l ∧ Row w' h 96 (wkC RA rn rc v left (space + R.n))))
set_option maxHeartbeats 8000000 in
theorem system15 (h : Nat) (RA : Option Addr) (rn rc : Nat) (rs : List LRole) (va : Value) (l : List LAcc) (left space p : Int) (IA : Option Addr) (n c : Nat) (D : Option Addr) (dn dc : Nat) (acc dat : List Int) (B : Nat) (w : World)
    (hw : Row w h 96 (wkC RA rn rc va left space)) (ha : AV15 w h va l) (hr : RolesIn w B RA rn rs) (hi : InsAt14 w B p IA n c D dn dc acc dat) (hB : B ≤ h) (hn : n ≤ 100000) (hl : l.length ≤ 100000) (hrn : rn ≤ 100000) (hsp : 0 ≤ space ∧ space + 1048576 < 18446744073709551616) :
    Calls Tryd.prog 65 #[.pointer (some ⟨h, 0, none⟩), .agg (insC p IA n c D dn dc).toArray] w (SysDone15 w h RA rn rc va left space (do14 l rs acc dat)) := by
  have hlt := hw.lt
  have HLT := Lib.hid hlt
  have HOK := Lib.hid ha.ok
  have HBB := Lib.hid (And.intro hi.ab hi.db)
  have HHB := Lib.hid hB
  have HSP := Lib.hid hsp
  have hb0 := (Below.refl w.heap.size w).alloc (Nat.le_refl _) (.cells (insC p IA n c D dn dc).toArray 70)
  obtain ⟨LA, lc, rfl, hac, hlc⟩ := ha.form hlt
  have HDO := Lib.hid (fun (V : World) (hv : Below (w.heap.size + 1) (w.alloc (.cells (insC p IA n c D dn dc).toArray 70)) V) => sysDo14 l rs p IA n c D dn dc acc dat LA l.length lc RA rn rc w.heap.size V
    ((hac.below hb0).below (hv.mono (by omega))) hlc.1 ((hr.below (hb0.mono (by omega))).below (hv.mono (by omega)) |>.more (by omega)) ((hi.below (hb0.mono (by omega))).below (hv.mono (by omega)) |> fun z => ia_more15 z (by omega)) (by have := hv.size; simp at this; omega) hn hl hrn)
  have RH := Lib.hid (hw.alloc (.cells (insC p IA n c D dn dc).toArray 70))
  have RI := Lib.hid (Row.new w 70 (insC p IA n c D dn dc))
  have HB0 := Lib.hid hb0
  have HSZ : Hid ((w.alloc (.cells (insC p IA n c D dn dc).toArray 70)).heap.size = w.heap.size + 1) := Lib.hid (by simp)
  obtain ⟨gi, hgi⟩ : ∃ g, g = w.heap.size := ⟨_, rfl⟩
  have HGI : Hid (w.heap.size = gi) := Lib.hid hgi.symm
  rw [← hgi] at RI
  clear hlt hw ha hr hi hB hac hb0 hgi hsp
  generalize hW : w.alloc (.cells (insC p IA n c D dn dc).toArray 70) = W at *
  have HW := Lib.hid hW
  clear hW
  go_enter Tryd.func65, Tryd.ntmps65
  go_upto_region 1 with fail
  try rw [HGI.out]
  rw [HW.out]
  clear HGI HW
  have S0 := Lib.hid (show Row W h 96 (wkC RA rn rc (.slice LA l.length lc) left space) ∧ Row W gi 70 (insC p IA n c D dn dc) ∧ Below (w.heap.size + 1) W W from ⟨RH.out, RI.out, Below.refl _ _⟩)
  have HGL : Hid (gi < w.heap.size + 1) := Lib.hid (by have := RI.out.lt; rw [HSZ.out] at this; exact this)
  refine wp_region_held_drew (S := fun V => Row V h 96 (wkC RA rn rc (.slice LA l.length lc) left space) ∧ Row V gi 70 (insC p IA n c D dn dc) ∧ Below (w.heap.size + 1) W V) (by kernel_rfl) ⟨S0.out.1.drew, S0.out.2.1.drew, S0.out.2.2.drew⟩ (fun _ => ?_)
  try dsimp only [List.append]
  have SD := Lib.hid (show Row W.drew h 96 (wkC RA rn rc (.slice LA l.length lc) left space) ∧ Row W.drew gi 70 (insC p IA n c D dn dc) ∧ Below (w.heap.size + 1) W W.drew from ⟨S0.out.1.drew, S0.out.2.1.drew, S0.out.2.2.drew⟩)
  generalize W.drew = wd at *
  refine takeL (i := 0) (v := ?_) rfl (by kernel_rfl) (by kernel_rfl) (by kernel_rfl) (fun _ _ _ h => h) (Or.inl ⟨by rfl, ?_⟩) SD.out ?_
  rotate_left
  · intro w hw
    try dsimp only at hw
    go_simp
    try with_reducible rfl
  try simp only [Act.put, List.setIfInBounds_toArray, List.set_cons_zero, List.set_cons_succ]
  refine takeL (i := 1) (v := ?_) rfl (by kernel_rfl) (by kernel_rfl) (by kernel_rfl) (fun _ _ _ h => h) (Or.inl ⟨by rfl, ?_⟩) SD.out ?_
  rotate_left
  · intro w hw
    try dsimp only at hw
    go_simp
    try with_reducible rfl
  try simp only [Act.put, List.setIfInBounds_toArray, List.set_cons_zero, List.set_cons_succ]
  refine takeL (i := 2) (v := ?_) rfl (by kernel_rfl) (by kernel_rfl) (by kernel_rfl) (fun _ _ _ h => h) (Or.inl ⟨by rfl, ?_⟩) SD.out ?_
  rotate_left
  · intro w hw
    try dsimp only at hw
    go_simp
    try with_reducible rfl
  try simp only [Act.put, List.setIfInBounds_toArray, List.set_cons_zero, List.set_cons_succ]
  refine takeL (i := 3) (v := ?_) rfl (by kernel_rfl) (by kernel_rfl) (by kernel_rfl) (fun _ _ _ h => h) (Or.inl ⟨by rfl, ?_⟩) SD.out ?_
  rotate_left
  · intro w hw
    try dsimp only at hw
    have c1 : w.cell? ⟨h, 1, none⟩ = some (.slice LA l.length lc) := hw.1.cell 1
    go_simp
    try with_reducible rfl
  try simp only [Act.put, List.setIfInBounds_toArray, List.set_cons_zero, List.set_cons_succ]
  refine takeL (i := 4) (v := ?_) rfl (by kernel_rfl) (by kernel_rfl) (by kernel_rfl) (fun _ _ _ h => h) (Or.inl ⟨by rfl, ?_⟩) SD.out ?_
  rotate_left
  · intro w hw
    try dsimp only at hw
    go_simp
    try with_reducible rfl
  try simp only [Act.put, List.setIfInBounds_toArray, List.set_cons_zero, List.set_cons_succ]
  refine takeL (i := 5) (v := ?_) rfl (by kernel_rfl) (by kernel_rfl) (by kernel_rfl) (fun _ _ _ h => h) (Or.inl ⟨by rfl, ?_⟩) SD.out ?_
  rotate_left
  · intro w hw
    try dsimp only at hw
    go_simp
    try with_reducible rfl
  try simp only [Act.put, List.setIfInBounds_toArray, List.set_cons_zero, List.set_cons_succ]
  refine takeL (i := 6) (v := ?_) rfl (by kernel_rfl) (by kernel_rfl) (by kernel_rfl) (fun _ _ _ h => h) (Or.inl ⟨by rfl, ?_⟩) SD.out ?_
  rotate_left
  · intro w hw
    try dsimp only at hw
    go_simp
    try with_reducible rfl
  try simp only [Act.put, List.setIfInBounds_toArray, List.set_cons_zero, List.set_cons_succ]
  refine takeL (i := 7) (v := ?_) rfl (by kernel_rfl) (by kernel_rfl) (by kernel_rfl) (fun _ _ _ h => h) (Or.inl ⟨by rfl, ?_⟩) SD.out ?_
  rotate_left
  · intro w hw
    try dsimp only at hw
    have c0 : w.cell? ⟨h, 0, none⟩ = some (.slice RA rn rc) := hw.1.cell 0
    go_simp
    try with_reducible rfl
  try simp only [Act.put, List.setIfInBounds_toArray, List.set_cons_zero, List.set_cons_succ]
  refine takeL (i := 8) (v := .agg (insC p IA n c D dn dc).toArray) rfl (by kernel_rfl) (by kernel_rfl) (by kernel_rfl) (fun _ _ _ h => h) (Or.inl ⟨by rfl, fun wz hwz => exec_load_at wz 70 (.tmp 3) rfl ⟨gi, 0, none⟩ (insC p IA n c D dn dc) _ Tryd.underlying70 rfl (by kernel_rfl) (fun j u hu => by rw [addr_row, Nat.zero_add, hwz.2.1.cell]; exact hu) (by go_simp)⟩) SD.out ?_
  try simp only [Act.put, List.setIfInBounds_toArray, List.set_cons_zero, List.set_cons_succ]
  refine readyL (i := 9) rfl (by kernel_rfl) (by kernel_rfl) fun K hK => ?_
  go_simp
  refine (HDO.out wd SD.out.2.2).mono ?_
  rintro e y9 ⟨v9, rfl, ho, hb⟩
  have S9 := Lib.hid (show Row y9 h 96 (wkC RA rn rc (.slice LA l.length lc) left space) ∧ Row y9 gi 70 (insC p IA n c D dn dc) ∧ Below (w.heap.size + 1) W y9 from ⟨SD.out.1.below hb SD.out.1.lt, SD.out.2.1.below hb SD.out.2.1.lt, SD.out.2.2.trans (hb.mono (by have := SD.out.2.2.size; rw [HSZ.out] at this; exact this))⟩)
  have B9 : Hid (Below w.heap.size w y9) := Lib.hid (HB0.out.trans (S9.out.2.2.mono (by omega)))
  have O9 : Hid (OA14 y9 w.heap.size v9 (do14 l rs acc dat).l) := Lib.hid (oa_low15 ho (by have := SD.out.2.2.size; rw [HSZ.out] at this; omega))
  clear ho hb
  refine hK.out _ _ S9.out ?_
  clear hK K
  try simp only [Act.put, List.setIfInBounds_toArray, List.set_cons_zero, List.set_cons_succ]
  refine takeL (i := 10) (v := ?_) rfl (by kernel_rfl) (by kernel_rfl) (by kernel_rfl) (fun _ _ _ h => h) (Or.inl ⟨by rfl, ?_⟩) S9.out ?_
  rotate_left
  · intro w hw
    try dsimp only at hw
    go_simp
    try with_reducible rfl
  try simp only [Act.put, List.setIfInBounds_toArray, List.set_cons_zero, List.set_cons_succ]
  refine takeL (i := 11) (v := ?_) rfl (by kernel_rfl) (by kernel_rfl) (by kernel_rfl) (fun _ _ _ h => h) (Or.inl ⟨by rfl, ?_⟩) S9.out ?_
  rotate_left
  · intro w hw
    try dsimp only at hw
    go_simp
    try with_reducible rfl
  try simp only [Act.put, List.setIfInBounds_toArray, List.set_cons_zero, List.set_cons_succ]
  refine takeL (i := 12) (v := ?_) rfl (by kernel_rfl) (by kernel_rfl) (by kernel_rfl) (fun _ _ _ h => h) (Or.inl ⟨by rfl, ?_⟩) S9.out ?_
  rotate_left
  · intro w hw
    try dsimp only at hw
    go_simp
    try with_reducible rfl
  try simp only [Act.put, List.setIfInBounds_toArray, List.set_cons_zero, List.set_cons_succ]
  refine takeL (i := 13) (v := ?_) rfl (by kernel_rfl) (by kernel_rfl) (by kernel_rfl) (fun _ _ _ h => h) (Or.inl ⟨by rfl, ?_⟩) S9.out ?_
  rotate_left
  · intro w hw
    try dsimp only at hw
    go_simp
    try with_reducible rfl
  try simp only [Act.put, List.setIfInBounds_toArray, List.set_cons_zero, List.set_cons_succ]
  refine takeL (i := 14) (v := ?_) rfl (by kernel_rfl) (by kernel_rfl) (by kernel_rfl) (fun _ _ _ h => h) (Or.inl ⟨by rfl, ?_⟩) S9.out ?_
  rotate_left
  · intro w hw
    try dsimp only at hw
    go_simp
    try with_reducible rfl
  try simp only [Act.put, List.setIfInBounds_toArray, List.set_cons_zero, List.set_cons_succ]
  refine takeL (i := 15) (v := ?_) rfl (by kernel_rfl) (by kernel_rfl) (by kernel_rfl) (fun _ _ _ h => h) (Or.inl ⟨by rfl, ?_⟩) S9.out ?_
  rotate_left
  · intro w hw
    try dsimp only at hw
    go_simp
    try with_reducible rfl
  try simp only [Act.put, List.setIfInBounds_toArray, List.set_cons_zero, List.set_cons_succ]
  refine takeL (i := 16) (v := ?_) rfl (by kernel_rfl) (by kernel_rfl) (by kernel_rfl) (fun _ _ _ h => h) (Or.inl ⟨by rfl, ?_⟩) S9.out ?_
  rotate_left
  · intro w hw
    try dsimp only at hw
    go_simp
    try with_reducible rfl
  try simp only [Act.put, List.setIfInBounds_toArray, List.set_cons_zero, List.set_cons_succ]
  refine wpAnyH_done (by kernel_rfl) ?_ _
  try dsimp only [List.append]
  have HNN : Hid ((do14 l rs acc dat).e = 0 → 0 ≤ (do14 l rs acc dat).n ∧ (do14 l rs acc dat).n ≤ 1048576) := Lib.hid fun he => by
    obtain ⟨pa, pb, hwt⟩ := do_went HOK.out HBB.out.2 HBB.out.1 he
    exact hwt.d.lim
  have hs0 := HSP.out.1
  have hs1 := HSP.out.2
  by_cases he : (do14 l rs acc dat).e = 0
  · have HEE := Lib.hid he
    have HNL : Hid (0 ≤ (do14 l rs acc dat).n ∧ (do14 l rs acc dat).n ≤ 1048576) := Lib.hid (HNN.out he)
    have hn0 := HNL.out.1
    have hn1 := HNL.out.2
    have c3 : y9.cell? ⟨h, 3, none⟩ = some (.int .u64 space) := S9.out.1.cell 3
    have hwr : IntKind.u64.wrap (space + (do14 l rs acc dat).n) = space + (do14 l rs acc dat).n := IntWalk.u64_in _ (by omega)
    obtain ⟨A9, c9, hv9, _, _⟩ := O9.out.form
    obtain ⟨v8, hv8⟩ : ∃ v, v = Value.slice A9 (do14 l rs acc dat).l.length c9 := ⟨_, rfl⟩
    have O8 : Hid (OA14 y9 w.heap.size v8 (do14 l rs acc dat).l) := Lib.hid (by rw [hv8, ← hv9]; exact O9.out)
    subst hv9
    have HV8 := Lib.hid hv8
    clear hv8
    have c1 : y9.cell? ⟨h, 1, none⟩ = some (.slice LA l.length lc) := S9.out.1.cell 1
    have f1 := S9.out.1.frozen 1
    have f3 := S9.out.1.frozen 3
    go_wp2_with fail
    go_ret
    rw [← HV8.out]
    have t1 := turned_setCell y9 ⟨h, 1, none⟩ v8
    have t2 := turned_setCell (y9.setCell ⟨h, 1, none⟩ v8) ⟨h, 3, none⟩ (.int .u64 (space + (do14 l rs acc dat).n))
    refine ⟨((But.of_below B9.out h).trans (.of_turned t1)).trans (.of_turned t2), .inr ⟨HEE.out, rfl, v8, ?_, (S9.out.1.set_ 1 v8).set_ 3 (.int .u64 (space + (do14 l rs acc dat).n))⟩⟩
    refine O8.out.keep fun g hg => ?_
    have := (O8.out.lt g hg).1
    have h3 := HLT.out
    exact (t2.block g (by show g ≠ h; omega)).trans (t1.block g (by show g ≠ h; omega))
  · have HEE := Lib.hid he
    clear HNN
    go_wp2_with fail
    go_ret
    exact ⟨.of_below B9.out h, .inl ⟨HEE.out, rfl, S9.out.1⟩⟩
/-- what one leaves -/
def OneDone15 (w : World) (h : Nat) (RA : Option Addr) (rn rc : Nat) (x : LReady) (E : Int) (S' : S15) (e : Ending) (w' : World) : Prop :=
  But h w w' ∧ ((E ≠ 0 ∧ e = .returned (.iface 50 (.int .i64 E)) ∧ ∃ va sp, Row w' h 96 (wkC RA rn rc va (x.u - S'.units) sp)) ∨ (E = 0 ∧ e = .returned .nilIface ∧ ∃ v, AV15 w' h v S'.now ∧ Row w' h 96 (wkC RA rn rc v (x.u - S'.units) S'.space)))
theorem prog_at15 {x : LReady} {a : LIn} {y : LRole} {k : Nat} (h : x.roles[k]? = some y) (hk : a.p = (k : Int)) : prog15 x a = y.key := by
  unfold prog15 rol14
  rw [hk, Int.toNat_natCast, List.getD_eq_getElem?_getD, h]
  rfl
set_option maxHeartbeats 8000000 in
theorem one_units15 (h mb : Nat) (RA : Option Addr) (rn rc : Nat) (x : LReady) (k : Nat) (a : LIn) (S : S15) (va : Value) (IA : Option Addr) (n c : Nat) (D : Option Addr) (dn dc : Nat) (B : Nat) (bad : Bool) (w : World)
    (hw : Row w h 96 (wkC RA rn rc va (x.u - S.units) S.space)) (ha : AV15 w h va S.now) (hm : PM15 w mb) (hr : RolesIn w B RA rn x.roles) (hi : InsAt14 w B a.p IA n c D dn dc a.acc a.dat) (hB : B ≤ h) (hn : n ≤ 100000) (hl : S.now.length ≤ 100000) (hrn : rn ≤ 100000) (hsp : 0 ≤ S.space ∧ S.space + 1048576 < 18446744073709551616)
    (hu : 0 ≤ S.units ∧ S.units ≤ x.u ∧ x.u < 18446744073709551616) (hbad : bad = decide ((k : Int) = x.bad)) (hp : 0 ≤ a.p ∧ a.p < rn) (hcase : x.u < 150 ∨ x.u - 150 < S.units) :
    Calls Tryd.prog 51 #[.pointer (some ⟨h, 0, none⟩), .map (some mb), .agg (insC a.p IA n c D dn dc).toArray, .bool bad] w (OneDone15 w h RA rn rc x (step15 x k a S).1 (step15 x k a S).2) := by
  have hlt := hw.lt
  have HLT := Lib.hid hlt
  have HU := Lib.hid hu
  have hb0 := (Below.refl w.heap.size w).alloc (Nat.le_refl _) (.cells (insC a.p IA n c D dn dc).toArray 70)
  have RH := Lib.hid (hw.alloc (.cells (insC a.p IA n c D dn dc).toArray 70))
  have RI := Lib.hid (Row.new w 70 (insC a.p IA n c D dn dc))
  have HB0 := Lib.hid hb0
  have HSZ : Hid ((w.alloc (.cells (insC a.p IA n c D dn dc).toArray 70)).heap.size = w.heap.size + 1) := Lib.hid (by simp)
  have AV0 := Lib.hid (ha.below hb0 hlt)
  have PM0 := Lib.hid (hm.below hb0)
  have RO0 := Lib.hid (hr.below (hb0.mono (Nat.le_trans hB (Nat.le_of_lt hlt))))
  have IN0 := Lib.hid (hi.below (hb0.mono (Nat.le_trans hB (Nat.le_of_lt hlt))))
  obtain ⟨gi, hgi⟩ : ∃ g, g = w.heap.size := ⟨_, rfl⟩
  have HGI : Hid (w.heap.size = gi) := Lib.hid hgi.symm
  rw [← hgi] at RI
  have HHB := Lib.hid hB
  have HSP := Lib.hid hsp
  have hu0 := hu.1
  have hu1 := hu.2.1
  have hu2 := hu.2.2
  clear hw ha hm hr hi hb0 hgi hlt hB hsp hu
  generalize hW : w.alloc (.cells (insC a.p IA n c D dn dc).toArray 70) = W at *
  have HW := Lib.hid hW
  clear hW
  have c2 : W.cell? ⟨h, 2, none⟩ = some (.int .u64 (x.u - S.units)) := RH.out.cell 2
  have f2 := RH.out.frozen 2
  have hlow : x.u - S.units < 150 := by rcases hcase with h | h <;> omega
  have HST := Lib.hid (step15_units (k := k) (a := a) hcase)
  rw [HST.out]
  have HOUT : Hid (∀ w', But h w w' → Row w' h 96 (wkC RA rn rc va 0 S.space) → OneDone15 w h RA rn rc x (20 : Int) ⟨S.now, x.u, S.space⟩ (.returned (.iface 50 (.int .i64 20))) w') := Lib.hid fun w' hb hr' => ⟨hb, .inl ⟨by decide, rfl, va, S.space, by show Row w' h 96 (wkC RA rn rc va (x.u - x.u) S.space); rw [Int.sub_self]; exact hr'⟩⟩
  clear hcase HST
  go_enter Tryd.func51, Tryd.ntmps51
  go_upto_region 1 with fail
  try rw [HGI.out]
  rw [HW.out]
  clear HGI HW
  go_wp2_with fail
  go_ret
  exact HOUT.out _ ((But.of_below HB0.out h).trans (.of_turned (turned_setCell W ⟨h, 2, none⟩ (.int .u64 0)))) (RH.out.set_ 2 (.int .u64 0))
set_option maxHeartbeats 8000000 in
theorem one_bad15 (h mb : Nat) (RA : Option Addr) (rn rc : Nat) (x : LReady) (k : Nat) (a : LIn) (S : S15) (va : Value) (IA : Option Addr) (n c : Nat) (D : Option Addr) (dn dc : Nat) (B : Nat) (bad : Bool) (w : World)
    (hw : Row w h 96 (wkC RA rn rc va (x.u - S.units) S.space)) (ha : AV15 w h va S.now) (hm : PM15 w mb) (hr : RolesIn w B RA rn x.roles) (hi : InsAt14 w B a.p IA n c D dn dc a.acc a.dat) (hB : B ≤ h) (hn : n ≤ 100000) (hl : S.now.length ≤ 100000) (hrn : rn ≤ 100000) (hsp : 0 ≤ S.space ∧ S.space + 1048576 < 18446744073709551616)
    (hu : 0 ≤ S.units ∧ S.units ≤ x.u ∧ x.u < 18446744073709551616) (hbad : bad = decide ((k : Int) = x.bad)) (hp : 0 ≤ a.p ∧ a.p < rn) (hcase : ¬ (x.u < 150 ∨ x.u - 150 < S.units)) (hcase2 : (k : Int) = x.bad) :
    Calls Tryd.prog 51 #[.pointer (some ⟨h, 0, none⟩), .map (some mb), .agg (insC a.p IA n c D dn dc).toArray, .bool bad] w (OneDone15 w h RA rn rc x (step15 x k a S).1 (step15 x k a S).2) := by
  have hlt := hw.lt
  have HLT := Lib.hid hlt
  have HU := Lib.hid hu
  have hb0 := (Below.refl w.heap.size w).alloc (Nat.le_refl _) (.cells (insC a.p IA n c D dn dc).toArray 70)
  have RH := Lib.hid (hw.alloc (.cells (insC a.p IA n c D dn dc).toArray 70))
  have RI := Lib.hid (Row.new w 70 (insC a.p IA n c D dn dc))
  have HB0 := Lib.hid hb0
  have HSZ : Hid ((w.alloc (.cells (insC a.p IA n c D dn dc).toArray 70)).heap.size = w.heap.size + 1) := Lib.hid (by simp)
  have AV0 := Lib.hid (ha.below hb0 hlt)
  have PM0 := Lib.hid (hm.below hb0)
  have RO0 := Lib.hid (hr.below (hb0.mono (Nat.le_trans hB (Nat.le_of_lt hlt))))
  have IN0 := Lib.hid (hi.below (hb0.mono (Nat.le_trans hB (Nat.le_of_lt hlt))))
  obtain ⟨gi, hgi⟩ : ∃ g, g = w.heap.size := ⟨_, rfl⟩
  have HGI : Hid (w.heap.size = gi) := Lib.hid hgi.symm
  rw [← hgi] at RI
  have HHB := Lib.hid hB
  have HSP := Lib.hid hsp
  have hu0 := hu.1
  have hu1 := hu.2.1
  have hu2 := hu.2.2
  clear hw ha hm hr hi hb0 hgi hlt hB hsp hu
  generalize hW : w.alloc (.cells (insC a.p IA n c D dn dc).toArray 70) = W at *
  have HW := Lib.hid hW
  clear hW
  have c2 : W.cell? ⟨h, 2, none⟩ = some (.int .u64 (x.u - S.units)) := RH.out.cell 2
  have f2 := RH.out.frozen 2
  have hhi : ¬ x.u - S.units < 150 := by omega
  have hge : 150 ≤ x.u - S.units := by omega
  have hwr : IntKind.u64.wrap (x.u - S.units - 150) = x.u - S.units - 150 := IntWalk.u64_in _ (by omega)
  have HEQ : Hid (x.u - S.units - 150 = x.u - (S.units + 150)) := Lib.hid (by omega)
  have HST := Lib.hid (step15_bad (k := k) (a := a) hcase hcase2)
  rw [HST.out]
  have HOUT : Hid (∀ w', But h w w' → Row w' h 96 (wkC RA rn rc va (x.u - S.units - 150) S.space) → OneDone15 w h RA rn rc x (21 : Int) ⟨S.now, S.units + 150, S.space⟩ (.returned (.iface 50 (.int .i64 21))) w') := Lib.hid fun w' hb hr' => ⟨hb, .inl ⟨by decide, rfl, va, S.space, by show Row w' h 96 (wkC RA rn rc va (x.u - (S.units + 150)) S.space); rw [← HEQ.out]; exact hr'⟩⟩
  obtain rfl : bad = true := by rw [hbad]; exact decide_eq_true hcase2
  clear hcase HST hbad HEQ hcase2
  generalize x.u - S.units = lf at *
  go_enter Tryd.func51, Tryd.ntmps51
  go_upto_region 1 with fail
  try rw [HGI.out]
  rw [HW.out]
  clear HGI HW
  go_wp2_with fail
  go_ret
  exact HOUT.out _ ((But.of_below HB0.out h).trans (.of_turned (turned_setCell W ⟨h, 2, none⟩ (.int .u64 (lf - 150))))) (RH.out.set_ 2 (.int .u64 (lf - 150)))
theorem cell_of_heap15 {w w' : World} {p : Addr} (h : w'.heap[p.block]? = w.heap[p.block]?) : w'.cell? p = w.cell? p := by
  unfold World.cell?
  rw [h]
set_option maxHeartbeats 8000000 in
theorem one_sys15 (h mb : Nat) (RA : Option Addr) (rn rc : Nat) (x : LReady) (k : Nat) (a : LIn) (S : S15) (va : Value) (IA : Option Addr) (n c : Nat) (D : Option Addr) (dn dc : Nat) (B : Nat) (bad : Bool) (w : World)
    (hw : Row w h 96 (wkC RA rn rc va (x.u - S.units) S.space)) (ha : AV15 w h va S.now) (hm : PM15 w mb) (hr : RolesIn w B RA rn x.roles) (hi : InsAt14 w B a.p IA n c D dn dc a.acc a.dat) (hB : B ≤ h) (hn : n ≤ 100000) (hl : S.now.length ≤ 100000) (hrn : rn ≤ 100000) (hsp : 0 ≤ S.space ∧ S.space + 1048576 < 18446744073709551616)
    (hu : 0 ≤ S.units ∧ S.units ≤ x.u ∧ x.u < 18446744073709551616) (hbad : bad = decide ((k : Int) = x.bad)) (hp : 0 ≤ a.p ∧ a.p < rn) (hcase : ¬ (x.u < 150 ∨ x.u - 150 < S.units)) (hcase2 : ¬ (k : Int) = x.bad) (hcase3 : prog15 x a = k0) :
    Calls Tryd.prog 51 #[.pointer (some ⟨h, 0, none⟩), .map (some mb), .agg (insC a.p IA n c D dn dc).toArray, .bool bad] w (OneDone15 w h RA rn rc x (step15 x k a S).1 (step15 x k a S).2) := by
  have hlt := hw.lt
  have HLT := Lib.hid hlt
  have HU := Lib.hid hu
  have hb0 := (Below.refl w.heap.size w).alloc (Nat.le_refl _) (.cells (insC a.p IA n c D dn dc).toArray 70)
  have RH := Lib.hid (hw.alloc (.cells (insC a.p IA n c D dn dc).toArray 70))
  have RI := Lib.hid (Row.new w 70 (insC a.p IA n c D dn dc))
  have HB0 := Lib.hid hb0
  have HSZ : Hid ((w.alloc (.cells (insC a.p IA n c D dn dc).toArray 70)).heap.size = w.heap.size + 1) := Lib.hid (by simp)
  have AV0 := Lib.hid (ha.below hb0 hlt)
  have PM0 := Lib.hid (hm.below hb0)
  have RO0 := Lib.hid (hr.below (hb0.mono (Nat.le_trans hB (Nat.le_of_lt hlt))))
  have IN0 := Lib.hid (hi.below (hb0.mono (Nat.le_trans hB (Nat.le_of_lt hlt))))
  obtain ⟨gi, hgi⟩ : ∃ g, g = w.heap.size := ⟨_, rfl⟩
  have HGI : Hid (w.heap.size = gi) := Lib.hid hgi.symm
  rw [← hgi] at RI
  have HHB := Lib.hid hB
  have HSP := Lib.hid hsp
  have hu0 := hu.1
  have hu1 := hu.2.1
  have hu2 := hu.2.2
  clear hw ha hm hr hi hb0 hgi hlt hB hsp hu
  generalize hW : w.alloc (.cells (insC a.p IA n c D dn dc).toArray 70) = W at *
  have HW := Lib.hid hW
  clear hW
  have c2 : W.cell? ⟨h, 2, none⟩ = some (.int .u64 (x.u - S.units)) := RH.out.cell 2
  have f2 := RH.out.frozen 2
  have hhi : ¬ x.u - S.units < 150 := by omega
  have hge : 150 ≤ x.u - S.units := by omega
  have hwr : IntKind.u64.wrap (x.u - S.units - 150) = x.u - S.units - 150 := IntWalk.u64_in _ (by omega)
  have HEQ : Hid (x.u - S.units - 150 = x.u - (S.units + 150)) := Lib.hid (by omega)
  obtain rfl : bad = false := by rw [hbad]; exact decide_eq_false hcase2
  have HC2 := Lib.hid hcase2
  obtain ⟨pn, hpn⟩ : ∃ n : Nat, a.p = n := ⟨a.p.toNat, by have := hp.1; omega⟩
  have hpl : pn < rn := by have := hp.2; omega
  obtain ⟨ra, y, rfl, hrb, hy, hyo, hyc⟩ := RO0.out.get hpl
  have HRB : Hid (ra.block ≠ h ∧ ra.block < W.heap.size) := Lib.hid (by have h1 := HHB.out; have h2 := RH.out.lt; omega)
  have HYC := Lib.hid hyc
  have HYO := Lib.hid hyo
  have HPR := Lib.hid (prog_at15 (x := x) (a := a) hy hpn)
  have HSK : Hid ((Tryd.prog.info? 57).map (·.size) = some (bv y.key).length) := Lib.hid (by rw [bv_length, hyo.1]; exact size_key)
  have hpl' : (pn : Int) < rn := by omega
  have HPN := Lib.hid hpn
  have CI0 : W.cell? ⟨gi, 0, none⟩ = some (.int .u8 pn) := by rw [← hpn]; exact RI.out.cell 0
  clear hpn
  have TT := turned_setCell W ⟨h, 2, none⟩ (.int .u64 (x.u - S.units - 150))
  have HGH : Hid (gi ≠ h) := Lib.hid (by have h1 := HLT.out; have h2 := HGI.out; omega)
  have RV := Lib.hid (show Row (W.setCell ⟨h, 2, none⟩ (.int .u64 (x.u - S.units - 150))) h 96 (wkC (some ra) rn rc va (x.u - S.units - 150) S.space) from RH.out.set_ 2 _)
  have RIV := Lib.hid (TT.row RI.out HGH.out)
  have PMV := Lib.hid (PM0.out.keep (TT.block mb fun e => PM0.out.row_ne RH.out e.symm))
  have CYV : Hid (∀ j u, y.cells[j]? = some u → (W.setCell ⟨h, 2, none⟩ (.int .u64 (x.u - S.units - 150))).cell? ((ra.add (pn * 34)).add j) = some u) := Lib.hid fun j u hu => (cell_of_heap15 (TT.block _ (by rw [addr_block, addr_block]; exact HRB.out.1))).trans (HYC.out j u hu)
  have BV := Lib.hid ((But.of_below HB0.out h).trans (.of_turned TT))
  have AVV := Lib.hid (AV0.out.but (.of_turned TT) RH.out.lt)
  have INV := Lib.hid (IN0.out.below (TT.below HHB.out))
  have ROV := Lib.hid (RO0.out.below (TT.below HHB.out))
  clear hcase2 hbad hrb hy hyo hyc RO0 IN0 AV0 PM0 TT
  go_enter Tryd.func51, Tryd.ntmps51
  go_upto_region 1 with fail
  try rw [HGI.out]
  rw [HW.out]
  clear HGI HW
  go_upto_region 7 with fail
  generalize hVV : W.setCell ⟨h, 2, none⟩ (.int .u64 (x.u - S.units - 150)) = V at *
  clear hVV c2 f2 CI0
  refine wp_region_held_drew (S := fun U => Row U h 96 (wkC (some ra) rn rc va (x.u - S.units - 150) S.space) ∧ Row U gi 70 (insC a.p IA n c D dn dc) ∧ PM15 U mb ∧ ∀ j u, y.cells[j]? = some u → U.cell? ((ra.add (pn * 34)).add j) = some u) (by kernel_rfl) ⟨RV.out.drew, RIV.out.drew, PMV.out.keep rfl, CYV.out⟩ (fun _ => ?_)
  try dsimp only [List.append]
  have SD := Lib.hid (show Row V.drew h 96 (wkC (some ra) rn rc va (x.u - S.units - 150) S.space) ∧ Row V.drew gi 70 (insC a.p IA n c D dn dc) ∧ PM15 V.drew mb ∧ ∀ j u, y.cells[j]? = some u → V.drew.cell? ((ra.add (pn * 34)).add j) = some u from ⟨RV.out.drew, RIV.out.drew, PMV.out.keep rfl, CYV.out⟩)
  have BD := Lib.hid BV.out.drew
  have AVD : Hid (AV15 V.drew h va S.now) := Lib.hid (AVV.out.but (But.refl h V).drew RV.out.lt)
  have IND : Hid (InsAt14 V.drew B a.p IA n c D dn dc a.acc a.dat) := Lib.hid (INV.out.below (Below.refl _ _).drew)
  have ROD : Hid (RolesIn V.drew B (some ra) rn x.roles) := Lib.hid (ROV.out.below (Below.refl _ _).drew)
  clear RV RIV PMV CYV BV AVV INV ROV
  generalize V.drew = wd at *
  refine takeL (i := 0) (v := ?_) rfl (by kernel_rfl) (by kernel_rfl) (by kernel_rfl) (fun _ _ _ h => h) (Or.inl ⟨by rfl, ?_⟩) SD.out ?_
  rotate_left
  · intro w hw
    try dsimp only at hw
    go_simp
    try with_reducible rfl
  try simp only [Act.put, List.setIfInBounds_toArray, List.set_cons_zero, List.set_cons_succ]
  refine takeL (i := 1) (v := ?_) rfl (by kernel_rfl) (by kernel_rfl) (by kernel_rfl) (fun _ _ _ h => h) (Or.inl ⟨by rfl, ?_⟩) SD.out ?_
  rotate_left
  · intro w hw
    try dsimp only at hw
    go_simp
    try with_reducible rfl
  try simp only [Act.put, List.setIfInBounds_toArray, List.set_cons_zero, List.set_cons_succ]
  refine takeL (i := 2) (v := ?_) rfl (by kernel_rfl) (by kernel_rfl) (by kernel_rfl) (fun _ _ _ h => h) (Or.inl ⟨by rfl, ?_⟩) SD.out ?_
  rotate_left
  · intro w hw
    try dsimp only at hw
    go_simp
    try with_reducible rfl
  try simp only [Act.put, List.setIfInBounds_toArray, List.set_cons_zero, List.set_cons_succ]
  refine takeL (i := 3) (v := ?_) rfl (by kernel_rfl) (by kernel_rfl) (by kernel_rfl) (fun _ _ _ h => h) (Or.inl ⟨by rfl, ?_⟩) SD.out ?_
  rotate_left
  · intro w hw
    try dsimp only at hw
    go_simp
    try with_reducible rfl
  try simp only [Act.put, List.setIfInBounds_toArray, List.set_cons_zero, List.set_cons_succ]
  refine takeL (i := 4) (v := ?_) rfl (by kernel_rfl) (by kernel_rfl) (by kernel_rfl) (fun _ _ _ h => h) (Or.inl ⟨by rfl, ?_⟩) SD.out ?_
  rotate_left
  · intro w hw
    try dsimp only at hw
    have c0 : w.cell? ⟨h, 0, none⟩ = some (.slice (some ra) rn rc) := hw.1.cell 0
    go_simp
    try with_reducible rfl
  try simp only [Act.put, List.setIfInBounds_toArray, List.set_cons_zero, List.set_cons_succ]
  refine takeL (i := 5) (v := ?_) rfl (by kernel_rfl) (by kernel_rfl) (by kernel_rfl) (fun _ _ _ h => h) (Or.inl ⟨by rfl, ?_⟩) SD.out ?_
  rotate_left
  · intro w hw
    try dsimp only at hw
    go_simp
    try with_reducible rfl
  try simp only [Act.put, List.setIfInBounds_toArray, List.set_cons_zero, List.set_cons_succ]
  refine takeL (i := 6) (v := ?_) rfl (by kernel_rfl) (by kernel_rfl) (by kernel_rfl) (fun _ _ _ h => h) (Or.inl ⟨by rfl, ?_⟩) SD.out ?_
  rotate_left
  · intro w hw
    try dsimp only at hw
    have c0 : w.cell? ⟨gi, 0, none⟩ = some (.int .u8 pn) := by rw [← HPN.out]; exact hw.2.1.cell 0
    go_simp
    try with_reducible rfl
  try simp only [Act.put, List.setIfInBounds_toArray, List.set_cons_zero, List.set_cons_succ]
  refine takeL (i := 7) (v := ?_) rfl (by kernel_rfl) (by kernel_rfl) (by kernel_rfl) (fun _ _ _ h => h) (Or.inl ⟨by rfl, ?_⟩) SD.out ?_
  rotate_left
  · intro w hw
    try dsimp only at hw
    go_simp
    try with_reducible rfl
  try simp only [Act.put, List.setIfInBounds_toArray, List.set_cons_zero, List.set_cons_succ]
  refine takeL (i := 8) (v := ?_) rfl (by kernel_rfl) (by kernel_rfl) (by kernel_rfl) (fun _ _ _ h => h) (Or.inl ⟨by rfl, ?_⟩) SD.out ?_
  rotate_left
  · intro w hw
    try dsimp only at hw
    go_simp
    try with_reducible rfl
  try simp only [Act.put, List.setIfInBounds_toArray, List.set_cons_zero, List.set_cons_succ]
  refine takeL (i := 9) (v := .agg (bv y.key).toArray) rfl (by kernel_rfl) (by kernel_rfl) (by kernel_rfl) (fun _ _ _ h => h) (Or.inl ⟨by rfl, fun wz hwz => exec_load_at wz 57 (.tmp 38) rfl (ra.add (pn * 34)) (bv y.key) _ Tryd.underlying57 rfl HSK.out (fun j u hu => hwz.2.2.2 j u (role_key hu)) (by go_simp)⟩) SD.out ?_
  try simp only [Act.put, List.setIfInBounds_toArray, List.set_cons_zero, List.set_cons_succ]
  refine takeL (i := 10) (v := .tuple #[fnV15 y.key, .bool (decide (y.key = k0 ∨ y.key = k3))]) rfl (by kernel_rfl) (by kernel_rfl) (by kernel_rfl) (fun _ _ _ h => h) (Or.inl ⟨by rfl, fun wz hwz => exec_lookup15 wz (.tmp 30) (.tmp 39) rfl mb y.key _ (by go_simp) (by go_simp) (hwz.2.2.1.look ⟨HYO.out.1, HYO.out.2⟩)⟩) SD.out ?_
  try simp only [Act.put, List.setIfInBounds_toArray, List.set_cons_zero, List.set_cons_succ]
  have e0 : fnV15 y.key = .func (.func 65) #[] #[] := by unfold fnV15; rw [← HPR.out, if_pos hcase3]
  have e1 : decide (y.key = k0 ∨ y.key = k3) = true := decide_eq_true (.inl (by rw [← HPR.out]; exact hcase3))
  rw [e0, e1]
  clear e0 e1
  refine takeL (i := 11) (v := ?_) rfl (by kernel_rfl) (by kernel_rfl) (by kernel_rfl) (fun _ _ _ h => h) (Or.inl ⟨by rfl, ?_⟩) SD.out ?_
  rotate_left
  · intro w hw
    try dsimp only at hw
    go_simp
    try with_reducible rfl
  try simp only [Act.put, List.setIfInBounds_toArray, List.set_cons_zero, List.set_cons_succ]
  refine takeL (i := 12) (v := ?_) rfl (by kernel_rfl) (by kernel_rfl) (by kernel_rfl) (fun _ _ _ h => h) (Or.inl ⟨by rfl, ?_⟩) SD.out ?_
  rotate_left
  · intro w hw
    try dsimp only at hw
    go_simp
    try with_reducible rfl
  try simp only [Act.put, List.setIfInBounds_toArray, List.set_cons_zero, List.set_cons_succ]
  refine takeL (i := 13) (v := ?_) rfl (by kernel_rfl) (by kernel_rfl) (by kernel_rfl) (fun _ _ _ h => h) (Or.inl ⟨by rfl, ?_⟩) SD.out ?_
  rotate_left
  · intro w hw
    try dsimp only at hw
    go_simp
    try with_reducible rfl
  try simp only [Act.put, List.setIfInBounds_toArray, List.set_cons_zero, List.set_cons_succ]
  refine takeL (i := 14) (v := ?_) rfl (by kernel_rfl) (by kernel_rfl) (by kernel_rfl) (fun _ _ _ h => h) (Or.inl ⟨by rfl, ?_⟩) SD.out ?_
  rotate_left
  · intro w hw
    try dsimp only at hw
    go_simp
    try with_reducible rfl
  try simp only [Act.put, List.setIfInBounds_toArray, List.set_cons_zero, List.set_cons_succ]
  refine takeL (i := 15) (v := ?_) rfl (by kernel_rfl) (by kernel_rfl) (by kernel_rfl) (fun _ _ _ h => h) (Or.inl ⟨by rfl, ?_⟩) SD.out ?_
  rotate_left
  · intro w hw
    try dsimp only at hw
    go_simp
    try with_reducible rfl
  try simp only [Act.put, List.setIfInBounds_toArray, List.set_cons_zero, List.set_cons_succ]
  refine wpAnyH_done (by kernel_rfl) ?_ _
  try dsimp only [List.append]
  have HSY := Lib.hid (system15 h (some ra) rn rc x.roles va S.now (x.u - S.units - 150) S.space a.p IA n c D dn dc a.acc a.dat B wd SD.out.1 AVD.out ROD.out IND.out HHB.out hn hl hrn HSP.out)
  go_wp2_with (first
    | ((with_reducible show wpList _ _ _ ({ dst := some 48, op := Op.load _ _, type := _, pos := _, after := _, guard := _ } :: _) _ _); go_must (refine wpList_load_whole rfl 70 (.tmp 6) rfl gi _ (insC a.p IA n c D dn dc) _ Tryd.underlying70 rfl (by kernel_rfl) SD.out.2.1 ?_ ?_; go_simp))
    | fail)
  refine HSY.out.mono ?_
  rintro e w9 ⟨hb9, ⟨hne, rfl, hrw⟩ | ⟨hee, rfl, v, ho, hrw⟩⟩
  · go_wp2_with fail
    go_ret
    rw [step15_sysbad hcase HC2.out hcase3 hne]
    exact ⟨BD.out.trans hb9, .inl ⟨hne, rfl, va, S.space, by rw [← HEQ.out]; exact hrw⟩⟩
  · go_wp2_with fail
    go_ret
    rw [step15_sys hcase HC2.out hcase3 hee]
    exact ⟨BD.out.trans hb9, .inr ⟨rfl, rfl, v, .inr (oa_low15 ho (Nat.succ_le_of_lt SD.out.1.lt)), by rw [← HEQ.out]; exact hrw⟩⟩
set_option maxHeartbeats 8000000 in
theorem one_bud15 (h mb : Nat) (RA : Option Addr) (rn rc : Nat) (x : LReady) (k : Nat) (a : LIn) (S : S15) (va : Value) (IA : Option Addr) (n c : Nat) (D : Option Addr) (dn dc : Nat) (B : Nat) (bad : Bool) (w : World)
    (hw : Row w h 96 (wkC RA rn rc va (x.u - S.units) S.space)) (ha : AV15 w h va S.now) (hm : PM15 w mb) (hr : RolesIn w B RA rn x.roles) (hi : InsAt14 w B a.p IA n c D dn dc a.acc a.dat) (hB : B ≤ h) (hn : n ≤ 100000) (hl : S.now.length ≤ 100000) (hrn : rn ≤ 100000) (hsp : 0 ≤ S.space ∧ S.space + 1048576 < 18446744073709551616)
    (hu : 0 ≤ S.units ∧ S.units ≤ x.u ∧ x.u < 18446744073709551616) (hbad : bad = decide ((k : Int) = x.bad)) (hp : 0 ≤ a.p ∧ a.p < rn) (hcase : ¬ (x.u < 150 ∨ x.u - 150 < S.units)) (hcase2 : ¬ (k : Int) = x.bad) (hcase3 : ¬ prog15 x a = k0) (hcase4 : prog15 x a = k3) :
    Calls Tryd.prog 51 #[.pointer (some ⟨h, 0, none⟩), .map (some mb), .agg (insC a.p IA n c D dn dc).toArray, .bool bad] w (OneDone15 w h RA rn rc x (step15 x k a S).1 (step15 x k a S).2) := by
  have hlt := hw.lt
  have HLT := Lib.hid hlt
  have HU := Lib.hid hu
  have hb0 := (Below.refl w.heap.size w).alloc (Nat.le_refl _) (.cells (insC a.p IA n c D dn dc).toArray 70)
  have RH := Lib.hid (hw.alloc (.cells (insC a.p IA n c D dn dc).toArray 70))
  have RI := Lib.hid (Row.new w 70 (insC a.p IA n c D dn dc))
  have HB0 := Lib.hid hb0
  have HSZ : Hid ((w.alloc (.cells (insC a.p IA n c D dn dc).toArray 70)).heap.size = w.heap.size + 1) := Lib.hid (by simp)
  have AV0 := Lib.hid (ha.below hb0 hlt)
  have PM0 := Lib.hid (hm.below hb0)
  have RO0 := Lib.hid (hr.below (hb0.mono (Nat.le_trans hB (Nat.le_of_lt hlt))))
  have IN0 := Lib.hid (hi.below (hb0.mono (Nat.le_trans hB (Nat.le_of_lt hlt))))
  obtain ⟨gi, hgi⟩ : ∃ g, g = w.heap.size := ⟨_, rfl⟩
  have HGI : Hid (w.heap.size = gi) := Lib.hid hgi.symm
  rw [← hgi] at RI
  have HHB := Lib.hid hB
  have HSP := Lib.hid hsp
  have hu0 := hu.1
  have hu1 := hu.2.1
  have hu2 := hu.2.2
  clear hw ha hm hr hi hb0 hgi hlt hB hsp hu
  generalize hW : w.alloc (.cells (insC a.p IA n c D dn dc).toArray 70) = W at *
  have HW := Lib.hid hW
  clear hW
  have c2 : W.cell? ⟨h, 2, none⟩ = some (.int .u64 (x.u - S.units)) := RH.out.cell 2
  have f2 := RH.out.frozen 2
  have hhi : ¬ x.u - S.units < 150 := by omega
  have hge : 150 ≤ x.u - S.units := by omega
  have hwr : IntKind.u64.wrap (x.u - S.units - 150) = x.u - S.units - 150 := IntWalk.u64_in _ (by omega)
  have HEQ : Hid (x.u - S.units - 150 = x.u - (S.units + 150)) := Lib.hid (by omega)
  obtain rfl : bad = false := by rw [hbad]; exact decide_eq_false hcase2
  have HC2 := Lib.hid hcase2
  obtain ⟨pn, hpn⟩ : ∃ n : Nat, a.p = n := ⟨a.p.toNat, by have := hp.1; omega⟩
  have hpl : pn < rn := by have := hp.2; omega
  obtain ⟨ra, y, rfl, hrb, hy, hyo, hyc⟩ := RO0.out.get hpl
  have HRB : Hid (ra.block ≠ h ∧ ra.block < W.heap.size) := Lib.hid (by have h1 := HHB.out; have h2 := RH.out.lt; omega)
  have HYC := Lib.hid hyc
  have HYO := Lib.hid hyo
  have HPR := Lib.hid (prog_at15 (x := x) (a := a) hy hpn)
  have HSK : Hid ((Tryd.prog.info? 57).map (·.size) = some (bv y.key).length) := Lib.hid (by rw [bv_length, hyo.1]; exact size_key)
  have hpl' : (pn : Int) < rn := by omega
  have HPN := Lib.hid hpn
  have CI0 : W.cell? ⟨gi, 0, none⟩ = some (.int .u8 pn) := by rw [← hpn]; exact RI.out.cell 0
  clear hpn
  have TT := turned_setCell W ⟨h, 2, none⟩ (.int .u64 (x.u - S.units - 150))
  have HGH : Hid (gi ≠ h) := Lib.hid (by have h1 := HLT.out; have h2 := HGI.out; omega)
  have RV := Lib.hid (show Row (W.setCell ⟨h, 2, none⟩ (.int .u64 (x.u - S.units - 150))) h 96 (wkC (some ra) rn rc va (x.u - S.units - 150) S.space) from RH.out.set_ 2 _)
  have RIV := Lib.hid (TT.row RI.out HGH.out)
  have PMV := Lib.hid (PM0.out.keep (TT.block mb fun e => PM0.out.row_ne RH.out e.symm))
  have CYV : Hid (∀ j u, y.cells[j]? = some u → (W.setCell ⟨h, 2, none⟩ (.int .u64 (x.u - S.units - 150))).cell? ((ra.add (pn * 34)).add j) = some u) := Lib.hid fun j u hu => (cell_of_heap15 (TT.block _ (by rw [addr_block, addr_block]; exact HRB.out.1))).trans (HYC.out j u hu)
  have BV := Lib.hid ((But.of_below HB0.out h).trans (.of_turned TT))
  have AVV := Lib.hid (AV0.out.but (.of_turned TT) RH.out.lt)
  have INV := Lib.hid (IN0.out.below (TT.below HHB.out))
  have ROV := Lib.hid (RO0.out.below (TT.below HHB.out))
  clear hcase2 hbad hrb hy hyo hyc RO0 IN0 AV0 PM0 TT
  go_enter Tryd.func51, Tryd.ntmps51
  go_upto_region 1 with fail
  try rw [HGI.out]
  rw [HW.out]
  clear HGI HW
  go_upto_region 7 with fail
  generalize hVV : W.setCell ⟨h, 2, none⟩ (.int .u64 (x.u - S.units - 150)) = V at *
  clear hVV c2 f2 CI0
  refine wp_region_held_drew (S := fun U => Row U h 96 (wkC (some ra) rn rc va (x.u - S.units - 150) S.space) ∧ Row U gi 70 (insC a.p IA n c D dn dc) ∧ PM15 U mb ∧ ∀ j u, y.cells[j]? = some u → U.cell? ((ra.add (pn * 34)).add j) = some u) (by kernel_rfl) ⟨RV.out.drew, RIV.out.drew, PMV.out.keep rfl, CYV.out⟩ (fun _ => ?_)
  try dsimp only [List.append]
  have SD := Lib.hid (show Row V.drew h 96 (wkC (some ra) rn rc va (x.u - S.units - 150) S.space) ∧ Row V.drew gi 70 (insC a.p IA n c D dn dc) ∧ PM15 V.drew mb ∧ ∀ j u, y.cells[j]? = some u → V.drew.cell? ((ra.add (pn * 34)).add j) = some u from ⟨RV.out.drew, RIV.out.drew, PMV.out.keep rfl, CYV.out⟩)
  have BD := Lib.hid BV.out.drew
  have AVD : Hid (AV15 V.drew h va S.now) := Lib.hid (AVV.out.but (But.refl h V).drew RV.out.lt)
  have IND : Hid (InsAt14 V.drew B a.p IA n c D dn dc a.acc a.dat) := Lib.hid (INV.out.below (Below.refl _ _).drew)
  have ROD : Hid (RolesIn V.drew B (some ra) rn x.roles) := Lib.hid (ROV.out.below (Below.refl _ _).drew)
  clear RV RIV PMV CYV BV AVV INV ROV
  generalize V.drew = wd at *
  refine takeL (i := 0) (v := ?_) rfl (by kernel_rfl) (by kernel_rfl) (by kernel_rfl) (fun _ _ _ h => h) (Or.inl ⟨by rfl, ?_⟩) SD.out ?_
  rotate_left
  · intro w hw
    try dsimp only at hw
    go_simp
    try with_reducible rfl
  try simp only [Act.put, List.setIfInBounds_toArray, List.set_cons_zero, List.set_cons_succ]
  refine takeL (i := 1) (v := ?_) rfl (by kernel_rfl) (by kernel_rfl) (by kernel_rfl) (fun _ _ _ h => h) (Or.inl ⟨by rfl, ?_⟩) SD.out ?_
  rotate_left
  · intro w hw
    try dsimp only at hw
    go_simp
    try with_reducible rfl
  try simp only [Act.put, List.setIfInBounds_toArray, List.set_cons_zero, List.set_cons_succ]
  refine takeL (i := 2) (v := ?_) rfl (by kernel_rfl) (by kernel_rfl) (by kernel_rfl) (fun _ _ _ h => h) (Or.inl ⟨by rfl, ?_⟩) SD.out ?_
  rotate_left
  · intro w hw
    try dsimp only at hw
    go_simp
    try with_reducible rfl
  try simp only [Act.put, List.setIfInBounds_toArray, List.set_cons_zero, List.set_cons_succ]
  refine takeL (i := 3) (v := ?_) rfl (by kernel_rfl) (by kernel_rfl) (by kernel_rfl) (fun _ _ _ h => h) (Or.inl ⟨by rfl, ?_⟩) SD.out ?_
  rotate_left
  · intro w hw
    try dsimp only at hw
    go_simp
    try with_reducible rfl
  try simp only [Act.put, List.setIfInBounds_toArray, List.set_cons_zero, List.set_cons_succ]
  refine takeL (i := 4) (v := ?_) rfl (by kernel_rfl) (by kernel_rfl) (by kernel_rfl) (fun _ _ _ h => h) (Or.inl ⟨by rfl, ?_⟩) SD.out ?_
  rotate_left
  · intro w hw
    try dsimp only at hw
    have c0 : w.cell? ⟨h, 0, none⟩ = some (.slice (some ra) rn rc) := hw.1.cell 0
    go_simp
    try with_reducible rfl
  try simp only [Act.put, List.setIfInBounds_toArray, List.set_cons_zero, List.set_cons_succ]
  refine takeL (i := 5) (v := ?_) rfl (by kernel_rfl) (by kernel_rfl) (by kernel_rfl) (fun _ _ _ h => h) (Or.inl ⟨by rfl, ?_⟩) SD.out ?_
  rotate_left
  · intro w hw
    try dsimp only at hw
    go_simp
    try with_reducible rfl
  try simp only [Act.put, List.setIfInBounds_toArray, List.set_cons_zero, List.set_cons_succ]
  refine takeL (i := 6) (v := ?_) rfl (by kernel_rfl) (by kernel_rfl) (by kernel_rfl) (fun _ _ _ h => h) (Or.inl ⟨by rfl, ?_⟩) SD.out ?_
  rotate_left
  · intro w hw
    try dsimp only at hw
    have c0 : w.cell? ⟨gi, 0, none⟩ = some (.int .u8 pn) := by rw [← HPN.out]; exact hw.2.1.cell 0
    go_simp
    try with_reducible rfl
  try simp only [Act.put, List.setIfInBounds_toArray, List.set_cons_zero, List.set_cons_succ]
  refine takeL (i := 7) (v := ?_) rfl (by kernel_rfl) (by kernel_rfl) (by kernel_rfl) (fun _ _ _ h => h) (Or.inl ⟨by rfl, ?_⟩) SD.out ?_
  rotate_left
  · intro w hw
    try dsimp only at hw
    go_simp
    try with_reducible rfl
  try simp only [Act.put, List.setIfInBounds_toArray, List.set_cons_zero, List.set_cons_succ]
  refine takeL (i := 8) (v := ?_) rfl (by kernel_rfl) (by kernel_rfl) (by kernel_rfl) (fun _ _ _ h => h) (Or.inl ⟨by rfl, ?_⟩) SD.out ?_
  rotate_left
  · intro w hw
    try dsimp only at hw
    go_simp
    try with_reducible rfl
  try simp only [Act.put, List.setIfInBounds_toArray, List.set_cons_zero, List.set_cons_succ]
  refine takeL (i := 9) (v := .agg (bv y.key).toArray) rfl (by kernel_rfl) (by kernel_rfl) (by kernel_rfl) (fun _ _ _ h => h) (Or.inl ⟨by rfl, fun wz hwz => exec_load_at wz 57 (.tmp 38) rfl (ra.add (pn * 34)) (bv y.key) _ Tryd.underlying57 rfl HSK.out (fun j u hu => hwz.2.2.2 j u (role_key hu)) (by go_simp)⟩) SD.out ?_
  try simp only [Act.put, List.setIfInBounds_toArray, List.set_cons_zero, List.set_cons_succ]
  refine takeL (i := 10) (v := .tuple #[fnV15 y.key, .bool (decide (y.key = k0 ∨ y.key = k3))]) rfl (by kernel_rfl) (by kernel_rfl) (by kernel_rfl) (fun _ _ _ h => h) (Or.inl ⟨by rfl, fun wz hwz => exec_lookup15 wz (.tmp 30) (.tmp 39) rfl mb y.key _ (by go_simp) (by go_simp) (hwz.2.2.1.look ⟨HYO.out.1, HYO.out.2⟩)⟩) SD.out ?_
  try simp only [Act.put, List.setIfInBounds_toArray, List.set_cons_zero, List.set_cons_succ]
  have e0 : fnV15 y.key = .func (.func 66) #[] #[] := by unfold fnV15; rw [← HPR.out, if_neg hcase3, if_pos hcase4]
  have e1 : decide (y.key = k0 ∨ y.key = k3) = true := decide_eq_true (.inr (by rw [← HPR.out]; exact hcase4))
  rw [e0, e1]
  clear e0 e1
  refine takeL (i := 11) (v := ?_) rfl (by kernel_rfl) (by kernel_rfl) (by kernel_rfl) (fun _ _ _ h => h) (Or.inl ⟨by rfl, ?_⟩) SD.out ?_
  rotate_left
  · intro w hw
    try dsimp only at hw
    go_simp
    try with_reducible rfl
  try simp only [Act.put, List.setIfInBounds_toArray, List.set_cons_zero, List.set_cons_succ]
  refine takeL (i := 12) (v := ?_) rfl (by kernel_rfl) (by kernel_rfl) (by kernel_rfl) (fun _ _ _ h => h) (Or.inl ⟨by rfl, ?_⟩) SD.out ?_
  rotate_left
  · intro w hw
    try dsimp only at hw
    go_simp
    try with_reducible rfl
  try simp only [Act.put, List.setIfInBounds_toArray, List.set_cons_zero, List.set_cons_succ]
  refine takeL (i := 13) (v := ?_) rfl (by kernel_rfl) (by kernel_rfl) (by kernel_rfl) (fun _ _ _ h => h) (Or.inl ⟨by rfl, ?_⟩) SD.out ?_
  rotate_left
  · intro w hw
    try dsimp only at hw
    go_simp
    try with_reducible rfl
  try simp only [Act.put, List.setIfInBounds_toArray, List.set_cons_zero, List.set_cons_succ]
  refine takeL (i := 14) (v := ?_) rfl (by kernel_rfl) (by kernel_rfl) (by kernel_rfl) (fun _ _ _ h => h) (Or.inl ⟨by rfl, ?_⟩) SD.out ?_
  rotate_left
  · intro w hw
    try dsimp only at hw
    go_simp
    try with_reducible rfl
  try simp only [Act.put, List.setIfInBounds_toArray, List.set_cons_zero, List.set_cons_succ]
  refine takeL (i := 15) (v := ?_) rfl (by kernel_rfl) (by kernel_rfl) (by kernel_rfl) (fun _ _ _ h => h) (Or.inl ⟨by rfl, ?_⟩) SD.out ?_
  rotate_left
  · intro w hw
    try dsimp only at hw
    go_simp
    try with_reducible rfl
  try simp only [Act.put, List.setIfInBounds_toArray, List.set_cons_zero, List.set_cons_succ]
  refine wpAnyH_done (by kernel_rfl) ?_ _
  try dsimp only [List.append]
  have HSY := Lib.hid (budget15 (.pointer (some ⟨h, 0, none⟩)) (insC a.p IA n c D dn dc) wd)
  go_wp2_with (first
    | ((with_reducible show wpList _ _ _ ({ dst := some 48, op := Op.load _ _, type := _, pos := _, after := _, guard := _ } :: _) _ _); go_must (refine wpList_load_whole rfl 70 (.tmp 6) rfl gi _ (insC a.p IA n c D dn dc) _ Tryd.underlying70 rfl (by kernel_rfl) SD.out.2.1 ?_ ?_; go_simp))
    | (go_at_call 66; refine HSY.out.mono ?_; rintro e w9 ⟨rfl, hd⟩; have HD9 := Lib.hid hd; clear hd))
  go_ret
  rw [step15_bud hcase HC2.out hcase3 hcase4]
  exact ⟨BD.out.trans (.of_below HD9.out h), .inr ⟨rfl, rfl, va, AVD.out.below HD9.out SD.out.1.lt, by rw [← HEQ.out]; exact SD.out.1.below HD9.out SD.out.1.lt⟩⟩
set_option maxHeartbeats 8000000 in
theorem one_none15 (h mb : Nat) (RA : Option Addr) (rn rc : Nat) (x : LReady) (k : Nat) (a : LIn) (S : S15) (va : Value) (IA : Option Addr) (n c : Nat) (D : Option Addr) (dn dc : Nat) (B : Nat) (bad : Bool) (w : World)
    (hw : Row w h 96 (wkC RA rn rc va (x.u - S.units) S.space)) (ha : AV15 w h va S.now) (hm : PM15 w mb) (hr : RolesIn w B RA rn x.roles) (hi : InsAt14 w B a.p IA n c D dn dc a.acc a.dat) (hB : B ≤ h) (hn : n ≤ 100000) (hl : S.now.length ≤ 100000) (hrn : rn ≤ 100000) (hsp : 0 ≤ S.space ∧ S.space + 1048576 < 18446744073709551616)
    (hu : 0 ≤ S.units ∧ S.units ≤ x.u ∧ x.u < 18446744073709551616) (hbad : bad = decide ((k : Int) = x.bad)) (hp : 0 ≤ a.p ∧ a.p < rn) (hcase : ¬ (x.u < 150 ∨ x.u - 150 < S.units)) (hcase2 : ¬ (k : Int) = x.bad) (hcase3 : ¬ prog15 x a = k0) (hcase4 : ¬ prog15 x a = k3) :
    Calls Tryd.prog 51 #[.pointer (some ⟨h, 0, none⟩), .map (some mb), .agg (insC a.p IA n c D dn dc).toArray, .bool bad] w (OneDone15 w h RA rn rc x (step15 x k a S).1 (step15 x k a S).2) := by
  have hlt := hw.lt
  have HLT := Lib.hid hlt
  have HU := Lib.hid hu
  have hb0 := (Below.refl w.heap.size w).alloc (Nat.le_refl _) (.cells (insC a.p IA n c D dn dc).toArray 70)
  have RH := Lib.hid (hw.alloc (.cells (insC a.p IA n c D dn dc).toArray 70))
  have RI := Lib.hid (Row.new w 70 (insC a.p IA n c D dn dc))
  have HB0 := Lib.hid hb0
  have HSZ : Hid ((w.alloc (.cells (insC a.p IA n c D dn dc).toArray 70)).heap.size = w.heap.size + 1) := Lib.hid (by simp)
  have AV0 := Lib.hid (ha.below hb0 hlt)
  have PM0 := Lib.hid (hm.below hb0)
  have RO0 := Lib.hid (hr.below (hb0.mono (Nat.le_trans hB (Nat.le_of_lt hlt))))
  have IN0 := Lib.hid (hi.below (hb0.mono (Nat.le_trans hB (Nat.le_of_lt hlt))))
  obtain ⟨gi, hgi⟩ : ∃ g, g = w.heap.size := ⟨_, rfl⟩
  have HGI : Hid (w.heap.size = gi) := Lib.hid hgi.symm
  rw [← hgi] at RI
  have HHB := Lib.hid hB
  have HSP := Lib.hid hsp
  have hu0 := hu.1
  have hu1 := hu.2.1
  have hu2 := hu.2.2
  clear hw ha hm hr hi hb0 hgi hlt hB hsp hu
  generalize hW : w.alloc (.cells (insC a.p IA n c D dn dc).toArray 70) = W at *
  have HW := Lib.hid hW
  clear hW
  have c2 : W.cell? ⟨h, 2, none⟩ = some (.int .u64 (x.u - S.units)) := RH.out.cell 2
  have f2 := RH.out.frozen 2
  have hhi : ¬ x.u - S.units < 150 := by omega
  have hge : 150 ≤ x.u - S.units := by omega
  have hwr : IntKind.u64.wrap (x.u - S.units - 150) = x.u - S.units - 150 := IntWalk.u64_in _ (by omega)
  have HEQ : Hid (x.u - S.units - 150 = x.u - (S.units + 150)) := Lib.hid (by omega)
  obtain rfl : bad = false := by rw [hbad]; exact decide_eq_false hcase2
  have HC2 := Lib.hid hcase2
  obtain ⟨pn, hpn⟩ : ∃ n : Nat, a.p = n := ⟨a.p.toNat, by have := hp.1; omega⟩
  have hpl : pn < rn := by have := hp.2; omega
  obtain ⟨ra, y, rfl, hrb, hy, hyo, hyc⟩ := RO0.out.get hpl
  have HRB : Hid (ra.block ≠ h ∧ ra.block < W.heap.size) := Lib.hid (by have h1 := HHB.out; have h2 := RH.out.lt; omega)
  have HYC := Lib.hid hyc
  have HYO := Lib.hid hyo
  have HPR := Lib.hid (prog_at15 (x := x) (a := a) hy hpn)
  have HSK : Hid ((Tryd.prog.info? 57).map (·.size) = some (bv y.key).length) := Lib.hid (by rw [bv_length, hyo.1]; exact size_key)
  have hpl' : (pn : Int) < rn := by omega
  have HPN := Lib.hid hpn
  have CI0 : W.cell? ⟨gi, 0, none⟩ = some (.int .u8 pn) := by rw [← hpn]; exact RI.out.cell 0
  clear hpn
  have TT := turned_setCell W ⟨h, 2, none⟩ (.int .u64 (x.u - S.units - 150))
  have HGH : Hid (gi ≠ h) := Lib.hid (by have h1 := HLT.out; have h2 := HGI.out; omega)
  have RV := Lib.hid (show Row (W.setCell ⟨h, 2, none⟩ (.int .u64 (x.u - S.units - 150))) h 96 (wkC (some ra) rn rc va (x.u - S.units - 150) S.space) from RH.out.set_ 2 _)
  have RIV := Lib.hid (TT.row RI.out HGH.out)
  have PMV := Lib.hid (PM0.out.keep (TT.block mb fun e => PM0.out.row_ne RH.out e.symm))
  have CYV : Hid (∀ j u, y.cells[j]? = some u → (W.setCell ⟨h, 2, none⟩ (.int .u64 (x.u - S.units - 150))).cell? ((ra.add (pn * 34)).add j) = some u) := Lib.hid fun j u hu => (cell_of_heap15 (TT.block _ (by rw [addr_block, addr_block]; exact HRB.out.1))).trans (HYC.out j u hu)
  have BV := Lib.hid ((But.of_below HB0.out h).trans (.of_turned TT))
  have AVV := Lib.hid (AV0.out.but (.of_turned TT) RH.out.lt)
  have INV := Lib.hid (IN0.out.below (TT.below HHB.out))
  have ROV := Lib.hid (RO0.out.below (TT.below HHB.out))
  clear hcase2 hbad hrb hy hyo hyc RO0 IN0 AV0 PM0 TT
  go_enter Tryd.func51, Tryd.ntmps51
  go_upto_region 1 with fail
  try rw [HGI.out]
  rw [HW.out]
  clear HGI HW
  go_upto_region 7 with fail
  generalize hVV : W.setCell ⟨h, 2, none⟩ (.int .u64 (x.u - S.units - 150)) = V at *
  clear hVV c2 f2 CI0
  refine wp_region_held_drew (S := fun U => Row U h 96 (wkC (some ra) rn rc va (x.u - S.units - 150) S.space) ∧ Row U gi 70 (insC a.p IA n c D dn dc) ∧ PM15 U mb ∧ ∀ j u, y.cells[j]? = some u → U.cell? ((ra.add (pn * 34)).add j) = some u) (by kernel_rfl) ⟨RV.out.drew, RIV.out.drew, PMV.out.keep rfl, CYV.out⟩ (fun _ => ?_)
  try dsimp only [List.append]
  have SD := Lib.hid (show Row V.drew h 96 (wkC (some ra) rn rc va (x.u - S.units - 150) S.space) ∧ Row V.drew gi 70 (insC a.p IA n c D dn dc) ∧ PM15 V.drew mb ∧ ∀ j u, y.cells[j]? = some u → V.drew.cell? ((ra.add (pn * 34)).add j) = some u from ⟨RV.out.drew, RIV.out.drew, PMV.out.keep rfl, CYV.out⟩)
  have BD := Lib.hid BV.out.drew
  have AVD : Hid (AV15 V.drew h va S.now) := Lib.hid (AVV.out.but (But.refl h V).drew RV.out.lt)
  have IND : Hid (InsAt14 V.drew B a.p IA n c D dn dc a.acc a.dat) := Lib.hid (INV.out.below (Below.refl _ _).drew)
  have ROD : Hid (RolesIn V.drew B (some ra) rn x.roles) := Lib.hid (ROV.out.below (Below.refl _ _).drew)
  clear RV RIV PMV CYV BV AVV INV ROV
  generalize V.drew = wd at *
  refine takeL (i := 0) (v := ?_) rfl (by kernel_rfl) (by kernel_rfl) (by kernel_rfl) (fun _ _ _ h => h) (Or.inl ⟨by rfl, ?_⟩) SD.out ?_
  rotate_left
  · intro w hw
    try dsimp only at hw
    go_simp
    try with_reducible rfl
  try simp only [Act.put, List.setIfInBounds_toArray, List.set_cons_zero, List.set_cons_succ]
  refine takeL (i := 1) (v := ?_) rfl (by kernel_rfl) (by kernel_rfl) (by kernel_rfl) (fun _ _ _ h => h) (Or.inl ⟨by rfl, ?_⟩) SD.out ?_
  rotate_left
  · intro w hw
    try dsimp only at hw
    go_simp
    try with_reducible rfl
  try simp only [Act.put, List.setIfInBounds_toArray, List.set_cons_zero, List.set_cons_succ]
  refine takeL (i := 2) (v := ?_) rfl (by kernel_rfl) (by kernel_rfl) (by kernel_rfl) (fun _ _ _ h => h) (Or.inl ⟨by rfl, ?_⟩) SD.out ?_
  rotate_left
  · intro w hw
    try dsimp only at hw
    go_simp
    try with_reducible rfl
  try simp only [Act.put, List.setIfInBounds_toArray, List.set_cons_zero, List.set_cons_succ]
  refine takeL (i := 3) (v := ?_) rfl (by kernel_rfl) (by kernel_rfl) (by kernel_rfl) (fun _ _ _ h => h) (Or.inl ⟨by rfl, ?_⟩) SD.out ?_
  rotate_left
  · intro w hw
    try dsimp only at hw
    go_simp
    try with_reducible rfl
  try simp only [Act.put, List.setIfInBounds_toArray, List.set_cons_zero, List.set_cons_succ]
  refine takeL (i := 4) (v := ?_) rfl (by kernel_rfl) (by kernel_rfl) (by kernel_rfl) (fun _ _ _ h => h) (Or.inl ⟨by rfl, ?_⟩) SD.out ?_
  rotate_left
  · intro w hw
    try dsimp only at hw
    have c0 : w.cell? ⟨h, 0, none⟩ = some (.slice (some ra) rn rc) := hw.1.cell 0
    go_simp
    try with_reducible rfl
  try simp only [Act.put, List.setIfInBounds_toArray, List.set_cons_zero, List.set_cons_succ]
  refine takeL (i := 5) (v := ?_) rfl (by kernel_rfl) (by kernel_rfl) (by kernel_rfl) (fun _ _ _ h => h) (Or.inl ⟨by rfl, ?_⟩) SD.out ?_
  rotate_left
  · intro w hw
    try dsimp only at hw
    go_simp
    try with_reducible rfl
  try simp only [Act.put, List.setIfInBounds_toArray, List.set_cons_zero, List.set_cons_succ]
  refine takeL (i := 6) (v := ?_) rfl (by kernel_rfl) (by kernel_rfl) (by kernel_rfl) (fun _ _ _ h => h) (Or.inl ⟨by rfl, ?_⟩) SD.out ?_
  rotate_left
  · intro w hw
    try dsimp only at hw
    have c0 : w.cell? ⟨gi, 0, none⟩ = some (.int .u8 pn) := by rw [← HPN.out]; exact hw.2.1.cell 0
    go_simp
    try with_reducible rfl
  try simp only [Act.put, List.setIfInBounds_toArray, List.set_cons_zero, List.set_cons_succ]
  refine takeL (i := 7) (v := ?_) rfl (by kernel_rfl) (by kernel_rfl) (by kernel_rfl) (fun _ _ _ h => h) (Or.inl ⟨by rfl, ?_⟩) SD.out ?_
  rotate_left
  · intro w hw
    try dsimp only at hw
    go_simp
    try with_reducible rfl
  try simp only [Act.put, List.setIfInBounds_toArray, List.set_cons_zero, List.set_cons_succ]
  refine takeL (i := 8) (v := ?_) rfl (by kernel_rfl) (by kernel_rfl) (by kernel_rfl) (fun _ _ _ h => h) (Or.inl ⟨by rfl, ?_⟩) SD.out ?_
  rotate_left
  · intro w hw
    try dsimp only at hw
    go_simp
    try with_reducible rfl
  try simp only [Act.put, List.setIfInBounds_toArray, List.set_cons_zero, List.set_cons_succ]
  refine takeL (i := 9) (v := .agg (bv y.key).toArray) rfl (by kernel_rfl) (by kernel_rfl) (by kernel_rfl) (fun _ _ _ h => h) (Or.inl ⟨by rfl, fun wz hwz => exec_load_at wz 57 (.tmp 38) rfl (ra.add (pn * 34)) (bv y.key) _ Tryd.underlying57 rfl HSK.out (fun j u hu => hwz.2.2.2 j u (role_key hu)) (by go_simp)⟩) SD.out ?_
  try simp only [Act.put, List.setIfInBounds_toArray, List.set_cons_zero, List.set_cons_succ]
  refine takeL (i := 10) (v := .tuple #[fnV15 y.key, .bool (decide (y.key = k0 ∨ y.key = k3))]) rfl (by kernel_rfl) (by kernel_rfl) (by kernel_rfl) (fun _ _ _ h => h) (Or.inl ⟨by rfl, fun wz hwz => exec_lookup15 wz (.tmp 30) (.tmp 39) rfl mb y.key _ (by go_simp) (by go_simp) (hwz.2.2.1.look ⟨HYO.out.1, HYO.out.2⟩)⟩) SD.out ?_
  try simp only [Act.put, List.setIfInBounds_toArray, List.set_cons_zero, List.set_cons_succ]
  have e1 : decide (y.key = k0 ∨ y.key = k3) = false := decide_eq_false (by rw [← HPR.out]; rintro (h | h); exact hcase3 h; exact hcase4 h)
  rw [e1]
  clear e1
  refine takeL (i := 11) (v := ?_) rfl (by kernel_rfl) (by kernel_rfl) (by kernel_rfl) (fun _ _ _ h => h) (Or.inl ⟨by rfl, ?_⟩) SD.out ?_
  rotate_left
  · intro w hw
    try dsimp only at hw
    go_simp
    try with_reducible rfl
  try simp only [Act.put, List.setIfInBounds_toArray, List.set_cons_zero, List.set_cons_succ]
  refine takeL (i := 12) (v := ?_) rfl (by kernel_rfl) (by kernel_rfl) (by kernel_rfl) (fun _ _ _ h => h) (Or.inl ⟨by rfl, ?_⟩) SD.out ?_
  rotate_left
  · intro w hw
    try dsimp only at hw
    go_simp
    try with_reducible rfl
  try simp only [Act.put, List.setIfInBounds_toArray, List.set_cons_zero, List.set_cons_succ]
  refine takeL (i := 13) (v := ?_) rfl (by kernel_rfl) (by kernel_rfl) (by kernel_rfl) (fun _ _ _ h => h) (Or.inl ⟨by rfl, ?_⟩) SD.out ?_
  rotate_left
  · intro w hw
    try dsimp only at hw
    go_simp
    try with_reducible rfl
  try simp only [Act.put, List.setIfInBounds_toArray, List.set_cons_zero, List.set_cons_succ]
  refine takeL (i := 14) (v := ?_) rfl (by kernel_rfl) (by kernel_rfl) (by kernel_rfl) (fun _ _ _ h => h) (Or.inl ⟨by rfl, ?_⟩) SD.out ?_
  rotate_left
  · intro w hw
    try dsimp only at hw
    go_simp
    try with_reducible rfl
  try simp only [Act.put, List.setIfInBounds_toArray, List.set_cons_zero, List.set_cons_succ]
  refine takeL (i := 15) (v := ?_) rfl (by kernel_rfl) (by kernel_rfl) (by kernel_rfl) (fun _ _ _ h => h) (Or.inl ⟨by rfl, ?_⟩) SD.out ?_
  rotate_left
  · intro w hw
    try dsimp only at hw
    go_simp
    try with_reducible rfl
  try simp only [Act.put, List.setIfInBounds_toArray, List.set_cons_zero, List.set_cons_succ]
  refine wpAnyH_done (by kernel_rfl) ?_ _
  try dsimp only [List.append]
  go_wp2_with fail
  go_ret
  rw [step15_none hcase HC2.out hcase3 hcase4]
  exact ⟨BD.out, .inl ⟨(show (19 : Int) ≠ 0 by decide), rfl, va, S.space, by rw [← HEQ.out]; exact SD.out.1⟩⟩
theorem one15 (h mb : Nat) (RA : Option Addr) (rn rc : Nat) (x : LReady) (k : Nat) (a : LIn) (S : S15) (va : Value) (IA : Option Addr) (n c : Nat) (D : Option Addr) (dn dc : Nat) (B : Nat) (bad : Bool) (w : World)
    (hw : Row w h 96 (wkC RA rn rc va (x.u - S.units) S.space)) (ha : AV15 w h va S.now) (hm : PM15 w mb) (hr : RolesIn w B RA rn x.roles) (hi : InsAt14 w B a.p IA n c D dn dc a.acc a.dat) (hB : B ≤ h) (hn : n ≤ 100000) (hl : S.now.length ≤ 100000) (hrn : rn ≤ 100000) (hsp : 0 ≤ S.space ∧ S.space + 1048576 < 18446744073709551616)
    (hu : 0 ≤ S.units ∧ S.units ≤ x.u ∧ x.u < 18446744073709551616) (hbad : bad = decide ((k : Int) = x.bad)) (hp : 0 ≤ a.p ∧ a.p < rn) :
    Calls Tryd.prog 51 #[.pointer (some ⟨h, 0, none⟩), .map (some mb), .agg (insC a.p IA n c D dn dc).toArray, .bool bad] w (OneDone15 w h RA rn rc x (step15 x k a S).1 (step15 x k a S).2) := by
  by_cases hcase : x.u < 150 ∨ x.u - 150 < S.units
  · exact one_units15 h mb RA rn rc x k a S va IA n c D dn dc B bad w hw ha hm hr hi hB hn hl hrn hsp hu hbad hp hcase
  by_cases hcase2 : (k : Int) = x.bad
  · exact one_bad15 h mb RA rn rc x k a S va IA n c D dn dc B bad w hw ha hm hr hi hB hn hl hrn hsp hu hbad hp hcase hcase2
  by_cases hcase3 : prog15 x a = k0
  · exact one_sys15 h mb RA rn rc x k a S va IA n c D dn dc B bad w hw ha hm hr hi hB hn hl hrn hsp hu hbad hp hcase hcase2 hcase3
  by_cases hcase4 : prog15 x a = k3
  · exact one_bud15 h mb RA rn rc x k a S va IA n c D dn dc B bad w hw ha hm hr hi hB hn hl hrn hsp hu hbad hp hcase hcase2 hcase3 hcase4
  exact one_none15 h mb RA rn rc x k a S va IA n c D dn dc B bad w hw ha hm hr hi hB hn hl hrn hsp hu hbad hp hcase hcase2 hcase3 hcase4
end Go.Proofs.YtfaefpniiiandaaDoor

/-
  Of part All15: what is needed here.
-/
namespace Go.Proofs.YtfaefpniiiandaaDoor
open Go.RowKit
set_option linter.unusedVariables false
set_option maxRecDepth 100000
section
variable {x : LReady} {l : List LAcc} {ln k : Nat} {S S' : S15} {a : LIn} {e : Int}
theorem Go15.ends (h : Go15 x l ln k S) (ha : x.tx.m.ins[k]? = some a) (hs : step15 x k a S = (e, S')) (he : e ≠ 0) : go15 x x.tx.m.ins 0 ⟨l, 0, 0⟩ = (e, (k : Int), S') := by
  rw [← h.eq, go15_drop ha]
  unfold go15
  rw [hs, if_neg he]
theorem Go15.through (h : Go15 x l ln k S) (hk : x.tx.m.ins.length ≤ k) : go15 x x.tx.m.ins 0 ⟨l, 0, 0⟩ = (0, -1, S) := by
  rw [← h.eq, List.drop_of_length_le hk]
  rfl
end
/-- what one good step keeps -/
theorem step_ok15 {x : LReady} {l : List LAcc} {ln k : Nat} {S : S15} {a : LIn} (h : Go15 x l ln k S) (ha : x.tx.m.ins[k]? = some a) (hs : (step15 x k a S).1 = 0) (hok : ∀ y ∈ S.now, AccOk y) (hb : AllBytes a.acc ∧ AllBytes a.dat) : Go15 x l ln (k + 1) (step15 x k a S).2 := by
  by_cases hcase : x.u < 150 ∨ x.u - 150 < S.units
  · rw [step15_units hcase] at hs; cases hs
  by_cases hcase2 : (k : Int) = x.bad
  · rw [step15_bad hcase hcase2] at hs; cases hs
  have hu : 0 ≤ S.units + 150 ∧ S.units + 150 ≤ x.u := ⟨by have := h.u.1; omega, by omega⟩
  by_cases hcase3 : prog15 x a = k0
  · by_cases he : (do14 S.now x.roles a.acc a.dat).e = 0
    · obtain ⟨pa, pb, hwt⟩ := do_went hok hb.2 hb.1 he
      have hst := step15_sys (k := k) hcase hcase2 hcase3 he
      refine h.next ha (by rw [hst]) ?_ ?_ ?_
      · rw [hst]; exact hwt.d.len.trans h.len
      · rw [hst]; exact hu
      · rw [hst]
        have h1 := hwt.d.lim
        have h2 := h.s.1
        exact ⟨by show 0 ≤ S.space + _; omega, by show S.space + _ ≤ S.space + 1048576; omega⟩
    · rw [step15_sysbad hcase hcase2 hcase3 he] at hs
      exact absurd hs he
  by_cases hcase4 : prog15 x a = k3
  · have hst := step15_bud (k := k) hcase hcase2 hcase3 hcase4
    refine h.next ha (by rw [hst]) ?_ ?_ ?_
    · rw [hst]; exact h.len
    · rw [hst]; exact hu
    · rw [hst]
      have h2 := h.s.1
      exact ⟨h2, by show S.space ≤ S.space + 1048576; omega⟩
  · rw [step15_none hcase hcase2 hcase3 hcase4] at hs; cases hs
theorem size_rd15b {q : YRaw} {x : LReady} (h : x.tx.m.recent.length = 32) : (Tryd.prog.info? 41).map (·.size) = some (q.cells x).length := by
  rw [ycells_len h]
  kernel_rfl
theorem built_fail15 (k : Int) (t : TypeId) (v : Value) : Tryd.prog.built 105 [(0, .int .i64 k), (1, .iface t v)] = some ([.int .i64 k, .iface t v] : List Value).toArray := by kernel_rfl
/-- what all leaves -/
def AllDone15 (w : World) (h : Nat) (RA : Option Addr) (rn rc : Nat) (x : LReady) (G : Int × Int × S15) (e : Ending) (w' : World) : Prop :=
  But h w w' ∧ ((G.1 ≠ 0 ∧ ∃ fb, e = .returned (.iface 100 (.pointer (some ⟨fb, 0, none⟩))) ∧ Row w' fb 105 [.int .i64 G.2.1, .iface 50 (.int .i64 G.1)] ∧ w.heap.size ≤ fb ∧ ∃ va sp, Row w' h 96 (wkC RA rn rc va (x.u - G.2.2.units) sp))
    ∨ (G.1 = 0 ∧ e = .returned .nilIface ∧ ∃ v, AV15 w' h v G.2.2.now ∧ Row w' h 96 (wkC RA rn rc v (x.u - G.2.2.units) G.2.2.space)))
/-- what there is on the way -/
structure AX15 (w V : World) (h mb g3 : Nat) (q : YRaw) (x : LReady) (v : Value) (S : S15) : Prop where
  b : But h w V
  r3 : Row V g3 41 (q.cells x)
  pm : PM15 V mb
  av : AV15 V h v S.now
  rh : Row V h 96 (wkC q.RA q.rn q.rc v (x.u - S.units) S.space)
theorem AX15.below {w V V' : World} {h mb g3 : Nat} {q : YRaw} {x : LReady} {v : Value} {S : S15} (a : AX15 w V h mb g3 q x v S) (hb : Below V.heap.size V V') : AX15 w V' h mb g3 q x v S :=
  ⟨a.b.trans (.of_below hb h), a.r3.below hb a.r3.lt, a.pm.below hb, a.av.below hb a.rh.lt, a.rh.below hb a.rh.lt⟩
set_option maxHeartbeats 8000000 in
theorem all15 (h : Nat) (q : YRaw) (x : LReady) (B : Nat) (l : List LAcc) (va : Value) (w : World) (hw : Row w h 96 (wkC q.RA q.rn q.rc va x.u 0)) (ha : AV15 w h va l) (hr : ReadyIn w B q x) (hB : B ≤ h) (hln : l.length ≤ 100000) (hrn : q.rn ≤ 100000)
    (hpb : ∀ a ∈ x.tx.m.ins, 0 ≤ a.p ∧ a.p < q.rn) (hab : ∀ a ∈ x.tx.m.ins, AllBytes a.acc ∧ AllBytes a.dat) (hu : 0 ≤ x.u ∧ x.u < 18446744073709551616) (hsm : q.t.q.n ≤ 65535 ∧ ∀ a ∈ x.tx.m.ins, a.acc.length ≤ 65535) :
    Calls Tryd.prog 33 #[.pointer (some ⟨h, 0, none⟩), .agg (q.cells x).toArray] w (AllDone15 w h q.RA q.rn q.rc x (go15 x x.tx.m.ins 0 ⟨l, 0, 0⟩)) := by
  have hlt := hw.lt
  have HLT := Lib.hid hlt
  have HB := Lib.hid hB
  have H32 := Lib.hid hr.tx.m.recent
  have HNN := Lib.hid hr.tx.m.ins.len
  have HRD := Lib.hid (fun (V : World) (hv : But h w V) => hr.below (hv.below hB (Nat.le_trans hB (Nat.le_of_lt hlt))))
  have HPB := Lib.hid hpb
  have HAB := Lib.hid hab
  have HU := Lib.hid hu
  have HSM := Lib.hid hsm
  have HNM := Lib.hid hr.tx.m.n
  have hb0 := (Below.refl w.heap.size w).alloc (Nat.le_refl _) (.cells (q.cells x).toArray 41)
  have B0 := Lib.hid hb0
  have R0 := Lib.hid (Row.new w 41 (q.cells x))
  have A0 := Lib.hid (ha.below hb0 hlt)
  have W0' := Lib.hid (hw.below hb0 hlt)
  have GO0 := Lib.hid (go15_start (x := x) (l := l) (ln := l.length) rfl hu.1)
  obtain ⟨g3, hg3⟩ : ∃ g, g = w.heap.size := ⟨_, rfl⟩
  have HG3 : Hid (w.heap.size = g3) := Lib.hid hg3.symm
  have HGH : Hid (g3 ≠ h) := Lib.hid (by omega)
  rw [← hg3] at R0
  clear hg3 hlt hw ha hr hB hpb hab hu hsm hb0
  generalize hW : w.alloc (.cells (q.cells x).toArray 41) = W at *
  have HW := Lib.hid hW
  clear hW
  go_enter Tryd.func33, Tryd.ntmps33
  go_upto_region 1 with fail
  try rw [HG3.out]
  rw [HW.out]
  clear HG3 HW
  go_wp2_with fail
  refine (programs15 W).mono ?_
  rintro e wp ⟨mb, rfl, hpm, _, hbp⟩
  have X0 : Hid (AX15 w wp h mb g3 q x va ⟨l, 0, 0⟩) := Lib.hid ⟨(But.of_below B0.out h).trans (.of_below hbp h), R0.out.below hbp R0.out.lt, hpm, A0.out.below hbp W0'.out.lt, by show Row wp h 96 (wkC q.RA q.rn q.rc va (x.u - 0) 0); rw [Int.sub_zero]; exact W0'.out.below hbp W0'.out.lt⟩
  clear hpm hbp R0 A0 W0' B0
  have c39 : wp.cell? ⟨g3, 39, none⟩ = some (.slice q.t.q.IA q.t.q.n q.t.q.ic) := (X0.out.r3.cell 39).trans (ycells_39 H32.out)
  obtain ⟨n, hnn⟩ : ∃ n, n = q.t.q.n := ⟨_, rfl⟩
  rw [← hnn] at c39
  have HQN := Lib.hid hnn
  clear hnn
  go_wp2_with fail
  clear c39
  go_loopw [15] (fun i wr => ∃ (k : Nat) (S : S15) (v : Value), k ≤ n ∧ i = .int .i64 k ∧ Go15 x l l.length k S ∧ AX15 w wr h mb g3 q x v S) (fun i _ => n - (intOf i).toNat)
  case atStart => exact ⟨0, _, va, Nat.zero_le _, rfl, GO0.out, X0.out⟩
  case round =>
    obtain ⟨k, S, v, hk, rfl, hgo, hax⟩ := hrel
    have GO := Lib.hid hgo
    have X := Lib.hid hax
    clear hgo hax X0 GO0
    rename World => wr
    have hn100 : n ≤ 65535 := by have := HSM.out.1; have := HQN.out; omega
    by_cases hlt : k < n
    · have hlt' : (k : Int) < n := by omega
      obtain ⟨ia, a, vaa, vdd, hia, hib, ha, hat⟩ := (HRD.out wr X.out.b).tx.m.ins.get (k := k) (by rw [← HQN.out]; exact hlt)
      obtain ⟨AA, ac, rfl, ha1, ha2, ha3⟩ := hat.acc.is
      obtain ⟨DD, dc, rfl, hd1, hd2, hd3⟩ := hat.dat.is
      have HCE := Lib.hid hat.cells
      have hmm := List.mem_of_getElem? ha
      have IA0 : Hid (InsAt14 wr B a.p AA a.acc.length ac DD a.dat.length dc a.acc a.dat) := Lib.hid ⟨ha1, hd1, (HAB.out a hmm).1, (HAB.out a hmm).2, ⟨ha2, ha3⟩, ⟨hd2, hd3⟩⟩
      have HA := Lib.hid ha
      have HMM := Lib.hid hmm
      have HIA : Hid (q.t.q.IA = some ia) := Lib.hid hia
      rw [hia]
      clear hib ha hat ha1 ha2 ha3 hd1 hd2 hd3 hmm
      go_upto_region 5 with (first
        | ((with_reducible show wpList _ _ _ ({ dst := some 19, op := Op.load _ _, type := _, pos := _, after := _, guard := _ } :: _) _ _); go_must (refine wpList_load_at rfl 70 (.tmp 18) rfl (ia.add (k * 3)) (insC a.p AA a.acc.length ac DD a.dat.length dc) _ Tryd.underlying70 rfl (by kernel_rfl) HCE.out ?_ ?_; go_simp))
        | ((with_reducible show wpList _ _ _ ({ dst := some 7, op := Op.alloc _, type := _, pos := _, after := _, guard := _ } :: _) _ _); go_must (refine wpList_alloc_zero rfl 70 rfl (insC 0 none 0 0 none 0 0) zero_ins15 ?_))
        | ((with_reducible show wpList _ _ _ ({ dst := none, op := Op.store 70 _ _, type := _, pos := _, after := _, guard := _ } :: _) _ _); go_must (refine wpList_store_new rfl 70 (.tmp 7) (.tmp 19) rfl (insC a.p AA a.acc.length ac DD a.dat.length dc) (by kernel_rfl) ins_one15 rfl ?_ ?_ ?_; go_simp; go_simp; intro w2 hr2 hb2 hz2)))
      have HI2 := Lib.hid hr2
      have X2 := Lib.hid (X.out.below hb2)
      have I2 := Lib.hid (IA0.out.below (hb2.mono (Nat.le_trans HB.out (Nat.le_of_lt X.out.rh.lt))))
      have HRO := Lib.hid (HRD.out w2 X2.out.b).rs
      clear hr2 hb2 hz2 IA0 HCE
      obtain ⟨g7, hg7⟩ : ∃ g, g = wr.heap.size := ⟨_, rfl⟩
      rw [← hg7] at HI2 ⊢
      clear hg7 X
      have c44 : w2.cell? ⟨g3, 44, none⟩ = some (.int .i64 x.bad) := (X2.out.r3.cell 44).trans (ycells_41 H32.out 3)
      have HSP : Hid (0 ≤ S.space ∧ S.space + 1048576 < 18446744073709551616) := Lib.hid (by have h1 := GO.out.s.1; have h2 := GO.out.s.2; omega)
      have C := fun (bad : Bool) (hbad : bad = decide ((k : Int) = x.bad)) => one15 h mb q.RA q.rn q.rc x k a S v AA a.acc.length ac DD a.dat.length dc B bad w2 X2.out.rh X2.out.av X2.out.pm HRO.out I2.out HB.out (by have := HSM.out.2 a HMM.out; omega) (by rw [GO.out.len]; exact hln) hrn HSP.out ⟨GO.out.u.1, GO.out.u.2, HU.out.2⟩ hbad (HPB.out a HMM.out)
      have HC := Lib.hid (C ((k : Int) == x.bad) (by rw [Bool.eq_iff_iff]; simp))
      clear C
      go_wp2_with (first
        | ((with_reducible show wpList _ _ _ ({ dst := some 22, op := Op.load _ _, type := _, pos := _, after := _, guard := _ } :: _) _ _); go_must (refine wpList_load_whole rfl 70 (.tmp 7) rfl g7 _ (insC a.p AA a.acc.length ac DD a.dat.length dc) _ Tryd.underlying70 rfl (by kernel_rfl) HI2.out ?_ ?_; go_simp))
        | fail)
      refine HC.out.mono ?_
      clear c44
      rintro e w9 ⟨hb9, ⟨hne, rfl, va9, sp9, hrw⟩ | ⟨hee, rfl, v9, hav, hrw⟩⟩
      · have HD := Lib.hid (X2.out.b.trans hb9)
        have HRW := Lib.hid hrw
        have HG9 := Lib.hid (GO.out.ends HA.out (Prod.ext rfl rfl : step15 x k a S = ((step15 x k a S).1, (step15 x k a S).2)) hne)
        have HNE := Lib.hid hne
        have HGS : Hid (w.heap.size ≤ w9.heap.size) := Lib.hid HD.out.size
        clear hb9 hrw hne HC X2 I2 HI2 HRO GO
        generalize (step15 x k a S).1 = E9 at *
        generalize (step15 x k a S).2 = S9 at *
        go_wp2_with ((with_reducible show wpList _ _ _ ({ dst := some 33, op := Op.build _ _, type := _, pos := _, after := _, guard := _ } :: _) _ _); go_must (refine wpList_plain rfl fun K hK => wp_built _ _ _ rfl (by simp only [List.map_toArray, List.map_cons, List.map_nil]; exact built_fail15 _ _ _) (hK _ _ ?_)))
        go_ret
        rw [HG9.out]
        exact ⟨HD.out.alloc _, .inl ⟨HNE.out, w9.heap.size, rfl, Row.new w9 105 [.int .i64 k, .iface 50 (.int .i64 E9)], HGS.out, va9, sp9, HRW.out.alloc _⟩⟩
      · have HD := Lib.hid (X2.out.b.trans hb9)
        have GO1 := Lib.hid (step_ok15 GO.out HA.out hee X2.out.av.ok (HAB.out a HMM.out))
        have X9 : Hid (AX15 w w9 h mb g3 q x v9 (step15 x k a S).2) := Lib.hid ⟨HD.out, hb9.row X2.out.r3 (HGH.out), X2.out.pm.keep (hb9.block mb X2.out.pm.lt fun e => X2.out.pm.row_ne X2.out.rh e.symm), hav, hrw⟩
        clear hb9 hrw hee hav HC X2 I2 HI2 HRO GO
        go_wp2_with fail
        go_roundw
        case rel => exact ⟨k + 1, _, v9, by omega, by go_num, GO1.out, X9.out⟩
        case measure => simp [intOf]; omega
    · obtain rfl : k = n := by omega
      have HT := Lib.hid (GO.out.through (by rw [HNN.out, ← HQN.out]; exact Nat.le_refl _))
      go_wp2_with fail
      go_ret
      rw [HT.out]
      exact ⟨X.out.b, .inr ⟨rfl, rfl, v, X.out.av, X.out.rh⟩⟩
end Go.Proofs.YtfaefpniiiandaaDoor
