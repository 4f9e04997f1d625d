/-
  Parts joined: AccMap13 Store13 Coins14 RunMath15 RefRun15 Move15 Prog15.
-/
import Derived.Below
import Derived.Laws.OwnMore
import Derived.Deep.AppendLies
import Derived.Deep.Draws
import Derived.Lib.Hide
import Derived.Laws.MakeOwn
import Derived.Laws.CopyOwn
import Derived.Laws.Rows
import Derived.Laws.BitsAllLaws
import Derived.WalkKit
import Derived.Test.YtfaefpniiiandaaDoorRows
import Derived.WalkSpells
import Derived.WalkLawsBesides
import Derived.IntWalk
import Derived.Deep.MidRow
import Derived.Deep.WholeRow
import Derived.Maps.AppendAt
import Derived.OwnWalk
import Derived.Great.BuildSlice
import Derived.Recover
import Derived.Deep.RegionHeld
import Derived.Deep.QuietTactic
import Derived.BigQuiet
import Derived.ChangeKeysEq
import Derived.Deep.RegionHeld2
import Derived.Deep.CutBlock
import Derived.Laws.Tables
import Derived.ProofKit
import Derived.OpenShut
import Derived.ShutString
import Derived.ChangeOld
import Derived.Lib.SmallJoins
import Derived.Deep.Slices
import Derived.Deep.Strs
import Derived.SizedLaws
import Derived.Laws.StructEq
import Derived.Laws.Slices
import Derived.Deep.DeepCutAuto
import Derived.Maps.OwnSet
import Derived.DeepKeys4
import Derived.WideKeyArr
import Derived.Laws.EntriesVeiled
import Derived.Deep.RegionHeld3
import Derived.WideKeyEntry
import Derived.WalkMore
import Derived.Shelf.SlMaps.Clone
import Derived.Laws.Append
import Derived.Laws.AppendOwn
import Derived.LaidMore
import Derived.Maps.OwnOps
import Derived.Maps.RangeWalk
import Derived.Laws.BytesArg
import Derived.Laws.Strings
import Derived.Lib.Strings
import Derived.Great.Walk
import Derived.Laws.Bits64b
import Derived.Laws.Externs
import Derived.Test.YtfaefpniiiandaaDoorB1
import Derived.Test.YtfaefpniiiandaaDoorB2
import Derived.Test.YtfaefpniiiandaaDoorB3
import Derived.Test.YtfaefpniiiandaaDoorB4
import Derived.Test.YtfaefpniiiandaaDoorB5
import Derived.Test.YtfaefpniiiandaaDoorB6
import Derived.Test.YtfaefpniiiandaaDoorB7
/-
  Of part AccMap13: what is needed here.
-/
namespace Go.Proofs.YtfaefpniiiandaaDoor
open Go.RowKit Go.Maps
set_option linter.unusedVariables false
set_option maxRecDepth 100000
/-- an account as a datum -/
def accD (a : LAcc) : DataW Unit := .agg (.lit (.int .u64 a.c) :: .lit (.int .u64 a.s) :: a.o.map fun z => .lit (.int .u8 z))
theorem accD_inj {a b : LAcc} (h : accD a = accD b) : a = b := by
  unfold accD at h
  injection h with h
  injection h with h1 h
  injection h with h2 h3
  injection h1 with h1
  injection h1 with _ h1
  injection h2 with h2
  injection h2 with _ h2
  have h4 : a.o = b.o := (List.map_inj_right (fun x y hxy => by injection hxy with hxy; injection hxy)).1 h3
  exact acc_ext.2 ⟨h1, h4, h2⟩
theorem acc_cells_inj {a b : LAcc} (ha : AccOk a) (hb : AccOk b) (h : a.cells = b.cells) : a = b := by
  unfold LAcc.cells at h
  injection h with h1 h
  injection h1 with _ h1
  have h2 := List.append_inj h (by rw [bv_length, bv_length, ha.o.1, hb.o.1])
  have h3 : a.o = b.o := by
    have := h2.1
    unfold bv cv at this
    exact (List.map_inj_right (fun x y hxy => by injection hxy)).1 this
  have h4 := h2.2
  injection h4 with h4
  injection h4 with _ h4
  exact acc_ext.2 ⟨h1, h3, h4⟩
open Classical in
/-- how an account in a map reads -/
noncomputable def accE (v : Value) : Option (DataW Unit × List MemPlace) := if h : ∃ a : LAcc, v = .agg a.cells.toArray ∧ AccOk a then some (accD h.choose, []) else none
theorem accE_mk {a : LAcc} (ha : AccOk a) : accE (.agg a.cells.toArray) = some (accD a, []) := by
  have h : ∃ b : LAcc, Value.agg a.cells.toArray = .agg b.cells.toArray ∧ AccOk b := ⟨a, rfl, ha⟩
  unfold accE
  rw [dif_pos h]
  have h1 := h.choose_spec
  have h2 : a = h.choose := acc_cells_inj ha h1.2 (by simpa using h1.1)
  rw [← h2]
theorem accE_inv {v : Value} {z : DataW Unit × List MemPlace} (h : accE v = some z) : ∃ a : LAcc, v = .agg a.cells.toArray ∧ AccOk a ∧ z = (accD a, []) := by
  unfold accE at h
  split at h
  · rename_i hx
    exact ⟨hx.choose, hx.choose_spec.1, hx.choose_spec.2, (Option.some.inj h).symm⟩
  · cases h
theorem zero_acc_run (w : World) : (zeroValue 59).run Tryd.prog w = .ok (.agg blank13.cells.toArray) w := by kernel_rfl
/-- what a map of accounts reads as: its keys, and what each one has -/
structure AD (D : DataW Unit) (ks : List (List Int)) (f : List Int → LAcc) : Prop where
  tidy : Tidy D
  has : ∀ kl, Go.Maps.has D kl = true ↔ ∃ k ∈ ks, kl = KL k
  at_ : ∀ k ∈ ks, ∀ z, D.atKey (KL k) z = accD (f k)
  nodup : ks.Nodup
  ok : ∀ k ∈ ks, (k.length = 32 ∧ AllBytes k) ∧ AccOk (f k)
  size : Go.Maps.size D = ks.length
theorem ad_nil (f : List Int → LAcc) : AD (.map []) [] f := ⟨tidy_empty, fun kl => by simp [has_eq], by simp, List.nodup_nil, by simp, rfl⟩
theorem AD.has_key {D : DataW Unit} {ks : List (List Int)} {f : List Int → LAcc} (h : AD D ks f) {k : List Int} (hk : k.length = 32 ∧ AllBytes k) : Go.Maps.has D (KL k) = decide (k ∈ ks) := by
  rw [Bool.eq_iff_iff, decide_eq_true_iff, h.has]
  constructor
  · rintro ⟨x, hx, e⟩
    rwa [KL_inj hk.1 hk.2 (h.ok x hx).1.1 (h.ok x hx).1.2 e]
  · intro hk'
    exact ⟨k, hk', rfl⟩
/-- the account of a key, or blank -/
theorem AD.at_key {D : DataW Unit} {ks : List (List Int)} {f : List Int → LAcc} (h : AD D ks f) {k : List Int} (hk : k.length = 32 ∧ AllBytes k) (z : DataW Unit) : D.atKey (KL k) z = if k ∈ ks then accD (f k) else z := by
  by_cases e : k ∈ ks
  · rw [if_pos e, h.at_ k e]
  · rw [if_neg e]
    exact atKey_of_not_has (by rw [h.has_key hk, decide_eq_false e]) z
def addK (ks : List (List Int)) (k : List Int) : List (List Int) := if k ∈ ks then ks else ks ++ [k]
def updF (f : List Int → LAcc) (k : List Int) (a : LAcc) : List Int → LAcc := fun x => if x = k then a else f x
theorem mem_addK {ks : List (List Int)} {k x : List Int} : x ∈ addK ks k ↔ x ∈ ks ∨ x = k := by
  unfold addK
  split
  · rename_i h
    exact ⟨.inl, fun hx => hx.elim id (fun e => e ▸ h)⟩
  · simp
theorem AD.put {D : DataW Unit} {ks : List (List Int)} {f : List Int → LAcc} (h : AD D ks f) {k : List Int} (hk : k.length = 32 ∧ AllBytes k) {a : LAcc} (ha : AccOk a) : AD (D.put (KL k) (accD a)) (addK ks k) (updF f k a) := by
  have hkl := KL_key hk.1 hk.2
  refine ⟨h.tidy.put hkl _, fun kl => ?_, fun x hx z => ?_, ?_, fun x hx => ?_, ?_⟩
  · by_cases e : kl = KL k
    · subst e
      rw [has_put_same h.tidy.isMap hkl]
      exact ⟨fun _ => ⟨k, mem_addK.2 (.inr rfl), rfl⟩, fun _ => rfl⟩
    · rw [has_put_other e, h.has]
      constructor
      · rintro ⟨x, hx, rfl⟩
        exact ⟨x, mem_addK.2 (.inl hx), rfl⟩
      · rintro ⟨x, hx, rfl⟩
        rcases mem_addK.1 hx with hx | rfl
        · exact ⟨x, hx, rfl⟩
        · exact absurd rfl e
  · unfold updF
    by_cases e : x = k
    · subst e
      rw [if_pos rfl, atKey_put_same h.tidy.isMap hkl]
    · have hx' : x ∈ ks := (mem_addK.1 hx).resolve_right e
      rw [if_neg e, atKey_put_other (fun e' => e (KL_inj (h.ok x hx').1.1 (h.ok x hx').1.2 hk.1 hk.2 e')), h.at_ x hx']
  · unfold addK
    split
    · exact h.nodup
    · rename_i hn
      exact List.nodup_append.2 ⟨h.nodup, by simp, fun x hx y hy e => hn (by rw [List.mem_singleton] at hy; rw [← hy, ← e]; exact hx)⟩
  · unfold updF
    by_cases e : x = k
    · subst e
      rw [if_pos rfl]
      exact ⟨hk, ha⟩
    · rw [if_neg e]
      exact h.ok x ((mem_addK.1 hx).resolve_right e)
  · rw [size_put h.tidy, h.has_key hk, h.size]
    unfold addK
    by_cases e : k ∈ ks
    · rw [decide_eq_true e, if_pos rfl, if_pos e]
    · rw [decide_eq_false e, if_neg e]
      simp
theorem AD.del {D : DataW Unit} {ks : List (List Int)} {f : List Int → LAcc} (h : AD D ks f) {k : List Int} (hk : k.length = 32 ∧ AllBytes k) : AD (D.del (KL k)) (ks.filter fun x => x ≠ k) f := by
  have hm : ∀ x, x ∈ (ks.filter fun x => x ≠ k) ↔ x ∈ ks ∧ x ≠ k := fun x => by simp [List.mem_filter]
  refine ⟨h.tidy.del _, fun kl => ?_, fun x hx z => ?_, h.nodup.filter _, fun x hx => h.ok x ((hm x).1 hx).1, ?_⟩
  · by_cases e : kl = KL k
    · subst e
      rw [has_del_same]
      refine ⟨fun h => (by cases h), ?_⟩
      rintro ⟨x, hx, e⟩
      have hx' := (hm x).1 hx
      exact absurd (KL_inj hk.1 hk.2 (h.ok x hx'.1).1.1 (h.ok x hx'.1).1.2 e).symm hx'.2
    · rw [has_del_other e, h.has]
      constructor
      · rintro ⟨x, hx, rfl⟩
        exact ⟨x, (hm x).2 ⟨hx, fun e' => e (by rw [e'])⟩, rfl⟩
      · rintro ⟨x, hx, rfl⟩
        exact ⟨x, ((hm x).1 hx).1, rfl⟩
  · have hx' := (hm x).1 hx
    rw [atKey_del_other (fun e' => hx'.2 (KL_inj (h.ok x hx'.1).1.1 (h.ok x hx'.1).1.2 hk.1 hk.2 e')), h.at_ x hx'.1]
  · have h1 := size_del (k := KL k) h.tidy
    rw [h.has_key hk, h.size] at h1
    have h2 : ∀ (l : List (List Int)), l.Nodup → (l.filter fun x => x ≠ k).length + (if decide (k ∈ l) = true then 1 else 0) = l.length := fun l => by
      induction l with
      | nil => intro _; rfl
      | cons y r ih =>
        intro hd
        have hd' := List.nodup_cons.1 hd
        have := ih hd'.2
        by_cases e : y = k
        · subst e
          simp only [hd'.1, decide_false, if_neg Bool.false_ne_true] at this
          simp at this ⊢
          exact this
        · have e' : k ≠ y := fun h => e h.symm
          simp [e, e'] at this ⊢
          omega
    have := h2 ks h.nodup
    omega
section
variable {w : World} {ops : Array Oper} {rest : List Oper} {o : Oper} {a : Act} {Q : Exit → Act → World → Prop}
/-- 'm[k]' -/
theorem acc_lookup {b n : Nat} {D : DataW Unit} {ks : List (List Int)} {f : List Int → LAcc} (hown : w.ownsMap Tryd.prog 57 accE b n D) (h : AD D ks f) {k : List Int} (hk : k.length = 32 ∧ AllBytes k) :
    (Instr.lookup 107 (.map (some b)) (.agg (bv k).toArray) false).run Tryd.prog w = .ok (.agg (if k ∈ ks then f k else blank13).cells.toArray) w := by
  obtain ⟨v, ps, hrun, hv⟩ := hown.lookup key_law Tryd.underlying107 (zero_acc_run w) (accE_mk blank_ok) (KL_is hk.1 hk.2)
  rw [h.at_key hk] at hv
  obtain ⟨x, rfl, hx, e⟩ := accE_inv hv
  rw [hrun]
  have : x = if k ∈ ks then f k else blank13 := by
    injection e with e _
    by_cases hm : k ∈ ks
    · rw [if_pos hm] at e ⊢
      exact (accD_inj e).symm
    · rw [if_neg hm] at e ⊢
      exact (accD_inj e).symm
  rw [this]
end
end Go.Proofs.YtfaefpniiiandaaDoor

/-
  Of part Store13: what is needed here.
-/
namespace Go.Proofs.YtfaefpniiiandaaDoor
open Go.RowKit Go.Maps
set_option linter.unusedVariables false
set_option maxRecDepth 100000
/-- the keys of accounts -/
def ks13 (L : List LHold) : List (List Int) := L.map LHold.k
theorem mem_ks13 {L : List LHold} {k : List Int} : k ∈ ks13 L ↔ ∃ x ∈ L, x.k = k := by simp [ks13]
theorem ks13_len (L : List LHold) : (ks13 L).length = L.length := List.length_map _
theorem ks13_nodup : ∀ {L : List LHold}, (L.Pairwise fun x y => kless x.k y.k = true) → (ks13 L).Nodup
  | [], _ => List.nodup_nil
  | x :: r, h => by
    obtain ⟨h1, h2⟩ := List.pairwise_cons.1 h
    refine List.nodup_cons.2 ⟨fun hm => ?_, ks13_nodup h2⟩
    obtain ⟨y, hy, e⟩ := mem_ks13.1 hm
    exact kless_ne (h1 y hy) e.symm
theorem getH_in {L : List LHold} {k : List Int} : (k ∈ ks13 L → ⟨k, getH L k⟩ ∈ L) ∧ (k ∉ ks13 L → getH L k = blank13) := by
  rcases getH_cases L k with ⟨h1, h2⟩ | h1
  · exact ⟨fun hm => by obtain ⟨x, hx, e⟩ := mem_ks13.1 hm; exact absurd e (h1 x hx), fun _ => h2⟩
  · exact ⟨fun _ => h1, fun hm => absurd (mem_ks13.2 ⟨_, h1, rfl⟩) hm⟩
theorem AD.swap {D : DataW Unit} {ks ks' : List (List Int)} {f f' : List Int → LAcc} (h : AD D ks f) (hd : ks'.Nodup) (hm : ∀ x, x ∈ ks' ↔ x ∈ ks) (hf : ∀ x ∈ ks, f' x = f x) : AD D ks' f' := by
  refine ⟨h.tidy, fun kl => ?_, fun k hk z => ?_, hd, fun k hk => ?_, ?_⟩
  · rw [h.has]
    constructor
    · rintro ⟨x, hx, rfl⟩; exact ⟨x, (hm x).2 hx, rfl⟩
    · rintro ⟨x, hx, rfl⟩; exact ⟨x, (hm x).1 hx, rfl⟩
  · rw [hf k ((hm k).1 hk)]
    exact h.at_ k ((hm k).1 hk) z
  · rw [hf k ((hm k).1 hk)]
    exact h.ok k ((hm k).1 hk)
  · rw [h.size]
    exact ((List.perm_ext_iff_of_nodup h.nodup hd).2 fun x => (hm x).symm).length_eq
theorem owns_tight {H : Type} {P : Program} {k : TypeId} {R : Value → Option (DataW H × List MemPlace)} {w : World} {b n : Nat} {D : DataW H} (h : w.ownsMap P k R b n D) : w.ownsMap P k R b (Go.Maps.size D) D := by
  obtain ⟨es, clock, hb, F, hs, rfl⟩ := h
  exact ⟨es, clock, hb, F, by simp [Go.Maps.size, length_sorted], rfl⟩
/-- a store in a block of its own, with its map -/
structure StIn (w : World) (sb mb : Nat) (L : List LHold) : Prop where
  row : Row w sb 109 [.map (some mb)]
  map : ∃ D, w.ownsMap Tryd.prog 57 accE mb L.length D ∧ AD D (ks13 L) (getH L)
  sto : Sto L
theorem StIn.keep {w w' : World} {sb mb : Nat} {L : List LHold} (h : StIn w sb mb L) (h1 : w'.heap[sb]? = w.heap[sb]?) (h2 : w'.heap[mb]? = w.heap[mb]?) : StIn w' sb mb L := by
  obtain ⟨D, ⟨es, cl, hm, F, hs, hD⟩, had⟩ := h.map
  exact ⟨⟨h1.trans h.row.is⟩, ⟨D, ⟨es, cl, h2.trans hm, F, hs, hD⟩, had⟩, h.sto⟩
theorem StIn.heap {w : World} {sb mb : Nat} {L : List LHold} (h : StIn w sb mb L) : ∃ es cl, w.heap[mb]? = some (.map es cl) := by
  obtain ⟨D, ⟨es, cl, hm, _⟩, _⟩ := h.map
  exact ⟨es, cl, hm⟩
theorem StIn.lt {w : World} {sb mb : Nat} {L : List LHold} (h : StIn w sb mb L) : sb < w.heap.size ∧ mb < w.heap.size := by
  obtain ⟨es, cl, hm⟩ := h.heap
  exact ⟨h.row.lt, (Array.getElem?_eq_some_iff.1 hm).1⟩
theorem StIn.below {w w' : World} {sb mb : Nat} {L : List LHold} (h : StIn w sb mb L) (hb : Below w.heap.size w w') : StIn w' sb mb L := h.keep (hb.block _ h.lt.1) (hb.block _ h.lt.2)
theorem StIn.row_ne {w : World} {sb mb g t : Nat} {L : List LHold} {xs : List Value} (h : StIn w sb mb L) (hr : Row w g t xs) : g ≠ mb := by
  rintro rfl
  obtain ⟨es, cl, hm⟩ := h.heap
  rw [hr.is] at hm
  cases hm
theorem StIn.ne {w : World} {sb mb : Nat} {L : List LHold} (h : StIn w sb mb L) : sb ≠ mb := h.row_ne h.row
theorem neq_map13 (w : World) (r : Option Nat) : (binOp .neq 107 (.map r) (.map none)).run Tryd.prog w = .ok (.bool (!r.isNone)) w := run_neq_map_nil w _ _ _ r Tryd.underlying107
set_option maxHeartbeats 400000 in
theorem there13 (sb mb : Nat) (L : List LHold) (w : World) (h : StIn w sb mb L) : Calls Tryd.prog 36 #[.pointer (some ⟨sb, 0, none⟩)] w fun e w' => e = .returned (.bool true) ∧ w = w' := by
  have hm := neq_map13
  have c0 : w.cell? ⟨sb, 0, none⟩ = some (.map (some mb)) := h.row.cell 0
  clear h
  go_enter Tryd.func36, Tryd.ntmps36
  go_wp2_with fail
  go_ret
  exact ⟨rfl, rfl⟩
theorem st_new {W : World} {sb mb n : Nat} {D : DataW Unit} {L : List LHold} (hr : Row W sb 109 [.map (some mb)]) (ho : W.ownsMap Tryd.prog 57 accE mb n D) (ha : AD D (ks13 L) (getH L)) (hs : Sto L) : StIn W sb mb L := by
  have h1 := owns_tight ho
  rw [ha.size, ks13_len] at h1
  exact ⟨hr, ⟨D, h1, ha⟩, hs⟩
set_option maxHeartbeats 400000 in
theorem new13 (w : World) : Calls Tryd.prog 27 #[] w fun e w' => ∃ sb mb, e = .returned (.pointer (some ⟨sb, 0, none⟩)) ∧ StIn w' sb mb [] ∧ w.heap.size ≤ sb ∧ w.heap.size ≤ mb ∧ Below w.heap.size w w' := by
  have hmm := @run_makeMap Tryd.prog
  have HR : Hid (StIn ((w.alloc (.map #[] 0)).alloc (.cells #[.map (some w.heap.size)] 109)) (w.heap.size + 1) w.heap.size []) := Lib.hid
    (st_new (Row.new' _ 109 [.map (some w.heap.size)] (by simp)) ((World.ownsMap_made w Tryd.prog 57 accE).kept (World.grownBy_alloc _ _ none) (by simp)) (ad_nil _) sto_nil)
  have HB := Lib.hid (((Below.refl w.heap.size w).alloc (Nat.le_refl _) (.map #[] 0)).alloc (by simp) (.cells #[.map (some w.heap.size)] 109))
  go_enter Tryd.func27, Tryd.ntmps27
  go_wp2_with fail
  go_ret
  exact ⟨_, _, rfl, HR.out, Nat.le_succ _, Nat.le_refl _, HB.out⟩
/-- 'm[k]', of a store -/
theorem StIn.look {w : World} {sb mb : Nat} {L : List LHold} (h : StIn w sb mb L) {k : List Int} (hk : k.length = 32 ∧ AllBytes k) : (Instr.lookup 107 (.map (some mb)) (.agg (bv k).toArray) false).run Tryd.prog w = .ok (.agg (getH L k).cells.toArray) w := by
  obtain ⟨D, ho, ha⟩ := h.map
  rw [acc_lookup ho ha hk]
  split
  · rfl
  · rename_i hn
    rw [getH_in.2 hn]
theorem exec_lookup13 {a : Act} {o : Oper} (w : World) (m x : Operand) (hop : o.op = Op.lookup 107 m x false) (b : Nat) (k : List Int) (v : Value) (hm : a.eval m = .map (some b)) (hx : a.eval x = .agg (bv k).toArray)
    (hr : (Instr.lookup 107 (.map (some b)) (.agg (bv k).toArray) false).run Tryd.prog w = .ok v w) : (execOp a.eval o).run Tryd.prog w = .ok (.value v) w := by
  unfold execOp
  simp only [hop, hm, hx, Sem.run_bind, Sem.run_pure, hr, Result.andThen_ok]
set_option maxHeartbeats 4000000 in
theorem get13 (sb mb : Nat) (L : List LHold) (k : List Int) (w : World) (h : StIn w sb mb L) (hk : k.length = 32 ∧ AllBytes k) : Calls Tryd.prog 14 #[.pointer (some ⟨sb, 0, none⟩), .agg (bv k).toArray] w fun e w' => e = .returned (.agg (getH L k).cells.toArray) ∧ Below w.heap.size w w' := by
  have hbw := ((Below.refl w.heap.size w).alloc (Nat.le_refl _) (.cells (bv k).toArray 57)).alloc (by simp) (.cells blank13.cells.toArray 59)
  have S0 := Lib.hid (h.below hbw)
  have RX0 := Lib.hid ((Row.new w 57 (bv k)).alloc (.cells blank13.cells.toArray 59))
  have RF0 := Lib.hid (Row.new' (w.alloc (.cells (bv k).toArray 57)) 59 blank13.cells (g := w.heap.size + 1) (by simp))
  have HSZ : Hid ((Tryd.prog.info? 57).map (·.size) = some (bv k).length) := Lib.hid (by rw [size_key, bv_length, hk.1])
  have HGA := Lib.hid (h.sto.get_ok k)
  have HSA := Lib.hid (size_acc HGA.out.o.1)
  have HLA : Hid (blank13.cells.length = (getH L k).cells.length) := Lib.hid (by rw [acc_len HGA.out.o.1]; rfl)
  have HBW := Lib.hid hbw
  have HK := Lib.hid hk
  have H0 := Lib.hid h
  have HGF : Hid (w.heap.size ≠ w.heap.size + 1) := Lib.hid (by omega)
  obtain ⟨f, hf⟩ : ∃ f, f = w.heap.size + 1 := ⟨_, rfl⟩
  obtain ⟨g, hg⟩ : ∃ g, g = w.heap.size := ⟨_, rfl⟩
  have HF : Hid (w.heap.size + 1 = f) := Lib.hid hf.symm
  have HG : Hid (w.heap.size = g) := Lib.hid hg.symm
  have HFG : Hid (w.heap.size ≤ f) := Lib.hid (by omega)
  rw [← hf] at RF0 HGF
  rw [← hg] at RX0 HGF
  generalize hWW : (w.alloc (.cells (bv k).toArray 57)).alloc (.cells blank13.cells.toArray 59) = W at *
  have HWW := Lib.hid hWW
  clear hWW hf hg hbw h hk
  have HT := Lib.hid (there13 sb mb L W S0.out)
  generalize hGL : getH L k = y at *
  have HGL := Lib.hid hGL
  clear hGL
  go_enter Tryd.func14, Tryd.ntmps14
  go_wp2_with ((with_reducible show wpList _ _ _ ({ dst := some 4, op := Op.alloc _, type := _, pos := _, after := _, guard := _ } :: _) _ _); go_must (refine wpList_alloc_zero rfl 59 rfl blank13.cells zero_acc ?_))
  rw [HF.out, HG.out, HWW.out]
  clear HF HG HWW
  refine HT.out.mono ?_
  rintro e w' ⟨rfl, rfl⟩
  clear HT
  go_wp2_with fail
  have HB0 := Lib.hid (show Below w.heap.size w W.drew from HBW.out.drew)
  have RX1 := Lib.hid RX0.out.drew
  refine wp_region_held_drew (S := (fun V => Below w.heap.size w V ∧ Row V g 57 (bv k))) (by kernel_rfl) ⟨HB0.out, RX1.out⟩ (fun _ => ?_)
  refine takeL (i := 0) (v := ?_) rfl (by kernel_rfl) (by kernel_rfl) (by kernel_rfl) (fun _ _ _ h => h) (Or.inl ⟨by rfl, ?_⟩) ⟨HB0.out, RX1.out⟩ ?_
  rotate_left
  · intro w hw
    try dsimp only at hw
    go_simp
    try with_reducible rfl
  try simp only [Act.put, List.setIfInBounds_toArray, List.set_cons_zero, List.set_cons_succ]
  refine takeL (i := 1) (v := ?_) rfl (by kernel_rfl) (by kernel_rfl) (by kernel_rfl) (fun _ _ _ h => h) (Or.inl ⟨by rfl, ?_⟩) ⟨HB0.out, RX1.out⟩ ?_
  rotate_left
  · intro w hw
    try dsimp only at hw
    go_simp
    try with_reducible rfl
  try simp only [Act.put, List.setIfInBounds_toArray, List.set_cons_zero, List.set_cons_succ]
  refine takeL (i := 2) (v := ?_) rfl (by kernel_rfl) (by kernel_rfl) (by kernel_rfl) (fun _ _ _ h => h) (Or.inl ⟨by rfl, ?_⟩) ⟨HB0.out, RX1.out⟩ ?_
  rotate_left
  · intro w hw
    try dsimp only at hw
    go_simp
    try with_reducible rfl
  try simp only [Act.put, List.setIfInBounds_toArray, List.set_cons_zero, List.set_cons_succ]
  refine takeL (i := 3) (v := ?_) rfl (by kernel_rfl) (by kernel_rfl) (by kernel_rfl) (fun _ _ _ h => h) (Or.inl ⟨by rfl, ?_⟩) ⟨HB0.out, RX1.out⟩ ?_
  rotate_left
  · intro w hw
    try dsimp only at hw
    have hc := (H0.out.below hw.1).row.cell 0
    go_simp
    try with_reducible rfl
  try simp only [Act.put, List.setIfInBounds_toArray, List.set_cons_zero, List.set_cons_succ]
  refine takeL (i := 4) (v := .agg (bv k).toArray) rfl (by kernel_rfl) (by kernel_rfl) (by kernel_rfl) (fun _ _ _ h => h) (Or.inl ⟨by rfl, fun wz hwz => exec_load_at wz 57 (.tmp 3) rfl ⟨g, 0, none⟩ (bv k) _ Tryd.underlying57 rfl HSZ.out (fun j u hu => by rw [addr_row, Nat.zero_add]; exact (hwz.2.cell j).trans hu) (by go_simp)⟩) ⟨HB0.out, RX1.out⟩ ?_
  try simp only [Act.put, List.setIfInBounds_toArray, List.set_cons_zero, List.set_cons_succ]
  refine takeL (i := 5) (v := .agg y.cells.toArray) rfl (by kernel_rfl) (by kernel_rfl) (by kernel_rfl) (fun _ _ _ h => h) (Or.inl ⟨by rfl, fun wz hwz => exec_lookup13 wz (.tmp 12) (.tmp 13) rfl mb k _ (by go_simp) (by go_simp) (by rw [(H0.out.below hwz.1).look HK.out, HGL.out])⟩) ⟨HB0.out, RX1.out⟩ ?_
  try simp only [Act.put, List.setIfInBounds_toArray, List.set_cons_zero, List.set_cons_succ]
  refine readyL (i := 6) rfl (by kernel_rfl) (by kernel_rfl) fun K hK => ?_
  refine wp_store_whole 59 (.tmp 4) (.tmp 14) rfl f blank13.cells y.cells RF0.out.drew HSA.out HLA.out (acc_one _) ?_ ?_ ?_
  · go_simp
  · go_simp
  intro w5 hr ht
  have R5 := Lib.hid hr
  have B5 := Lib.hid (show Below w.heap.size w w5 from HB0.out.trans (ht.below HFG.out))
  have X5 := Lib.hid (show Row w5 g 57 (bv k) from ht.row RX1.out HGF.out)
  clear hr ht
  refine hK.out _ _ ⟨B5.out, X5.out⟩ ?_
  clear hK K
  try simp only [Act.put]
  refine wpAnyH_done (by kernel_rfl) ?_ _
  go_wp2_with fail
  refine bodyPost_ret (results_cell_row (h := rfl) _ w5 f 59 _ (0, 0) _ (by rfl) R5.out.is Tryd.underlying59 rfl HSA.out) rfl ?_
  exact ⟨rfl, B5.out⟩
theorem gb_grown13 {w V V' : World} {b : Nat} (hg : w.grownBy V (some b)) (h : V.grownBy V' (some b)) : w.grownBy V' (some b) :=
  ⟨h.os.trans hg.os, h.tape.trans hg.tape, h.output.trans hg.output, Nat.le_trans hg.size h.size, fun k hk hr => (h.block k (Nat.lt_of_lt_of_le hk hg.size) hr).trans (hg.block k hk hr)⟩
theorem wp_mapUpdate_acc {o : Oper} {a : Act} {w : World} {K : Act → World → Prop} {Q : Exit → Act → World → Prop} (m x v : Operand) (hop : o.op = Op.mapUpdate 107 m x v) (b n : Nat) (D : DataW Unit)
    (hm : a.eval m = .map (some b)) (hown : w.ownsMap Tryd.prog 57 accE b n D) (hn : n < maxLen) {k : List Int} (hk : k.length = 32 ∧ AllBytes k) {y : LAcc} (hy : AccOk y) (hx : a.eval x = .agg (bv k).toArray) (hv : a.eval v = .agg y.cells.toArray)
    (h : ∀ w', w'.ownsMap Tryd.prog 57 accE b (n + 1) (D.put (KL k) (accD y)) → w.grownBy w' (some b) → K (a.put o.dst undef) w') : o.wp Tryd.prog a w K Q := by
  obtain ⟨w', hrun, r1, r2⟩ := hown.update key_law Tryd.underlying107 hn (KL_is hk.1 hk.2) (accE_mk hy)
  unfold Oper.wp
  simp [execOp, hop, hm, hx, hv, hrun, Result.andThen]
  exact h _ r1 r2
theorem wp_delete_acc {o : Oper} {a : Act} {w : World} {K : Act → World → Prop} {Q : Exit → Act → World → Prop} (m x : Operand) (hop : o.op = Op.call { callee := Callee.builtin Builtin.delete, args := #[m, x], argTypes := #[107, 57] }) (b n : Nat) (D : DataW Unit)
    (hm : a.eval m = .map (some b)) (hown : w.ownsMap Tryd.prog 57 accE b n D) {k : List Int} (hk : k.length = 32 ∧ AllBytes k) (hx : a.eval x = .agg (bv k).toArray)
    (h : ∀ w', w'.ownsMap Tryd.prog 57 accE b n (D.del (KL k)) → w.grownBy w' (some b) → K (a.put o.dst (.tuple #[])) w') : o.wp Tryd.prog a w K Q := by
  obtain ⟨w', hrun, r1, r2⟩ := hown.drop key_law Tryd.underlying107 (KL_is hk.1 hk.2) o.type
  unfold Oper.wp
  simp [execOp, hop, resolve, invoke, builtin, hm, hx, hrun, Result.andThen]
  exact h _ r1 r2.grown
theorem ks13_put (L : List LHold) (k : List Int) (a : LAcc) (x : List Int) : x ∈ ks13 (putH L k a) ↔ (x ∈ ks13 L ∧ x ≠ k) ∨ (a ≠ blank13 ∧ x = k) := by
  rw [mem_ks13, mem_ks13]
  constructor
  · rintro ⟨y, hy, rfl⟩
    rcases putH_mem.1 hy with ⟨h1, h2⟩ | ⟨h1, rfl⟩
    · exact .inl ⟨⟨y, h1, rfl⟩, h2⟩
    · exact .inr ⟨h1, rfl⟩
  · rintro (⟨⟨y, hy, rfl⟩, h2⟩ | ⟨h1, rfl⟩)
    · exact ⟨y, putH_mem.2 (.inl ⟨hy, h2⟩), rfl⟩
    · exact ⟨_, putH_mem.2 (.inr ⟨h1, rfl⟩), rfl⟩
theorem ad_put13 {D : DataW Unit} {L : List LHold} {k : List Int} {a : LAcc} (h : AD D (ks13 L) (getH L)) (hs : Sto L) (hk : k.length = 32 ∧ AllBytes k) (ha : AccOk a) (hb : a ≠ blank13) : AD (D.put (KL k) (accD a)) (ks13 (putH L k a)) (getH (putH L k a)) := by
  refine (h.put hk ha).swap (ks13_nodup (hs.put hk ha).rise) (fun x => ?_) (fun x _ => ?_)
  · rw [ks13_put, mem_addK]
    by_cases e : x = k
    · simp [e, hb]
    · simp [e]
  · rw [getH_put hs hk ha]
    rfl
theorem ad_del13 {D : DataW Unit} {L : List LHold} {k : List Int} (h : AD D (ks13 L) (getH L)) (hs : Sto L) (hk : k.length = 32 ∧ AllBytes k) : AD (D.del (KL k)) (ks13 (putH L k blank13)) (getH (putH L k blank13)) := by
  refine (h.del hk).swap (ks13_nodup (hs.put hk blank_ok).rise) (fun x => ?_) (fun x hx => ?_)
  · rw [ks13_put]
    simp
  · have hx' : x ≠ k := by simpa using (List.mem_filter.1 hx).2
    rw [getH_put hs hk blank_ok, if_neg hx']
set_option maxHeartbeats 4000000 in
theorem put13 (sb mb : Nat) (L : List LHold) (k : List Int) (a : LAcc) (w : World) (h : StIn w sb mb L) (hk : k.length = 32 ∧ AllBytes k) (ha : AccOk a) (hL : L.length ≤ 5000) : Calls Tryd.prog 28 #[.pointer (some ⟨sb, 0, none⟩), .agg (bv k).toArray, .agg a.cells.toArray] w fun e w' => e = .returned (.int .i64 0) ∧ StIn w' sb mb (putH L k a) ∧ w.grownBy w' (some mb) := by
  have hbw := ((Below.refl w.heap.size w).alloc (Nat.le_refl _) (.cells (bv k).toArray 57)).alloc (by simp) (.cells a.cells.toArray 59)
  have S0 := Lib.hid (h.below hbw)
  have RX0 := Lib.hid ((Row.new w 57 (bv k)).alloc (.cells a.cells.toArray 59))
  have RF0 := Lib.hid (Row.new' (w.alloc (.cells (bv k).toArray 57)) 59 a.cells (g := w.heap.size + 1) (by simp))
  have HSZ : Hid ((Tryd.prog.info? 57).map (·.size) = some (bv k).length) := Lib.hid (by rw [size_key, bv_length, hk.1])
  have HSA := Lib.hid (size_acc ha.o.1)
  have HA := Lib.hid ha
  have HK := Lib.hid hk
  have HLT := Lib.hid h.lt
  have HNE := Lib.hid h.ne
  obtain ⟨f, hf⟩ : ∃ f, f = w.heap.size + 1 := ⟨_, rfl⟩
  obtain ⟨g, hg⟩ : ∃ g, g = w.heap.size := ⟨_, rfl⟩
  have HF : Hid (w.heap.size + 1 = f) := Lib.hid hf.symm
  have HG : Hid (w.heap.size = g) := Lib.hid hg.symm
  have NG : Hid (some g ≠ some mb) := Lib.hid (by have := HLT.out; intro e; cases e; omega)
  have NF : Hid (some f ≠ some mb) := Lib.hid (by have := HLT.out; intro e; cases e; omega)
  have NS : Hid (some sb ≠ some mb) := Lib.hid (by have := HNE.out; intro e; cases e; exact this rfl)
  rw [← hf] at RF0
  rw [← hg] at RX0
  have HGB := Lib.hid (gb_of (some mb) hbw)
  generalize hWW : (w.alloc (.cells (bv k).toArray 57)).alloc (.cells a.cells.toArray 59) = W at *
  have HWW := Lib.hid hWW
  have HSB := Lib.hid hbw.size
  clear hWW hf hg hbw h hk ha
  have HT := Lib.hid (there13 sb mb L W S0.out)
  have HEQ := Lib.hid (fun w => acc_eql (x := a) (y := blank13) HA.out.o.1 rfl w)
  go_enter Tryd.func28, Tryd.ntmps28
  go_upto_region 1 with fail
  rw [HF.out, HG.out, HWW.out]
  clear HF HG HWW
  go_wp2_with fail
  refine HT.out.mono ?_
  rintro e w' ⟨rfl, rfl⟩
  clear HT
  have S1 := Lib.hid (show StIn W.drew sb mb L from S0.out.below (Below.refl _ _).drew)
  have RX1 := Lib.hid RX0.out.drew
  have RF1 := Lib.hid RF0.out.drew
  have HG1 : Hid (w.grownBy W.drew (some mb)) := Lib.hid (gb_below HGB.out (Below.refl _ _).drew)
  by_cases hb : a = blank13
  · rw [decide_eq_true hb] at HEQ
    have HBK := Lib.hid hb
    clear hb
    have NEQ := HEQ.out
    clear HEQ
    go_wp2_with (first
      | ((with_reducible show wpList _ _ _ ({ dst := some 10, op := Op.load _ _, type := _, pos := _, after := _, guard := _ } :: _) _ _); go_must (refine wpList_load_whole rfl 59 (.tmp 5) rfl f 59 a.cells _ Tryd.underlying59 rfl HSA.out RF0.out ?_ ?_; go_simp))
      | ((with_reducible show wpList _ _ _ ({ dst := some 11, op := Op.build _ _, type := _, pos := _, after := _, guard := _ } :: _) _ _); go_must (refine wpList_plain rfl fun K hK => wp_built _ _ _ rfl (by simp only [List.map_toArray, List.map_nil]; exact built_blank) (hK _ _ ?_))))
    clear NEQ
    refine wp_region_held_drew (S := (fun V => Row V sb 109 [.map (some mb)] ∧ Row V g 57 (bv k))) (by kernel_rfl) ⟨S1.out.row, RX1.out⟩ (fun _ => ?_)
    refine takeL (i := 0) (v := ?_) rfl (by kernel_rfl) (by kernel_rfl) (by kernel_rfl) (fun _ _ _ h => h) (Or.inl ⟨by rfl, ?_⟩) ⟨S1.out.row, RX1.out⟩ ?_
    rotate_left
    · intro w hw
      try dsimp only at hw
      go_simp
      try with_reducible rfl
    try simp only [Act.put, List.setIfInBounds_toArray, List.set_cons_zero, List.set_cons_succ]
    refine takeL (i := 1) (v := ?_) rfl (by kernel_rfl) (by kernel_rfl) (by kernel_rfl) (fun _ _ _ h => h) (Or.inl ⟨by rfl, ?_⟩) ⟨S1.out.row, RX1.out⟩ ?_
    rotate_left
    · intro w hw
      try dsimp only at hw
      go_simp
      try with_reducible rfl
    try simp only [Act.put, List.setIfInBounds_toArray, List.set_cons_zero, List.set_cons_succ]
    refine takeL (i := 2) (v := ?_) rfl (by kernel_rfl) (by kernel_rfl) (by kernel_rfl) (fun _ _ _ h => h) (Or.inl ⟨by rfl, ?_⟩) ⟨S1.out.row, RX1.out⟩ ?_
    rotate_left
    · intro w hw
      try dsimp only at hw
      go_simp
      try with_reducible rfl
    try simp only [Act.put, List.setIfInBounds_toArray, List.set_cons_zero, List.set_cons_succ]
    refine takeL (i := 3) (v := ?_) rfl (by kernel_rfl) (by kernel_rfl) (by kernel_rfl) (fun _ _ _ h => h) (Or.inl ⟨by rfl, ?_⟩) ⟨S1.out.row, RX1.out⟩ ?_
    rotate_left
    · intro w hw
      try dsimp only at hw
      have hc := hw.1.cell 0
      go_simp
      try with_reducible rfl
    try simp only [Act.put, List.setIfInBounds_toArray, List.set_cons_zero, List.set_cons_succ]
    refine takeL (i := 4) (v := .agg (bv k).toArray) rfl (by kernel_rfl) (by kernel_rfl) (by kernel_rfl) (fun _ _ _ h => h) (Or.inl ⟨by rfl, fun wz hwz => exec_load_at wz 57 (.tmp 4) rfl ⟨g, 0, none⟩ (bv k) _ Tryd.underlying57 rfl HSZ.out (fun j u hu => by rw [addr_row, Nat.zero_add]; exact (hwz.2.cell j).trans hu) (by go_simp)⟩) ⟨S1.out.row, RX1.out⟩ ?_
    try simp only [Act.put, List.setIfInBounds_toArray, List.set_cons_zero, List.set_cons_succ]
    refine readyL (i := 5) rfl (by kernel_rfl) (by kernel_rfl) fun K hK => ?_
    obtain ⟨D, ho, had⟩ := S1.out.map
    refine wp_delete_acc (.tmp 16) (.tmp 17) rfl mb _ D ?_ ho HK.out ?_ ?_
    · go_simp
    · go_simp
    intro w5 ho5 hg5
    have S5 : Hid (StIn w5 sb mb (putH L k a)) := Lib.hid (by rw [HBK.out]; exact st_new (S1.out.row.grown hg5 NS.out) ho5 (ad_del13 had S1.out.sto HK.out) (S1.out.sto.put HK.out blank_ok))
    have X5 := Lib.hid (RX1.out.grown hg5 NG.out)
    have G5 := Lib.hid (gb_grown13 HG1.out hg5)
    clear ho had ho5 hg5
    refine hK.out _ _ ⟨S5.out.row, X5.out⟩ ?_
    clear hK K
    try simp only [Act.put]
    refine wpAnyH_done (by kernel_rfl) ?_ _
    go_wp2_with fail
    go_ret
    exact ⟨rfl, S5.out, G5.out⟩
  · rw [decide_eq_false hb] at HEQ
    have HBK := Lib.hid hb
    clear hb
    have NEQ := HEQ.out
    clear HEQ
    go_wp2_with (first
      | ((with_reducible show wpList _ _ _ ({ dst := some 10, op := Op.load _ _, type := _, pos := _, after := _, guard := _ } :: _) _ _); go_must (refine wpList_load_whole rfl 59 (.tmp 5) rfl f 59 a.cells _ Tryd.underlying59 rfl HSA.out RF0.out ?_ ?_; go_simp))
      | ((with_reducible show wpList _ _ _ ({ dst := some 11, op := Op.build _ _, type := _, pos := _, after := _, guard := _ } :: _) _ _); go_must (refine wpList_plain rfl fun K hK => wp_built _ _ _ rfl (by simp only [List.map_toArray, List.map_nil]; exact built_blank) (hK _ _ ?_))))
    clear NEQ
    refine wp_region_held_drew (S := (fun V => Row V sb 109 [.map (some mb)] ∧ Row V g 57 (bv k) ∧ Row V f 59 a.cells)) (by kernel_rfl) ⟨S1.out.row, RX1.out, RF1.out⟩ (fun _ => ?_)
    refine takeL (i := 0) (v := ?_) rfl (by kernel_rfl) (by kernel_rfl) (by kernel_rfl) (fun _ _ _ h => h) (Or.inl ⟨by rfl, ?_⟩) ⟨S1.out.row, RX1.out, RF1.out⟩ ?_
    rotate_left
    · intro w hw
      try dsimp only at hw
      go_simp
      try with_reducible rfl
    try simp only [Act.put, List.setIfInBounds_toArray, List.set_cons_zero, List.set_cons_succ]
    refine takeL (i := 1) (v := ?_) rfl (by kernel_rfl) (by kernel_rfl) (by kernel_rfl) (fun _ _ _ h => h) (Or.inl ⟨by rfl, ?_⟩) ⟨S1.out.row, RX1.out, RF1.out⟩ ?_
    rotate_left
    · intro w hw
      try dsimp only at hw
      go_simp
      try with_reducible rfl
    try simp only [Act.put, List.setIfInBounds_toArray, List.set_cons_zero, List.set_cons_succ]
    refine takeL (i := 2) (v := ?_) rfl (by kernel_rfl) (by kernel_rfl) (by kernel_rfl) (fun _ _ _ h => h) (Or.inl ⟨by rfl, ?_⟩) ⟨S1.out.row, RX1.out, RF1.out⟩ ?_
    rotate_left
    · intro w hw
      try dsimp only at hw
      go_simp
      try with_reducible rfl
    try simp only [Act.put, List.setIfInBounds_toArray, List.set_cons_zero, List.set_cons_succ]
    refine takeL (i := 3) (v := ?_) rfl (by kernel_rfl) (by kernel_rfl) (by kernel_rfl) (fun _ _ _ h => h) (Or.inl ⟨by rfl, ?_⟩) ⟨S1.out.row, RX1.out, RF1.out⟩ ?_
    rotate_left
    · intro w hw
      try dsimp only at hw
      have hc := hw.1.cell 0
      go_simp
      try with_reducible rfl
    try simp only [Act.put, List.setIfInBounds_toArray, List.set_cons_zero, List.set_cons_succ]
    refine takeL (i := 4) (v := .agg (bv k).toArray) rfl (by kernel_rfl) (by kernel_rfl) (by kernel_rfl) (fun _ _ _ h => h) (Or.inl ⟨by rfl, fun wz hwz => exec_load_at wz 57 (.tmp 4) rfl ⟨g, 0, none⟩ (bv k) _ Tryd.underlying57 rfl HSZ.out (fun j u hu => by rw [addr_row, Nat.zero_add]; exact (hwz.2.1.cell j).trans hu) (by go_simp)⟩) ⟨S1.out.row, RX1.out, RF1.out⟩ ?_
    try simp only [Act.put, List.setIfInBounds_toArray, List.set_cons_zero, List.set_cons_succ]
    refine takeL (i := 5) (v := .agg a.cells.toArray) rfl (by kernel_rfl) (by kernel_rfl) (by kernel_rfl) (fun _ _ _ h => h) (Or.inl ⟨by rfl, fun wz hwz => exec_load_at wz 59 (.tmp 5) rfl ⟨f, 0, none⟩ a.cells _ Tryd.underlying59 rfl HSA.out (fun j u hu => by rw [addr_row, Nat.zero_add]; exact (hwz.2.2.cell j).trans hu) (by go_simp)⟩) ⟨S1.out.row, RX1.out, RF1.out⟩ ?_
    try simp only [Act.put, List.setIfInBounds_toArray, List.set_cons_zero, List.set_cons_succ]
    refine readyL (i := 6) rfl (by kernel_rfl) (by kernel_rfl) fun K hK => ?_
    obtain ⟨D, ho, had⟩ := S1.out.map
    refine wp_mapUpdate_acc (.tmp 21) (.tmp 22) (.tmp 23) rfl mb _ D ?_ ho (by unfold maxLen; omega) HK.out HA.out ?_ ?_ ?_
    · go_simp
    · go_simp
    · go_simp
    intro w5 ho5 hg5
    have S5 : Hid (StIn w5 sb mb (putH L k a)) := Lib.hid (st_new (S1.out.row.grown hg5 NS.out) ho5 (ad_put13 had S1.out.sto HK.out HA.out HBK.out) (S1.out.sto.put HK.out HA.out))
    have X5 := Lib.hid (RX1.out.grown hg5 NG.out)
    have F5 := Lib.hid (RF1.out.grown hg5 NF.out)
    have G5 := Lib.hid (gb_grown13 HG1.out hg5)
    clear ho had ho5 hg5
    refine hK.out _ _ ⟨S5.out.row, X5.out, F5.out⟩ ?_
    clear hK K
    try simp only [Act.put]
    refine wpAnyH_done (by kernel_rfl) ?_ _
    go_wp2_with fail
    go_ret
    exact ⟨rfl, S5.out, G5.out⟩
end Go.Proofs.YtfaefpniiiandaaDoor

/-
  Of part Coins14: what is needed here.
-/
namespace Go.Proofs.YtfaefpniiiandaaDoor
open Go.RowKit
set_option linter.unusedVariables false
set_option maxRecDepth 100000
theorem chk_ok {m : Bool} {x : LRole} (h : chk14 m x = 0) : (m = true → x.sg = true) ∧ x.wr = true := by
  unfold chk14 at h
  split at h
  · cases h
  rename_i h1
  split at h
  · cases h
  rename_i h2
  exact ⟨fun e => by subst e; simpa using h1, by simpa using h2⟩
theorem plc_chk {x : LAsk} {r : List LRole} {acc : List Int} (h : plc14 x r acc = 0) : chk14 true (rol14 r (acc.getD 0 0)) = 0 ∧ (two14 x → chk14 (decide (x.tag = 0)) (rol14 r (acc.getD 1 0)) = 0) := by
  unfold plc14 at h
  split at h
  · cases h
  split at h
  · cases h
  split at h
  · rename_i h1
    exact absurd h h1
  rename_i h1
  refine ⟨Classical.not_not.1 h1, fun h2 => ?_⟩
  rwa [if_pos h2] at h
/-- what a call that went well did -/
structure Went (l : List LAcc) (r : List LRole) (R : Res14) (a b : Nat) : Prop where
  len : l.length = r.length
  an : a < l.length
  bn : b < l.length
  d : Deed l R.l R.n a b true (rol14 r b).sg
  wa : (rol14 r a).wr = true
  wb : (rol14 r b).wr = true
  sa : (rol14 r a).sg = true
theorem do_went {l : List LAcc} {r : List LRole} {acc dat : List Int} (hl : ∀ a ∈ l, AccOk a) (hd : AllBytes dat) (hb : AllBytes acc) (h : (do14 l r acc dat).e = 0) : ∃ a b, Went l r (do14 l r acc dat) a b := by
  by_cases hn : l.length = r.length
  rotate_left
  · unfold do14 at h
    rw [if_pos hn] at h
    cases h
  cases hdat : dat14 dat with
  | none =>
    unfold do14 at h
    rw [if_neg (by omega), hdat] at h
    cases h
  | some x =>
  by_cases hp : plc14 x r acc = 0
  rotate_left
  · unfold do14 at h
    rw [if_neg (by omega), hdat] at h
    dsimp only at h
    rw [if_pos hp] at h
    exact absurd h hp
  obtain ⟨h1, h2⟩ := plc_ok hp
  have h0 : 0 < need14 x := by unfold need14; split <;> omega
  obtain ⟨a, ha, han⟩ := acc_idx (k := 0) hb (by omega) h2
  obtain ⟨b, hbb, hbn⟩ := acc_idx (k := need14 x - 1) hb (by omega) h2
  rw [← hn] at han hbn
  rw [do_is hn hdat hp ha hbb] at h ⊢
  have hx := dat14_ok hd hdat
  obtain ⟨c1, c2⟩ := plc_chk hp
  rw [ha] at c1
  have k1 := chk_ok c1
  refine ⟨a, b, ?_⟩
  by_cases ht : two14 x
  · have hb1 : acc.getD 1 0 = b := by rw [need_two ht] at hbb; exact hbb
    have c3 := c2 ht
    rw [hb1] at c3
    have k2 := chk_ok c3
    have hw : ∀ {R : Res14}, Deed l R.l R.n a b true (rol14 r b).sg → Went l r R a b := fun d => ⟨hn, han, hbn, d, k1.2, k2.2, k1.1 rfl⟩
    apply hw
    unfold deed14 at h ⊢
    rcases ht with ht | ht
    · rw [if_pos ht] at h ⊢
      rw [k2.1 (by rw [ht]; rfl)]
      exact make_deed hl hx han hbn h
    · rw [if_neg (by rw [ht]; decide), if_neg (by rw [ht]; decide), if_pos ht] at h ⊢
      exact move_deed hl hx han hbn h _
  · have hab : (b : Int) = a := by rw [need_one ht] at hbb; rw [← hbb, ← ha]
    have hab : b = a := by exact_mod_cast hab
    subst hab
    have hw : ∀ {R : Res14}, Deed l R.l R.n b b true (rol14 r b).sg → Went l r R b b := fun d => ⟨hn, han, hbn, d, k1.2, k1.2, k1.1 rfl⟩
    apply hw
    unfold deed14 at h ⊢
    unfold two14 at ht
    rw [if_neg (fun e => ht (.inl e))] at h ⊢
    by_cases h1 : x.tag = 1
    · rw [if_pos h1] at h ⊢
      exact assign_deed hl hx b han h _
    · rw [if_neg h1, if_neg (fun e => ht (.inr e))] at h ⊢
      exact space_deed hl hx b han h _
end Go.Proofs.YtfaefpniiiandaaDoor

/-
  Of part RunMath15: what is needed here.
-/
namespace Go.Proofs.YtfaefpniiiandaaDoor
set_option linter.unusedVariables false
/-- on the way, before instruction k -/
structure Go15 (x : LReady) (l : List LAcc) (ln k : Nat) (S : S15) : Prop where
  len : S.now.length = ln
  eq : go15 x (x.tx.m.ins.drop k) k S = go15 x x.tx.m.ins 0 ⟨l, 0, 0⟩
  u : 0 ≤ S.units ∧ S.units ≤ x.u
  s : 0 ≤ S.space ∧ S.space ≤ (k : Int) * 1048576
section
variable {x : LReady} {l : List LAcc} {ln k : Nat} {S S' : S15} {a : LIn} {e : Int}
theorem go15_start (hl : l.length = ln) (hu : 0 ≤ x.u) : Go15 x l ln 0 ⟨l, 0, 0⟩ := ⟨hl, by rw [List.drop_zero], ⟨Int.le_refl _, hu⟩, ⟨Int.le_refl _, by simp⟩⟩
theorem go15_drop (ha : x.tx.m.ins[k]? = some a) : x.tx.m.ins.drop k = a :: x.tx.m.ins.drop (k + 1) := by
  obtain ⟨h, rfl⟩ := List.getElem?_eq_some_iff.1 ha
  exact List.drop_eq_getElem_cons h
theorem Go15.next (h : Go15 x l ln k S) (ha : x.tx.m.ins[k]? = some a) (hs : step15 x k a S = (0, S')) (hl : S'.now.length = ln) (hu : 0 ≤ S'.units ∧ S'.units ≤ x.u) (hsp : 0 ≤ S'.space ∧ S'.space ≤ S.space + 1048576) : Go15 x l ln (k + 1) S' := by
  refine ⟨hl, ?_, hu, hsp.1, ?_⟩
  · rw [← h.eq, go15_drop ha]
    conv => rhs; unfold go15
    rw [hs, if_pos rfl]
  · have := h.s.2
    have e : ((k + 1 : Nat) : Int) * 1048576 = (k : Int) * 1048576 + 1048576 := by omega
    rw [e]
    omega
theorem Go15.bad (h : Go15 x l ln k S) (ha : x.tx.m.ins[k]? = some a) (hs : step15 x k a S = (e, S')) (he : e ≠ 0) (hl : l.length = x.roles.length) (hp : ∀ a ∈ x.tx.m.ins, a.p < (x.roles.length : Int)) : run15 x l = (⟨e, k, S'.units, x.fee, 0, chg15 x.roles l⟩, 0) := by
  have hg : go15 x x.tx.m.ins 0 ⟨l, 0, 0⟩ = (e, (k : Int), S') := by
    rw [← h.eq, go15_drop ha]
    unfold go15
    rw [hs, if_neg he]
  unfold run15
  rw [if_neg (by omega), if_neg (by rintro ⟨b, hb, hc⟩; have := hp b hb; omega), hg, if_neg he]
theorem Go15.done (h : Go15 x l ln k S) (hk : x.tx.m.ins.length ≤ k) (hl : l.length = x.roles.length) (hp : ∀ a ∈ x.tx.m.ins, a.p < (x.roles.length : Int)) : run15 x l = (⟨0, -1, S.units, x.fee, S.space, chg15 x.roles S.now⟩, 0) := by
  have hg : go15 x x.tx.m.ins 0 ⟨l, 0, 0⟩ = (0, -1, S) := by
    rw [← h.eq, List.drop_of_length_le hk]
    rfl
  unfold run15
  rw [if_neg (by omega), if_neg (by rintro ⟨b, hb, hc⟩; have := hp b hb; omega), hg, if_pos rfl]
theorem step15_units (h : x.u < 150 ∨ x.u - 150 < S.units) : step15 x k a S = (20, ⟨S.now, x.u, S.space⟩) := by
  unfold step15
  rw [if_pos h]
theorem step15_bad (h : ¬ (x.u < 150 ∨ x.u - 150 < S.units)) (hb : (k : Int) = x.bad) : step15 x k a S = (21, ⟨S.now, S.units + 150, S.space⟩) := by
  unfold step15
  rw [if_neg h, if_pos hb]
theorem step15_sys (h : ¬ (x.u < 150 ∨ x.u - 150 < S.units)) (hb : ¬ (k : Int) = x.bad) (hp : prog15 x a = k0) (he : (do14 S.now x.roles a.acc a.dat).e = 0) : step15 x k a S = (0, ⟨(do14 S.now x.roles a.acc a.dat).l, S.units + 150, S.space + (do14 S.now x.roles a.acc a.dat).n⟩) := by
  unfold step15
  rw [if_neg h, if_neg hb, if_pos hp, if_pos he]
theorem step15_sysbad (h : ¬ (x.u < 150 ∨ x.u - 150 < S.units)) (hb : ¬ (k : Int) = x.bad) (hp : prog15 x a = k0) (he : ¬ (do14 S.now x.roles a.acc a.dat).e = 0) : step15 x k a S = ((do14 S.now x.roles a.acc a.dat).e, ⟨S.now, S.units + 150, S.space⟩) := by
  unfold step15
  rw [if_neg h, if_neg hb, if_pos hp, if_neg he]
theorem step15_bud (h : ¬ (x.u < 150 ∨ x.u - 150 < S.units)) (hb : ¬ (k : Int) = x.bad) (hp : ¬ prog15 x a = k0) (hq : prog15 x a = k3) : step15 x k a S = (0, ⟨S.now, S.units + 150, S.space⟩) := by
  unfold step15
  rw [if_neg h, if_neg hb, if_neg hp, if_pos hq]
theorem step15_none (h : ¬ (x.u < 150 ∨ x.u - 150 < S.units)) (hb : ¬ (k : Int) = x.bad) (hp : ¬ prog15 x a = k0) (hq : ¬ prog15 x a = k3) : step15 x k a S = (19, ⟨S.now, S.units + 150, S.space⟩) := by
  unfold step15
  rw [if_neg h, if_neg hb, if_neg hp, if_neg hq]
end
end Go.Proofs.YtfaefpniiiandaaDoor

/-
  Of part RefRun15: what is needed here.
-/
namespace Go.Proofs.YtfaefpniiiandaaDoor
open Go.RowKit
set_option linter.unusedVariables false
set_option maxRecDepth 100000
theorem built_out0 : Tryd.prog.built 54 [] = some (out0.cells (.slice none 0 0)).toArray := by kernel_rfl
theorem ycells_39 {q : YRaw} {x : LReady} (h : x.tx.m.recent.length = 32) : (q.cells x)[39]? = some (.slice q.t.q.IA q.t.q.n q.t.q.ic) := ycells_t (j := 38) ((tcells_m 37).trans (cells_37 h))
/-- what is there while it is run -/
structure RX (w V : World) (B g2 g4 : Nat) (q : YRaw) (x : LReady) (LA : Option Addr) (ln : Nat) (l : List LAcc) : Prop where
  b : Below w.heap.size w V
  r2 : Row V g2 41 (q.cells x)
  r4 : Row V g4 54 (out0.cells (.slice none 0 0))
  rd : ReadyIn V B q x
  ac : AccsIn V B LA ln l
theorem RX.below {w V V' : World} {B g2 g4 ln : Nat} {q : YRaw} {x : LReady} {LA : Option Addr} {l : List LAcc} (h : RX w V B g2 g4 q x LA ln l) (hB : B ≤ w.heap.size) (hb : Below V.heap.size V V') : RX w V' B g2 g4 q x LA ln l :=
  ⟨h.b.trans (hb.mono h.b.size), h.r2.below hb h.r2.lt, h.r4.below hb h.r4.lt, h.rd.below (hb.mono (Nat.le_trans hB h.b.size)), h.ac.below (hb.mono (Nat.le_trans hB h.b.size))⟩
theorem arg15 {x : LReady} {l : List LAcc} (h : l.length ≠ x.roles.length) : run15 x l = (out0, 1) := by unfold run15; rw [if_pos h]
theorem prog_bad15 {x : LReady} {l : List LAcc} (h : ∃ a ∈ x.tx.m.ins, (x.roles.length : Int) ≤ a.p) : run15 x l = (out0, 1) := by
  unfold run15
  split
  · rfl
  · first
    | rfl
    | rw [if_pos h]
theorem zero_ins15 : (Tryd.prog.info? 70).map (·.zero) = some (some (.agg (insC 0 none 0 0 none 0 0).toArray)) := by kernel_rfl
theorem ins_one15 {p : Int} {IA D : Option Addr} {n c dn dc : Nat} : ∀ u ∈ insC p IA n c D dn dc, u.oneCell' = true := by
  intro u hu
  simp only [insC, List.mem_cons, List.not_mem_nil, or_false] at hu
  rcases hu with rfl | rfl | rfl <;> rfl
theorem ia_more15 {w : World} {B B' : Nat} {p : Int} {IA : Option Addr} {n c : Nat} {D : Option Addr} {dn dc : Nat} {acc dat : List Int} (h : InsAt14 w B p IA n c D dn dc acc dat) (hB : B ≤ B') : InsAt14 w B' p IA n c D dn dc acc dat :=
  ⟨h.aSees.more hB, h.dSees.more hB, h.ab, h.db, h.ac, h.dc⟩
theorem oa_low15 {w : World} {base base' : Nat} {v : Value} {L : List LAcc} (h : OA14 w base v L) (hb : base' ≤ base) : OA14 w base' v L := by
  obtain ⟨A, c, c', h1, h2, h3, h4⟩ := h.is
  exact ⟨⟨A, c, c', h1, h2, h3, own_baseR h4 hb⟩, h.ok⟩
end Go.Proofs.YtfaefpniiiandaaDoor

/-
  Of part Move15: what is needed here.
-/
namespace Go.Proofs.YtfaefpniiiandaaDoor
open Go.RowKit
set_option linter.unusedVariables false
set_option maxRecDepth 100000
def kx15 (n : Int) : List Int := n :: List.replicate 31 0
def dat15x : List Int := [2, 0, 0, 0, 200, 0, 0, 0, 0, 0, 0, 0]
def in15x : LIn := ⟨2, [0, 1], dat15x⟩
def ro15x : List LRole := [⟨kx15 8, true, true⟩, ⟨kx15 9, false, true⟩, ⟨k0, false, false⟩]
def ms15x : LMsg := ⟨false, 0, 0, 0, [], zero32, [in15x], []⟩
def rd15x : LReady := ⟨[], ⟨[], ms15x⟩, ro15x, 400000, 0, -1, 5000, 0, 0⟩
def q15x (gi gr : Nat) : YRaw := ⟨none, 0, 0, ⟨none, 0, 0, ⟨none, 0, 0, some ⟨gi, 0, none⟩, 1, 1, none, 0, 0⟩⟩, some ⟨gr, 0, none⟩, 3, 3⟩
theorem kx_ok15 {n : Int} (h : 0 ≤ n ∧ n < 256) : (kx15 n).length = 32 ∧ AllBytes (kx15 n) := by
  refine ⟨by simp [kx15], fun z hz => ?_⟩
  rcases List.mem_cons.1 hz with rfl | hz
  · exact h
  · rw [List.eq_of_mem_replicate hz]; exact ⟨by decide, by decide⟩
theorem dat_ok15x : AllBytes dat15x := by
  have h : ∀ z ∈ dat15x, 0 ≤ z ∧ z < 256 := by decide
  exact h
theorem acc_ok15x : AllBytes [0, 1] := by
  have h : ∀ z ∈ ([0, 1] : List Int), 0 ≤ z ∧ z < 256 := by decide
  exact h
def ic15x (ga gd : Nat) : List Value := insC 2 (some ⟨ga, 0, none⟩) 2 2 (some ⟨gd, 0, none⟩) 12 12
theorem built_kx8 : Tryd.prog.built 57 [(0, .int .u8 8)] = some (bv (kx15 8)).toArray := by kernel_rfl
theorem built_kx9 : Tryd.prog.built 57 [(0, .int .u8 9)] = some (bv (kx15 9)).toArray := by kernel_rfl
theorem built_in15x (ga gd : Nat) : Tryd.prog.built 70 [(0, .int .u8 2), (1, .slice (some ⟨ga, 0, none⟩) 2 2), (2, .slice (some ⟨gd, 0, none⟩) 12 12)] = some (ic15x ga gd).toArray := by kernel_rfl
theorem built_ms15x (gi : Nat) : Tryd.prog.built 33 [(4, .slice (some ⟨gi, 0, none⟩) 1 1)] = some ((q15x gi 0).t.q.cells ms15x).toArray := by kernel_rfl
theorem built_tx15x (gi : Nat) : Tryd.prog.built 35 [(1, .agg ((q15x gi 0).t.q.cells ms15x).toArray)] = some ((q15x gi 0).t.cells ⟨[], ms15x⟩).toArray := by kernel_rfl
theorem built_ro1 : Tryd.prog.built 62 [(0, .agg (bv (kx15 8)).toArray), (1, .bool true), (2, .bool true)] = some (LRole.mk (kx15 8) true true).cells.toArray := by kernel_rfl
theorem built_ro2 : Tryd.prog.built 62 [(0, .agg (bv (kx15 9)).toArray), (2, .bool true)] = some (LRole.mk (kx15 9) false true).cells.toArray := by kernel_rfl
theorem built_ro3 : Tryd.prog.built 62 [(0, .agg (bv k0).toArray)] = some (LRole.mk k0 false false).cells.toArray := by kernel_rfl
theorem built_bu15x : Tryd.prog.built 39 [(0, .int .u64 400000), (2, .int .i64 (-1))] = some ([.int .u64 400000, .int .u64 0, .int .i64 (-1)] : List Value).toArray := by kernel_rfl
theorem built_rd15x (gi gr : Nat) : Tryd.prog.built 41 [(1, .agg ((q15x gi 0).t.cells ⟨[], ms15x⟩).toArray), (2, .slice (some ⟨gr, 0, none⟩) 3 3), (3, .agg ([.int .u64 400000, .int .u64 0, .int .i64 (-1)] : List Value).toArray), (4, .int .u64 5000)] = some ((q15x gi gr).cells rd15x).toArray := by kernel_rfl
def zrdC : List Value := zYRaw.cells zReady
theorem zero_rdx : (Tryd.prog.info? 41).map (·.zero) = some (some (.agg zrdC.toArray)) := by kernel_rfl
theorem size_rdx (gi gr : Nat) : (Tryd.prog.info? 41).map (·.size) = some ((q15x gi gr).cells rd15x).length := by kernel_rfl
theorem one_rdx (gi gr : Nat) : ∀ u ∈ (q15x gi gr).cells rd15x, u.oneCell' = true := by
  intro u hu
  unfold YRaw.cells at hu
  rcases List.mem_cons.1 hu with rfl | hu
  · rfl
  rcases List.mem_append.1 hu with hu | hu
  · exact tcells_one u hu
  rcases List.mem_cons.1 hu with rfl | hu
  · rfl
  · simp only [LReady.last, List.mem_cons, List.not_mem_nil, or_false] at hu
    rcases hu with rfl | rfl | rfl | rfl | rfl | rfl <;> rfl
theorem zero_insx : (Tryd.prog.info? 70).map (·.zero) = some (some (.agg (insC 0 none 0 0 none 0 0).toArray)) := by kernel_rfl
def roC15x : List Value := (LRole.mk (kx15 8) true true).cells ++ ((LRole.mk (kx15 9) false true).cells ++ (LRole.mk k0 false false).cells)
theorem ro_ok15x : ∀ r ∈ ro15x, RoleOk r := by
  intro r hr
  simp only [ro15x, List.mem_cons, List.not_mem_nil, or_false] at hr
  rcases hr with rfl | rfl | rfl
  · exact kx_ok15 (by omega)
  · exact kx_ok15 (by omega)
  · exact ⟨rfl, fun z hz => by rw [List.eq_of_mem_replicate (show z ∈ List.replicate 32 0 from hz)]; exact ⟨by decide, by decide⟩⟩
theorem info_insx : (Tryd.prog.info? 70).map (fun i => (i.zero, i.size, i.bytes)) = some (some (.agg (insC 0 none 0 0 none 0 0).toArray), 3, 56) := by kernel_rfl
theorem zsz_insx : (Value.agg (insC 0 none 0 0 none 0 0).toArray).cells.size = 3 := by kernel_rfl
theorem zszRx : (Value.agg r0.cells.toArray).cells.size = 34 := by kernel_rfl
theorem wp_buildThree15 {P : Program} {o : Oper} {a : Act} {w : World} {K : Act → World → Prop} {Q : Exit → Act → World → Prop} (t e : TypeId) (y y' y2 : Operand) (ho : o.op = .buildSlice t 3 #[(0, y), (1, y'), (2, y2)])
    (cs cs' cs2 : List Value) (z : Value) (size bytes : Nat) (hu : P.underlying t = some (.slice e)) (hi : (P.info? e).map (fun i => (i.zero, i.size, i.bytes)) = some (some z, size, bytes)) (hzs : z.cells.size = size) (hs0 : 0 < size) (hs1 : size ≤ 1000)
    (hcs : cs.length = size) (hcs' : cs'.length = size) (hcs2 : cs2.length = size) (hy : a.eval y = .agg cs.toArray) (hy' : a.eval y' = .agg cs'.toArray) (hy2 : a.eval y2 = .agg cs2.toArray)
    (h : K (a.put o.dst (.slice (some ⟨w.heap.size, 0, none⟩) 3 3)) (w.alloc (.cells (cs ++ (cs' ++ cs2)).toArray e))) : o.wp P a w K Q := by
  obtain ⟨ie, hie, h1, h2, _⟩ := info_parts hi
  subst h2
  refine wp_buildSlice t e 3 _ ho (cs ++ (cs' ++ cs2)).toArray ie z hu hie h1 (by omega) (by omega) ?_ h
  have := Go.Great.fill_whole (s := ie.size) hs0 [Value.agg cs.toArray, Value.agg cs'.toArray, Value.agg cs2.toArray] ((Array.range (3 * ie.size)).map (z.cells[· % z.cells.size]!)) (by simp [Value.cells, hcs, hcs', hcs2]) (by simp)
  simpa [hy, hy', hy2, Value.cells] using this
/-- what move answers -/
def MvDone15 (w : World) (e : Ending) (w' : World) : Prop := ∃ gi gr, e = .returned (.agg ((q15x gi gr).cells rd15x).toArray) ∧ ReadyIn w' w'.heap.size (q15x gi gr) rd15x ∧ Below w.heap.size w w'
theorem mv_in15 {V : World} {gi gr ga gd : Nat} (hi : Row V gi 70 (ic15x ga gd)) (hr : Row V gr 62 roC15x) (ha : Row V ga 5 (bv [0, 1])) (hd : Row V gd 5 (bv dat15x)) : ReadyIn V V.heap.size (q15x gi gr) rd15x := by
  refine ⟨Sees.nil _ _ _, by simp [q15x, maxLen], ⟨⟨rfl, fun k hk => (by cases hk), Sees.nil _ _ _⟩, by simp [q15x, maxLen], ?_⟩, ?_, by simp [q15x, maxLen]⟩
  · refine ⟨rfl, ⟨rfl, fun k hk => (by cases hk), Sees.nil _ _ _⟩, ⟨rfl, fun i y hy => ?_⟩, ⟨rfl, fun i y hy => (by cases hy)⟩, by simp [q15x, maxLen], by simp [q15x, maxLen], by simp [q15x, maxLen]⟩
    have hi0 : i = 0 := by
      have := (List.getElem?_eq_some_iff.1 hy).1
      simp [rd15x, ms15x] at this
      exact this
    subst hi0
    obtain rfl : in15x = y := by simpa [rd15x, ms15x] using hy
    refine ⟨⟨gi, 0, none⟩, .slice (some ⟨ga, 0, none⟩) 2 2, .slice (some ⟨gd, 0, none⟩) 12 12, rfl, hi.lt, ?_, ?_, ?_, ?_, ?_⟩
    · exact hi.cell 0
    · exact hi.cell 1
    · exact hi.cell 2
    · exact ⟨_, 2, rfl, ha.sees0, Nat.le_refl _, by unfold maxLen; omega⟩
    · exact ⟨_, 12, rfl, hd.sees0, Nat.le_refl _, by unfold maxLen; omega⟩
  · have e : (List.map LRole.cells ro15x).flatten = roC15x := by simp [ro15x, roC15x]
    exact roles_row (l := ro15x) (ys := []) (by rw [List.append_nil, e]; exact hr) rfl ro_ok15x hr.lt
/-- what is there while it is made -/
structure MX15 (w V : World) (g3 g4 g6 g7 ga gd : Nat) : Prop where
  b : Below w.heap.size w V
  r3 : Row V g3 57 (bv (kx15 8))
  r4 : Row V g4 57 (bv (kx15 9))
  r6 : Row V g6 41 zrdC
  r7 : Row V g7 70 (ic15x ga gd)
  ra : Row V ga 5 (bv [0, 1])
  rd : Row V gd 5 (bv dat15x)
theorem MX15.below {w V V' : World} {g3 g4 g6 g7 ga gd : Nat} (m : MX15 w V g3 g4 g6 g7 ga gd) (hb : Below V.heap.size V V') : MX15 w V' g3 g4 g6 g7 ga gd :=
  ⟨m.b.trans (hb.mono m.b.size), m.r3.below hb m.r3.lt, m.r4.below hb m.r4.lt, m.r6.below hb m.r6.lt, m.r7.below hb m.r7.lt, m.ra.below hb m.ra.lt, m.rd.below hb m.rd.lt⟩
set_option maxHeartbeats 8000000 in
theorem move15 (w : World) : Calls Tryd.prog 29 #[.agg (bv (kx15 8)).toArray, .agg (bv (kx15 9)).toArray, .int .u8 200] w (MvDone15 w) := by
  have hb0 := (((Below.refl w.heap.size w).alloc (Nat.le_refl _) (.cells (bv (kx15 8)).toArray 57)).alloc (by simp) (.cells (bv (kx15 9)).toArray 57)).alloc (by simp; omega) (.cells zrdC.toArray 41)
  have r3 := ((Row.new w 57 (bv (kx15 8))).alloc (.cells (bv (kx15 9)).toArray 57)).alloc (.cells zrdC.toArray 41)
  have r4 := (Row.new' (w.alloc (.cells (bv (kx15 8)).toArray 57)) 57 (bv (kx15 9)) (g := w.heap.size + 1) (by simp)).alloc (.cells zrdC.toArray 41)
  have r6 := Row.new' ((w.alloc (.cells (bv (kx15 8)).toArray 57)).alloc (.cells (bv (kx15 9)).toArray 57)) 41 zrdC (g := w.heap.size + 1 + 1) (by simp)
  have R3 := Lib.hid r3
  have R4 := Lib.hid r4
  have R6 := Lib.hid r6
  have B0 := Lib.hid hb0
  clear r3 r4 r6 hb0
  obtain ⟨g6, hg6⟩ : ∃ g, g = w.heap.size + 1 + 1 := ⟨_, rfl⟩
  obtain ⟨g4, hg4⟩ : ∃ g, g = w.heap.size + 1 := ⟨_, rfl⟩
  obtain ⟨g3, hg3⟩ : ∃ g, g = w.heap.size := ⟨_, rfl⟩
  have HG6 : Hid (w.heap.size + 1 + 1 = g6) := Lib.hid hg6.symm
  have HG4 : Hid (w.heap.size + 1 = g4) := Lib.hid hg4.symm
  have HG3 : Hid (w.heap.size = g3) := Lib.hid hg3.symm
  have HG6a : Hid (((w.alloc (.cells (bv (kx15 8)).toArray 57)).alloc (.cells (bv (kx15 9)).toArray 57)).heap.size = g6) := Lib.hid (by rw [hg6]; simp)
  have HG4a : Hid ((w.alloc (.cells (bv (kx15 8)).toArray 57)).heap.size = g4) := Lib.hid (by rw [hg4]; simp)
  have HGN : Hid (w.heap.size ≤ g6 ∧ g3 ≠ g6 ∧ g4 ≠ g6) := Lib.hid (by omega)
  rw [← hg6] at R6
  rw [← hg4] at R4
  rw [← hg3] at R3
  clear hg6 hg4 hg3
  go_enter Tryd.func29, Tryd.ntmps29
  go_upto_region 1 with ((with_reducible show wpList _ _ _ ({ dst := some 6, op := Op.alloc _, type := _, pos := _, after := _, guard := _ } :: _) _ _); go_must (refine wpList_alloc_zero rfl 41 rfl zrdC zero_rdx ?_))
  try rw [HG6a.out]
  try rw [HG6.out]
  try rw [HG4a.out]
  try rw [HG4.out]
  try rw [HG3.out]
  generalize hW : ((w.alloc (.cells (bv (kx15 8)).toArray 57)).alloc (.cells (bv (kx15 9)).toArray 57)).alloc (.cells zrdC.toArray 41) = W at *
  clear hW HG6 HG4 HG3 HG6a HG4a
  have ra := (Row.new W 5 (bv [0, 1])).alloc (.cells (bv dat15x).toArray 5)
  have rd := Row.new' (W.alloc (.cells (bv [0, 1]).toArray 5)) 5 (bv dat15x) (g := W.heap.size + 1) (by simp)
  have hb1 := ((Below.refl W.heap.size W).alloc (Nat.le_refl _) (.cells (bv [0, 1]).toArray 5)).alloc (by simp) (.cells (bv dat15x).toArray 5)
  have RA := Lib.hid ra
  have RD := Lib.hid rd
  have B1 := Lib.hid hb1
  clear ra rd hb1
  obtain ⟨gd, hgd⟩ : ∃ g, g = W.heap.size + 1 := ⟨_, rfl⟩
  obtain ⟨ga, hga⟩ : ∃ g, g = W.heap.size := ⟨_, rfl⟩
  have HGD : Hid (W.heap.size + 1 = gd) := Lib.hid hgd.symm
  have HGA : Hid (W.heap.size = ga) := Lib.hid hga.symm
  have HAD : Hid (g6 < ga ∧ g6 < gd) := Lib.hid (by have := R6.out.lt; omega)
  rw [← hgd] at RD
  rw [← hga] at RA
  clear hgd hga
  go_upto_region 2 with (first
    | ((with_reducible show wpList _ _ _ ({ dst := some 11, op := Op.build _ _, type := _, pos := _, after := _, guard := _ } :: _) _ _); go_must (refine wpList_plain rfl fun K hK => wp_built _ _ _ rfl (by simp only [List.map_toArray, List.map_cons, List.map_nil]; rw [HGD.out, HGA.out]; exact built_in15x ga gd) (hK _ _ ?_)))
    | ((with_reducible show wpList _ _ _ ({ dst := some 7, op := Op.alloc _, type := _, pos := _, after := _, guard := _ } :: _) _ _); go_must (refine wpList_alloc_zero rfl 70 rfl (insC 0 none 0 0 none 0 0) zero_insx ?_))
    | ((with_reducible show wpList _ _ _ ({ dst := none, op := Op.store 70 _ _, type := _, pos := _, after := _, guard := _ } :: _) _ _); go_must (refine wpList_store_new rfl 70 (.tmp 7) (.tmp 11) rfl (ic15x ga gd) (by kernel_rfl) ins_one15 rfl ?_ ?_ ?_; go_simp; go_simp; intro w7 hr7 hb7 hz7)))
  try rw [HGD.out]
  try rw [HGA.out]
  obtain ⟨g7, hg7⟩ : ∃ g, g = W.heap.size + 1 + 1 := ⟨_, rfl⟩
  have HS7 : Hid (W.heap.size < g7) := Lib.hid (by omega)
  rw [World.size_alloc, World.size_alloc] at hr7
  have hr7' : Row w7 g7 70 (ic15x ga gd) := by rw [hg7]; exact hr7
  try simp only [World.size_alloc]
  rw [← hg7]
  clear hg7
  try simp only [Act.put, List.setIfInBounds_toArray, List.set_cons_zero, List.set_cons_succ]
  have hb7' : Below ((W.alloc (.cells (bv [0, 1]).toArray 5)).alloc (.cells (bv dat15x).toArray 5)).heap.size ((W.alloc (.cells (bv [0, 1]).toArray 5)).alloc (.cells (bv dat15x).toArray 5)) w7 := hb7
  have M := Lib.hid (show MX15 w w7 g3 g4 g6 g7 ga gd from ⟨(B0.out.trans (B1.out.mono B0.out.size)).trans (hb7'.mono (Nat.le_trans B0.out.size B1.out.size)), (R3.out.below B1.out R3.out.lt).below hb7' (Nat.lt_of_lt_of_le R3.out.lt B1.out.size), (R4.out.below B1.out R4.out.lt).below hb7' (Nat.lt_of_lt_of_le R4.out.lt B1.out.size), (R6.out.below B1.out R6.out.lt).below hb7' (Nat.lt_of_lt_of_le R6.out.lt B1.out.size), hr7', RA.out.below hb7' RA.out.lt, RD.out.below hb7' RD.out.lt⟩)
  have H76 : Hid (g6 < g7) := Lib.hid (by have := R6.out.lt; have := HS7.out; omega)
  have MD : Hid (MX15 w w7.drew g3 g4 g6 g7 ga gd) := Lib.hid (M.out.below ⟨rfl, rfl, rfl, Nat.le_refl _, fun _ _ => rfl⟩)
  refine wp_region_held_drew (S := fun V => Row V g3 57 (bv (kx15 8)) ∧ Row V g4 57 (bv (kx15 9)) ∧ Row V g7 70 (ic15x ga gd)) (by kernel_rfl) ⟨MD.out.r3, MD.out.r4, MD.out.r7⟩ (fun _ => ?_)
  try dsimp only [List.append]
  clear M R3 R4 R6 RA RD B0 B1 HGD HGA hr7 hr7' hb7 hb7' hz7
  generalize w7.drew = wd at *
  refine takeL (i := 0) (v := .agg (ic15x ga gd).toArray) rfl (by kernel_rfl) (by kernel_rfl) (by kernel_rfl) (fun _ _ _ h => h) (Or.inl ⟨by rfl, fun wz hwz => exec_load_at wz 70 (.tmp 7) rfl ⟨g7, 0, none⟩ (ic15x ga gd) _ Tryd.underlying70 rfl (by kernel_rfl) (fun j u hu => by rw [addr_row, Nat.zero_add, hwz.2.2.cell]; exact hu) (by go_simp)⟩) ⟨MD.out.r3, MD.out.r4, MD.out.r7⟩ ?_
  try simp only [Act.put, List.setIfInBounds_toArray, List.set_cons_zero, List.set_cons_succ]
  refine takeL (i := 4) (v := .agg (bv (kx15 8)).toArray) rfl (by kernel_rfl) (by kernel_rfl) (by kernel_rfl) (fun _ _ _ h => h) (Or.inl ⟨by rfl, fun wz hwz => exec_load_at wz 57 (.tmp 3) rfl ⟨g3, 0, none⟩ (bv (kx15 8)) _ Tryd.underlying57 rfl (by kernel_rfl) (fun j u hu => by rw [addr_row, Nat.zero_add, hwz.1.cell]; exact hu) (by go_simp)⟩) ⟨MD.out.r3, MD.out.r4, MD.out.r7⟩ ?_
  try simp only [Act.put, List.setIfInBounds_toArray, List.set_cons_zero, List.set_cons_succ]
  refine takeL (i := 5) (v := .agg (LRole.mk (kx15 8) true true).cells.toArray) rfl (by kernel_rfl) (by kernel_rfl) (by kernel_rfl) (fun _ _ _ h => h) (Or.inl ⟨by rfl, fun wz hwz => exec_built wz _ _ _ rfl (by simp only [List.map_toArray, List.map_cons, List.map_nil]; exact built_ro1)⟩) ⟨MD.out.r3, MD.out.r4, MD.out.r7⟩ ?_
  try simp only [Act.put, List.setIfInBounds_toArray, List.set_cons_zero, List.set_cons_succ]
  refine takeL (i := 6) (v := .agg (bv (kx15 9)).toArray) rfl (by kernel_rfl) (by kernel_rfl) (by kernel_rfl) (fun _ _ _ h => h) (Or.inl ⟨by rfl, fun wz hwz => exec_load_at wz 57 (.tmp 4) rfl ⟨g4, 0, none⟩ (bv (kx15 9)) _ Tryd.underlying57 rfl (by kernel_rfl) (fun j u hu => by rw [addr_row, Nat.zero_add, hwz.2.1.cell]; exact hu) (by go_simp)⟩) ⟨MD.out.r3, MD.out.r4, MD.out.r7⟩ ?_
  try simp only [Act.put, List.setIfInBounds_toArray, List.set_cons_zero, List.set_cons_succ]
  refine takeL (i := 7) (v := .agg (LRole.mk (kx15 9) false true).cells.toArray) rfl (by kernel_rfl) (by kernel_rfl) (by kernel_rfl) (fun _ _ _ h => h) (Or.inl ⟨by rfl, fun wz hwz => exec_built wz _ _ _ rfl (by simp only [List.map_toArray, List.map_cons, List.map_nil]; exact built_ro2)⟩) ⟨MD.out.r3, MD.out.r4, MD.out.r7⟩ ?_
  try simp only [Act.put, List.setIfInBounds_toArray, List.set_cons_zero, List.set_cons_succ]
  refine takeL (i := 11) (v := .agg ([.int .u64 400000, .int .u64 0, .int .i64 (-1)] : List Value).toArray) rfl (by kernel_rfl) (by kernel_rfl) (by kernel_rfl) (fun _ _ _ h => h) (Or.inl ⟨by rfl, fun wz hwz => exec_built wz _ _ _ rfl (by simp only [List.map_toArray, List.map_cons, List.map_nil]; exact built_bu15x)⟩) ⟨MD.out.r3, MD.out.r4, MD.out.r7⟩ ?_
  try simp only [Act.put, List.setIfInBounds_toArray, List.set_cons_zero, List.set_cons_succ]
  refine readyL2 (i := 1) (j := 8) rfl rfl (by kernel_rfl) (by kernel_rfl) (by kernel_rfl) (fun K hK => ?_) (fun K hK => ?_)
  · refine wp_buildOne 30 70 (.tmp 12) rfl (ic15x ga gd) _ 3 56 Tryd.underlying30 info_insx zsz_insx (by omega) (by omega) rfl (by go_simp) ?_
    have hb1 := (Below.refl wd.heap.size wd).alloc (Nat.le_refl _) (.cells (ic15x ga gd).toArray 70)
    have RI1 := Lib.hid (Row.new wd 70 (ic15x ga gd))
    obtain ⟨gi1, hgi1⟩ : ∃ g, g = wd.heap.size := ⟨_, rfl⟩
    have HI1 : Hid (g6 < gi1) := Lib.hid (by rw [hgi1]; exact MD.out.r6.lt)
    rw [← hgi1] at RI1 ⊢
    clear hgi1
    have M1 := Lib.hid (MD.out.below hb1)
    clear hb1
    generalize wd.alloc (.cells (ic15x ga gd).toArray 70) = y1 at *
    refine hK.out _ _ ⟨M1.out.r3, M1.out.r4, M1.out.r7⟩ ?_
    clear hK K
    try simp only [Act.put, List.setIfInBounds_toArray, List.set_cons_zero, List.set_cons_succ]
    refine takeL (i := 2) (v := .agg ((q15x gi1 0).t.q.cells ms15x).toArray) rfl (by kernel_rfl) (by kernel_rfl) (by kernel_rfl) (fun _ _ _ h => h) (Or.inl ⟨by rfl, fun wz hwz => exec_built wz _ _ _ rfl (by simp only [List.map_toArray, List.map_cons, List.map_nil]; exact built_ms15x _)⟩) ⟨M1.out.r3, M1.out.r4, M1.out.r7⟩ ?_
    try simp only [Act.put, List.setIfInBounds_toArray, List.set_cons_zero, List.set_cons_succ]
    refine takeL (i := 3) (v := .agg ((q15x gi1 0).t.cells ⟨[], ms15x⟩).toArray) rfl (by kernel_rfl) (by kernel_rfl) (by kernel_rfl) (fun _ _ _ h => h) (Or.inl ⟨by rfl, fun wz hwz => exec_built wz _ _ _ rfl (by simp only [List.map_toArray, List.map_cons, List.map_nil]; exact built_tx15x _)⟩) ⟨M1.out.r3, M1.out.r4, M1.out.r7⟩ ?_
    try simp only [Act.put, List.setIfInBounds_toArray, List.set_cons_zero, List.set_cons_succ]
    refine readyL (i := 8) rfl (by kernel_rfl) (by kernel_rfl) fun K hK => ?_
    go_simp
    refine (system_ _).mono ?_
    rintro e y2 ⟨rfl, hb2⟩
    have M2 := Lib.hid (M1.out.below hb2)
    have RI2 := Lib.hid (RI1.out.below hb2 RI1.out.lt)
    clear hb2
    refine hK.out _ _ ⟨M2.out.r3, M2.out.r4, M2.out.r7⟩ ?_
    clear hK K
    try simp only [Act.put, List.setIfInBounds_toArray, List.set_cons_zero, List.set_cons_succ]
    refine takeL (i := 9) (v := .agg (LRole.mk k0 false false).cells.toArray) rfl (by kernel_rfl) (by kernel_rfl) (by kernel_rfl) (fun _ _ _ h => h) (Or.inl ⟨by rfl, fun wz hwz => exec_built wz _ _ _ rfl (by simp only [List.map_toArray, List.map_cons, List.map_nil]; exact built_ro3)⟩) ⟨M2.out.r3, M2.out.r4, M2.out.r7⟩ ?_
    try simp only [Act.put, List.setIfInBounds_toArray, List.set_cons_zero, List.set_cons_succ]
    refine readyL (i := 10) rfl (by kernel_rfl) (by kernel_rfl) fun K hK => ?_
    refine wp_buildThree15 36 62 (.tmp 17) (.tmp 19) (.tmp 21) rfl (LRole.mk (kx15 8) true true).cells (LRole.mk (kx15 9) false true).cells (LRole.mk k0 false false).cells _ 34 34 Tryd.underlying36 infoR zszRx (by omega) (by omega) rfl rfl rfl (by go_simp) (by go_simp) (by go_simp) ?_
    have hb3 := (Below.refl y2.heap.size y2).alloc (Nat.le_refl _) (.cells roC15x.toArray 62)
    have RR3 := Lib.hid (Row.new y2 62 roC15x)
    obtain ⟨gr3, hgr3⟩ : ∃ g, g = y2.heap.size := ⟨_, rfl⟩
    have HR3 : Hid (g6 < gr3) := Lib.hid (by rw [hgr3]; exact M2.out.r6.lt)
    rw [← hgr3] at RR3 ⊢
    clear hgr3
    have M3 := Lib.hid (M2.out.below hb3)
    have RI3 := Lib.hid (RI2.out.below hb3 RI2.out.lt)
    clear hb3
    rw [show (LRole.mk (kx15 8) true true).cells ++ ((LRole.mk (kx15 9) false true).cells ++ (LRole.mk k0 false false).cells) = roC15x from rfl]
    generalize y2.alloc (.cells roC15x.toArray 62) = y3 at *
    refine hK.out _ _ ⟨M3.out.r3, M3.out.r4, M3.out.r7⟩ ?_
    clear hK K
    try simp only [Act.put, List.setIfInBounds_toArray, List.set_cons_zero, List.set_cons_succ]
    refine takeL (i := 12) (v := .agg ((q15x gi1 gr3).cells rd15x).toArray) rfl (by kernel_rfl) (by kernel_rfl) (by kernel_rfl) (fun _ _ _ h => h) (Or.inl ⟨by rfl, fun wz hwz => exec_built wz _ _ _ rfl (by simp only [List.map_toArray, List.map_cons, List.map_nil]; exact built_rd15x _ _)⟩) ⟨M3.out.r3, M3.out.r4, M3.out.r7⟩ ?_
    try simp only [Act.put, List.setIfInBounds_toArray, List.set_cons_zero, List.set_cons_succ]
    refine readyL (i := 13) rfl (by kernel_rfl) (by kernel_rfl) fun K hK => ?_
    refine wp_store_whole 41 (.tmp 6) (.tmp 24) rfl g6 zrdC ((q15x gi1 gr3).cells rd15x) M3.out.r6 (size_rdx _ _) rfl (one_rdx _ _) (by go_simp) (by go_simp) (fun w9 hr9 ht9 => ?_)
    have R9 := Lib.hid hr9
    have T9 := Lib.hid ht9
    clear hr9 ht9
    refine hK.out _ _ ⟨T9.out.row M3.out.r3 HGN.out.2.1, T9.out.row M3.out.r4 HGN.out.2.2, T9.out.row M3.out.r7 (by have := H76.out; omega)⟩ ?_
    clear hK K
    try simp only [Act.put]
    refine wpAnyH_done (by kernel_rfl) ?_ _
    go_wp2_with fail
    refine bodyPost_ret (results_cell_row (h := rfl) _ w9 g6 41 _ (0, 0) _ (by rfl) R9.out.is Tryd.underlying41 rfl (size_rdx gi1 gr3)) rfl ?_
    exact ⟨gi1, gr3, rfl, mv_in15 (T9.out.row RI3.out (by have := HI1.out; omega)) (T9.out.row RR3.out (by have := HR3.out; omega)) (T9.out.row M3.out.ra (by have := HAD.out; omega)) (T9.out.row M3.out.rd (by have := HAD.out; omega)), M3.out.b.trans (T9.out.below HGN.out.1)⟩
  · go_simp
    refine (system_ _).mono ?_
    rintro e y4 ⟨rfl, hb4⟩
    have M4 := Lib.hid (MD.out.below hb4)
    clear hb4
    refine hK.out _ _ ⟨M4.out.r3, M4.out.r4, M4.out.r7⟩ ?_
    clear hK K
    try simp only [Act.put, List.setIfInBounds_toArray, List.set_cons_zero, List.set_cons_succ]
    refine takeL (i := 9) (v := .agg (LRole.mk k0 false false).cells.toArray) rfl (by kernel_rfl) (by kernel_rfl) (by kernel_rfl) (fun _ _ _ h => h) (Or.inl ⟨by rfl, fun wz hwz => exec_built wz _ _ _ rfl (by simp only [List.map_toArray, List.map_cons, List.map_nil]; exact built_ro3)⟩) ⟨M4.out.r3, M4.out.r4, M4.out.r7⟩ ?_
    try simp only [Act.put, List.setIfInBounds_toArray, List.set_cons_zero, List.set_cons_succ]
    refine readyL2 (i := 1) (j := 10) rfl rfl (by kernel_rfl) (by kernel_rfl) (by kernel_rfl) (fun K hK => ?_) (fun K hK => ?_)
    · refine wp_buildOne 30 70 (.tmp 12) rfl (ic15x ga gd) _ 3 56 Tryd.underlying30 info_insx zsz_insx (by omega) (by omega) rfl (by go_simp) ?_
      have hb5 := (Below.refl y4.heap.size y4).alloc (Nat.le_refl _) (.cells (ic15x ga gd).toArray 70)
      have RI5 := Lib.hid (Row.new y4 70 (ic15x ga gd))
      obtain ⟨gi5, hgi5⟩ : ∃ g, g = y4.heap.size := ⟨_, rfl⟩
      have HI5 : Hid (g6 < gi5) := Lib.hid (by rw [hgi5]; exact M4.out.r6.lt)
      rw [← hgi5] at RI5 ⊢
      clear hgi5
      have M5 := Lib.hid (M4.out.below hb5)
      clear hb5
      generalize y4.alloc (.cells (ic15x ga gd).toArray 70) = y5 at *
      refine hK.out _ _ ⟨M5.out.r3, M5.out.r4, M5.out.r7⟩ ?_
      clear hK K
      try simp only [Act.put, List.setIfInBounds_toArray, List.set_cons_zero, List.set_cons_succ]
      refine takeL (i := 2) (v := .agg ((q15x gi5 0).t.q.cells ms15x).toArray) rfl (by kernel_rfl) (by kernel_rfl) (by kernel_rfl) (fun _ _ _ h => h) (Or.inl ⟨by rfl, fun wz hwz => exec_built wz _ _ _ rfl (by simp only [List.map_toArray, List.map_cons, List.map_nil]; exact built_ms15x _)⟩) ⟨M5.out.r3, M5.out.r4, M5.out.r7⟩ ?_
      try simp only [Act.put, List.setIfInBounds_toArray, List.set_cons_zero, List.set_cons_succ]
      refine takeL (i := 3) (v := .agg ((q15x gi5 0).t.cells ⟨[], ms15x⟩).toArray) rfl (by kernel_rfl) (by kernel_rfl) (by kernel_rfl) (fun _ _ _ h => h) (Or.inl ⟨by rfl, fun wz hwz => exec_built wz _ _ _ rfl (by simp only [List.map_toArray, List.map_cons, List.map_nil]; exact built_tx15x _)⟩) ⟨M5.out.r3, M5.out.r4, M5.out.r7⟩ ?_
      try simp only [Act.put, List.setIfInBounds_toArray, List.set_cons_zero, List.set_cons_succ]
      refine readyL (i := 10) rfl (by kernel_rfl) (by kernel_rfl) fun K hK => ?_
      refine wp_buildThree15 36 62 (.tmp 17) (.tmp 19) (.tmp 21) rfl (LRole.mk (kx15 8) true true).cells (LRole.mk (kx15 9) false true).cells (LRole.mk k0 false false).cells _ 34 34 Tryd.underlying36 infoR zszRx (by omega) (by omega) rfl rfl rfl (by go_simp) (by go_simp) (by go_simp) ?_
      have hb6 := (Below.refl y5.heap.size y5).alloc (Nat.le_refl _) (.cells roC15x.toArray 62)
      have RR6 := Lib.hid (Row.new y5 62 roC15x)
      obtain ⟨gr6, hgr6⟩ : ∃ g, g = y5.heap.size := ⟨_, rfl⟩
      have HR6 : Hid (g6 < gr6) := Lib.hid (by rw [hgr6]; exact M5.out.r6.lt)
      rw [← hgr6] at RR6 ⊢
      clear hgr6
      have M6 := Lib.hid (M5.out.below hb6)
      have RI6 := Lib.hid (RI5.out.below hb6 RI5.out.lt)
      clear hb6
      rw [show (LRole.mk (kx15 8) true true).cells ++ ((LRole.mk (kx15 9) false true).cells ++ (LRole.mk k0 false false).cells) = roC15x from rfl]
      generalize y5.alloc (.cells roC15x.toArray 62) = y6 at *
      refine hK.out _ _ ⟨M6.out.r3, M6.out.r4, M6.out.r7⟩ ?_
      clear hK K
      try simp only [Act.put, List.setIfInBounds_toArray, List.set_cons_zero, List.set_cons_succ]
      refine takeL (i := 12) (v := .agg ((q15x gi5 gr6).cells rd15x).toArray) rfl (by kernel_rfl) (by kernel_rfl) (by kernel_rfl) (fun _ _ _ h => h) (Or.inl ⟨by rfl, fun wz hwz => exec_built wz _ _ _ rfl (by simp only [List.map_toArray, List.map_cons, List.map_nil]; exact built_rd15x _ _)⟩) ⟨M6.out.r3, M6.out.r4, M6.out.r7⟩ ?_
      try simp only [Act.put, List.setIfInBounds_toArray, List.set_cons_zero, List.set_cons_succ]
      refine readyL (i := 13) rfl (by kernel_rfl) (by kernel_rfl) fun K hK => ?_
      refine wp_store_whole 41 (.tmp 6) (.tmp 24) rfl g6 zrdC ((q15x gi5 gr6).cells rd15x) M6.out.r6 (size_rdx _ _) rfl (one_rdx _ _) (by go_simp) (by go_simp) (fun w9 hr9 ht9 => ?_)
      have R9 := Lib.hid hr9
      have T9 := Lib.hid ht9
      clear hr9 ht9
      refine hK.out _ _ ⟨T9.out.row M6.out.r3 HGN.out.2.1, T9.out.row M6.out.r4 HGN.out.2.2, T9.out.row M6.out.r7 (by have := H76.out; omega)⟩ ?_
      clear hK K
      try simp only [Act.put]
      refine wpAnyH_done (by kernel_rfl) ?_ _
      go_wp2_with fail
      refine bodyPost_ret (results_cell_row (h := rfl) _ w9 g6 41 _ (0, 0) _ (by rfl) R9.out.is Tryd.underlying41 rfl (size_rdx gi5 gr6)) rfl ?_
      exact ⟨gi5, gr6, rfl, mv_in15 (T9.out.row RI6.out (by have := HI5.out; omega)) (T9.out.row RR6.out (by have := HR6.out; omega)) (T9.out.row M6.out.ra (by have := HAD.out; omega)) (T9.out.row M6.out.rd (by have := HAD.out; omega)), M6.out.b.trans (T9.out.below HGN.out.1)⟩
    · refine wp_buildThree15 36 62 (.tmp 17) (.tmp 19) (.tmp 21) rfl (LRole.mk (kx15 8) true true).cells (LRole.mk (kx15 9) false true).cells (LRole.mk k0 false false).cells _ 34 34 Tryd.underlying36 infoR zszRx (by omega) (by omega) rfl rfl rfl (by go_simp) (by go_simp) (by go_simp) ?_
      have hb7 := (Below.refl y4.heap.size y4).alloc (Nat.le_refl _) (.cells roC15x.toArray 62)
      have RR7 := Lib.hid (Row.new y4 62 roC15x)
      obtain ⟨gr7, hgr7⟩ : ∃ g, g = y4.heap.size := ⟨_, rfl⟩
      have HR7 : Hid (g6 < gr7) := Lib.hid (by rw [hgr7]; exact M4.out.r6.lt)
      rw [← hgr7] at RR7 ⊢
      clear hgr7
      have M7 := Lib.hid (M4.out.below hb7)
      clear hb7
      rw [show (LRole.mk (kx15 8) true true).cells ++ ((LRole.mk (kx15 9) false true).cells ++ (LRole.mk k0 false false).cells) = roC15x from rfl]
      generalize y4.alloc (.cells roC15x.toArray 62) = y7 at *
      refine hK.out _ _ ⟨M7.out.r3, M7.out.r4, M7.out.r7⟩ ?_
      clear hK K
      try simp only [Act.put, List.setIfInBounds_toArray, List.set_cons_zero, List.set_cons_succ]
      refine readyL (i := 1) rfl (by kernel_rfl) (by kernel_rfl) fun K hK => ?_
      refine wp_buildOne 30 70 (.tmp 12) rfl (ic15x ga gd) _ 3 56 Tryd.underlying30 info_insx zsz_insx (by omega) (by omega) rfl (by go_simp) ?_
      have hb8 := (Below.refl y7.heap.size y7).alloc (Nat.le_refl _) (.cells (ic15x ga gd).toArray 70)
      have RI8 := Lib.hid (Row.new y7 70 (ic15x ga gd))
      obtain ⟨gi8, hgi8⟩ : ∃ g, g = y7.heap.size := ⟨_, rfl⟩
      have HI8 : Hid (g6 < gi8) := Lib.hid (by rw [hgi8]; exact M7.out.r6.lt)
      rw [← hgi8] at RI8 ⊢
      clear hgi8
      have M8 := Lib.hid (M7.out.below hb8)
      have RR8 := Lib.hid (RR7.out.below hb8 RR7.out.lt)
      clear hb8
      generalize y7.alloc (.cells (ic15x ga gd).toArray 70) = y8 at *
      refine hK.out _ _ ⟨M8.out.r3, M8.out.r4, M8.out.r7⟩ ?_
      clear hK K
      try simp only [Act.put, List.setIfInBounds_toArray, List.set_cons_zero, List.set_cons_succ]
      refine takeL (i := 2) (v := .agg ((q15x gi8 0).t.q.cells ms15x).toArray) rfl (by kernel_rfl) (by kernel_rfl) (by kernel_rfl) (fun _ _ _ h => h) (Or.inl ⟨by rfl, fun wz hwz => exec_built wz _ _ _ rfl (by simp only [List.map_toArray, List.map_cons, List.map_nil]; exact built_ms15x _)⟩) ⟨M8.out.r3, M8.out.r4, M8.out.r7⟩ ?_
      try simp only [Act.put, List.setIfInBounds_toArray, List.set_cons_zero, List.set_cons_succ]
      refine takeL (i := 3) (v := .agg ((q15x gi8 0).t.cells ⟨[], ms15x⟩).toArray) rfl (by kernel_rfl) (by kernel_rfl) (by kernel_rfl) (fun _ _ _ h => h) (Or.inl ⟨by rfl, fun wz hwz => exec_built wz _ _ _ rfl (by simp only [List.map_toArray, List.map_cons, List.map_nil]; exact built_tx15x _)⟩) ⟨M8.out.r3, M8.out.r4, M8.out.r7⟩ ?_
      try simp only [Act.put, List.setIfInBounds_toArray, List.set_cons_zero, List.set_cons_succ]
      refine takeL (i := 12) (v := .agg ((q15x gi8 gr7).cells rd15x).toArray) rfl (by kernel_rfl) (by kernel_rfl) (by kernel_rfl) (fun _ _ _ h => h) (Or.inl ⟨by rfl, fun wz hwz => exec_built wz _ _ _ rfl (by simp only [List.map_toArray, List.map_cons, List.map_nil]; exact built_rd15x _ _)⟩) ⟨M8.out.r3, M8.out.r4, M8.out.r7⟩ ?_
      try simp only [Act.put, List.setIfInBounds_toArray, List.set_cons_zero, List.set_cons_succ]
      refine readyL (i := 13) rfl (by kernel_rfl) (by kernel_rfl) fun K hK => ?_
      refine wp_store_whole 41 (.tmp 6) (.tmp 24) rfl g6 zrdC ((q15x gi8 gr7).cells rd15x) M8.out.r6 (size_rdx _ _) rfl (one_rdx _ _) (by go_simp) (by go_simp) (fun w9 hr9 ht9 => ?_)
      have R9 := Lib.hid hr9
      have T9 := Lib.hid ht9
      clear hr9 ht9
      refine hK.out _ _ ⟨T9.out.row M8.out.r3 HGN.out.2.1, T9.out.row M8.out.r4 HGN.out.2.2, T9.out.row M8.out.r7 (by have := H76.out; omega)⟩ ?_
      clear hK K
      try simp only [Act.put]
      refine wpAnyH_done (by kernel_rfl) ?_ _
      go_wp2_with fail
      refine bodyPost_ret (results_cell_row (h := rfl) _ w9 g6 41 _ (0, 0) _ (by rfl) R9.out.is Tryd.underlying41 rfl (size_rdx gi8 gr7)) rfl ?_
      exact ⟨gi8, gr7, rfl, mv_in15 (T9.out.row RI8.out (by have := HI8.out; omega)) (T9.out.row RR8.out (by have := HR7.out; omega)) (T9.out.row M8.out.ra (by have := HAD.out; omega)) (T9.out.row M8.out.rd (by have := HAD.out; omega)), M8.out.b.trans (T9.out.below HGN.out.1)⟩
end Go.Proofs.YtfaefpniiiandaaDoor

/-
  Of part Prog15: what is needed here.
-/
namespace Go.Proofs.YtfaefpniiiandaaDoor
open Go.RowKit Go.Maps
set_option linter.unusedVariables false
set_option maxRecDepth 100000
theorem k0_key15 : k0.length = 32 ∧ AllBytes k0 := by
  refine ⟨rfl, fun x hx => ?_⟩
  obtain rfl := List.eq_of_mem_replicate (show x ∈ List.replicate 32 0 from hx)
  exact ⟨by decide, by decide⟩
theorem k3_key15 : k3.length = 32 ∧ AllBytes k3 := by
  refine ⟨rfl, fun x hx => ?_⟩
  have h : ∀ y ∈ k3, 0 ≤ y ∧ y < 256 := by decide
  exact h x hx
theorem k0_ne15 : k0 ≠ k3 := by decide
theorem fnE_inv_nil {v : Value} {ps : List MemPlace} (h : fnE v = some (.lit (.int .i64 (-1)), ps)) : v = .nilFunc := by
  unfold fnE at h
  split at h
  · rename_i hx
    injection h with h
    injection h with h _
    injection h with h
    injection h with _ h
    omega
  · split at h
    · assumption
    · cases h
/-- what the map of programs reads as -/
structure PD15 (D : DataW Unit) : Prop where
  at0 : ∀ z, D.atKey (KL k0) z = FnD14 65
  at3 : ∀ z, D.atKey (KL k3) z = FnD14 66
  no : ∀ k, k.length = 32 ∧ AllBytes k → k ≠ k0 → k ≠ k3 → Go.Maps.has D (KL k) = false
theorem pd_a15 : PD15 (((DataW.map []).put (KL k0) (FnD14 65)).put (KL k3) (FnD14 66)) := by
  have hk0 := KL_key k0_key15.1 k0_key15.2
  have hk3 := KL_key k3_key15.1 k3_key15.2
  have hm := (isMap_empty (H := Unit)).put (KL k0) (FnD14 65)
  have ne : KL k0 ≠ KL k3 := fun e => k0_ne15 (KL_inj k0_key15.1 k0_key15.2 k3_key15.1 k3_key15.2 e)
  refine ⟨fun z => ?_, fun z => atKey_put_same hm hk3 _ _, fun k hk h0 h3 => ?_⟩
  · rw [atKey_put_other ne, atKey_put_same isMap_empty hk0]
  · rw [has_put_other (fun e => h3 (KL_inj hk.1 hk.2 k3_key15.1 k3_key15.2 e)), has_put_other (fun e => h0 (KL_inj hk.1 hk.2 k0_key15.1 k0_key15.2 e))]
    rfl
theorem pd_b15 : PD15 (((DataW.map []).put (KL k3) (FnD14 66)).put (KL k0) (FnD14 65)) := by
  have hk0 := KL_key k0_key15.1 k0_key15.2
  have hk3 := KL_key k3_key15.1 k3_key15.2
  have hm := (isMap_empty (H := Unit)).put (KL k3) (FnD14 66)
  have ne : KL k3 ≠ KL k0 := fun e => k0_ne15 (KL_inj k3_key15.1 k3_key15.2 k0_key15.1 k0_key15.2 e).symm
  refine ⟨fun z => atKey_put_same hm hk0 _ _, fun z => ?_, fun k hk h0 h3 => ?_⟩
  · rw [atKey_put_other ne, atKey_put_same isMap_empty hk3]
  · rw [has_put_other (fun e => h0 (KL_inj hk.1 hk.2 k0_key15.1 k0_key15.2 e)), has_put_other (fun e => h3 (KL_inj hk.1 hk.2 k3_key15.1 k3_key15.2 e))]
    rfl
/-- a map of programs in a block -/
def PM15 (w : World) (mb : Nat) : Prop := ∃ n D, w.ownsMap Tryd.prog 57 fnE mb n D ∧ PD15 D
theorem PM15.lt {w : World} {mb : Nat} (h : PM15 w mb) : mb < w.heap.size := by
  obtain ⟨n, D, ⟨es, cl, hm, _⟩, _⟩ := h
  exact (Array.getElem?_eq_some_iff.1 hm).1
theorem PM15.keep {w w' : World} {mb : Nat} (h : PM15 w mb) (h2 : w'.heap[mb]? = w.heap[mb]?) : PM15 w' mb := by
  obtain ⟨n, D, ⟨es, cl, hm, F, hs, hD⟩, had⟩ := h
  exact ⟨n, D, ⟨es, cl, h2.trans hm, F, hs, hD⟩, had⟩
theorem PM15.below {w w' : World} {mb : Nat} (h : PM15 w mb) (hb : Below w.heap.size w w') : PM15 w' mb := h.keep (hb.block _ h.lt)
theorem PM15.row_ne {w : World} {mb g t : Nat} {xs : List Value} (h : PM15 w mb) (hr : Row w g t xs) : g ≠ mb := by
  rintro rfl
  obtain ⟨n, D, ⟨es, cl, hm, _⟩, _⟩ := h
  rw [hr.is] at hm
  cases hm
/-- the program of a key -/
def fnV15 (k : List Int) : Value := if k = k0 then .func (.func 65) #[] #[] else if k = k3 then .func (.func 66) #[] #[] else .nilFunc
theorem zero_fn15 (w : World) : (zeroValue 154).run Tryd.prog w = .ok .nilFunc w := by kernel_rfl
theorem PM15.look {w : World} {mb : Nat} (h : PM15 w mb) {k : List Int} (hk : k.length = 32 ∧ AllBytes k) : (Instr.lookup 124 (.map (some mb)) (.agg (bv k).toArray) true).run Tryd.prog w = .ok (.tuple #[fnV15 k, .bool (decide (k = k0 ∨ k = k3))]) w := by
  obtain ⟨n, D, hown, hd⟩ := h
  obtain ⟨v, ps, hrun, hv⟩ := hown.look_ok key_law Tryd.underlying124 (zero_fn15 w) fnE_nil (KL_is hk.1 hk.2)
  rw [hrun]
  unfold fnV15
  by_cases e0 : k = k0
  · subst e0
    rw [hd.at0] at hv
    rw [fnE_inv hv, has_true_of_atKey hd.at0, if_pos rfl, decide_eq_true (.inl rfl)]
  · by_cases e3 : k = k3
    · subst e3
      rw [hd.at3] at hv
      rw [fnE_inv hv, has_true_of_atKey hd.at3, if_neg e0, if_pos rfl, decide_eq_true (.inr rfl)]
    · have hn := hd.no k hk e0 e3
      rw [atKey_of_not_has hn] at hv
      rw [fnE_inv_nil hv, hn, if_neg e0, if_neg e3, decide_eq_false (by rintro (h | h); exact e0 h; exact e3 h)]
theorem exec_lookup15 {a : Act} {o : Oper} (w : World) (m x : Operand) (hop : o.op = Op.lookup 124 m x true) (b : Nat) (k : List Int) (v : Value) (hm : a.eval m = .map (some b)) (hx : a.eval x = .agg (bv k).toArray)
    (hr : (Instr.lookup 124 (.map (some b)) (.agg (bv k).toArray) true).run Tryd.prog w = .ok v w) : (execOp a.eval o).run Tryd.prog w = .ok (.value v) w := by
  unfold execOp
  simp only [hop, hm, hx, Sem.run_bind, Sem.run_pure, hr, Result.andThen_ok]
theorem wp_makeMap15 {P : Program} {o : Oper} {a : Act} {w w' : World} {K : Act → World → Prop} {Q : Exit → Act → World → Prop} (t : TypeId) (hop : o.op = Op.makeMap t none) {v : Value} (hrun : (Instr.makeMap t none).run P w = .ok v w') (h : K (a.put o.dst v) w') : o.wp P a w K Q := by
  unfold Oper.wp
  simp [execOp, hop, hrun, Result.andThen]
  exact h
theorem wp_insert15 {H : Type} {P : Program} (w : World) {o : Oper} {a : Act} {K : Act → World → Prop} {Q : Exit → Act → World → Prop} (m x v : Operand) (t : TypeId) (hop : o.op = Op.insert t m x v)
    (k e : TypeId) (KK : Keyed P k) (ht : P.underlying t = some (.map k e)) (R : Value → Option (DataW H × List MemPlace)) (b n : Nat) (D : DataW H)
    (hm : a.eval m = .map (some b)) (hown : w.ownsMap P k R b n D) (hn : n < maxLen) (key val : Value) (kl : Lit) (hx : a.eval x = key) (hv : a.eval v = val) (hkey : Go.keyOf P k key = some kl)
    (d : DataW H) (ps : List MemPlace) (hval : R val = some (d, ps))
    (hK : ∀ w', w'.ownsMap P k R b (n + 1) (D.put kl d) → w.grownBy w' (some b) → K (a.put o.dst undef) w') : o.wp P a w K Q := by
  obtain ⟨w', hrun, r1, r2⟩ := hown.update KK ht hn hkey hval
  unfold Oper.wp
  simp [execOp, hop, hm, hx, hv, hrun, Result.andThen]
  exact hK w' r1 r2
theorem own_below15 {k : TypeId} {R : Value → Option (DataW Unit × List MemPlace)} {w w' : World} {b n : Nat} {D : DataW Unit} (h : w.ownsMap Tryd.prog k R b n D) (hb : Below w.heap.size w w') : w'.ownsMap Tryd.prog k R b n D := by
  have hlt := h.lt
  obtain ⟨es, cl, hm, F, hs, hD⟩ := h
  exact ⟨es, cl, (hb.block _ hlt).trans hm, F, hs, hD⟩
set_option maxHeartbeats 8000000 in
theorem programs15 (w : World) : Calls Tryd.prog 50 #[] w fun e w' => ∃ mb, e = .returned (.map (some mb)) ∧ PM15 w' mb ∧ w.heap.size ≤ mb ∧ Below w.heap.size w w' := by
  have hmm : ∀ w, (Instr.makeMap 124 none).run Tryd.prog w = .ok (.map (some w.heap.size)) (w.alloc (.map #[] 0)) := fun w => by first | rfl | kernel_rfl
  go_enter Tryd.func50, Tryd.ntmps50
  go_upto_region 1 with fail
  have B0 := Lib.hid (Below.refl w.heap.size w).drew
  refine wp_region_held_drew (S := fun V => Below w.heap.size w V) (by kernel_rfl) B0.out (fun _ => ?_)
  try dsimp only [List.append]
  obtain ⟨y0, hy0⟩ : ∃ u, u = w.drew := ⟨_, rfl⟩
  rw [← hy0] at B0 ⊢
  clear hy0
  refine readyL2 (i := 0) (j := 1) rfl rfl (by kernel_rfl) (by kernel_rfl) (by kernel_rfl) (fun K hK => ?_) (fun K hK => ?_)
  · have hx := hmm y0
    have H1 := Lib.hid (World.ownsMap_made y0 Tryd.prog 57 fnE)
    have B1 := Lib.hid (B0.out.alloc B0.out.size (.map #[] 0))
    have G1 : Hid (w.heap.size ≤ y0.heap.size) := Lib.hid B0.out.size
    refine wp_makeMap15 124 rfl hx ?_
    clear hx
    obtain ⟨m1, hm1⟩ : ∃ m, m = y0.heap.size := ⟨_, rfl⟩
    rw [← hm1] at H1 G1 ⊢
    clear hm1
    generalize y0.alloc (.map #[] 0) = y1 at *
    refine hK.out _ _ B1.out ?_
    clear hK K
    try simp only [Act.put, List.setIfInBounds_toArray, List.set_cons_zero, List.set_cons_succ]
    refine readyL (i := 1) rfl (by kernel_rfl) (by kernel_rfl) fun K hK => ?_
    go_simp
    refine (system_ _).mono ?_
    rintro e y3 ⟨rfl, hb⟩
    have B3 := Lib.hid (B1.out.trans (hb.mono B1.out.size))
    have H3 := Lib.hid (own_below15 H1.out hb)
    clear hb
    refine hK.out _ _ B3.out ?_
    clear hK K
    try simp only [Act.put, List.setIfInBounds_toArray, List.set_cons_zero, List.set_cons_succ]
    refine readyL2 (i := 2) (j := 3) rfl rfl (by kernel_rfl) (by kernel_rfl) (by kernel_rfl) (fun K hK => ?_) (fun K hK => ?_)
    · refine wp_insert15 _ (.tmp 1) (.tmp 2) (.func 65) 124 rfl 57 154 key_law Tryd.underlying124 fnE m1 0 (DataW.map []) (by go_simp) H3.out (by decide) (.agg (bv k0).toArray) (.func (.func 65) #[] #[]) (KL k0) (by go_simp) (by go_simp) (KL_is k0_key15.1 k0_key15.2) (FnD14 65) [] (fnE_mk _) ?_
      intro y4 ho hg
      have H4 := Lib.hid ho
      have B4 := Lib.hid (B3.out.grown hg B3.out.size (fun k hk => by cases hk; exact G1.out))
      clear ho hg
      refine hK.out _ _ B4.out ?_
      clear hK K
      try simp only [Act.put]
      refine readyL (i := 3) rfl (by kernel_rfl) (by kernel_rfl) fun K hK => ?_
      go_simp
      refine (budget_ _).mono ?_
      rintro e y6 ⟨rfl, hb⟩
      have B6 := Lib.hid (B4.out.trans (hb.mono B4.out.size))
      have H6 := Lib.hid (own_below15 H4.out hb)
      clear hb
      refine hK.out _ _ B6.out ?_
      clear hK K
      try simp only [Act.put, List.setIfInBounds_toArray, List.set_cons_zero, List.set_cons_succ]
      refine readyL (i := 4) rfl (by kernel_rfl) (by kernel_rfl) fun K hK => ?_
      refine wp_insert15 _ (.tmp 1) (.tmp 3) (.func 66) 124 rfl 57 154 key_law Tryd.underlying124 fnE m1 1 ((DataW.map []).put (KL k0) (FnD14 65)) (by go_simp) H6.out (by decide) (.agg (bv k3).toArray) (.func (.func 66) #[] #[]) (KL k3) (by go_simp) (by go_simp) (KL_is k3_key15.1 k3_key15.2) (FnD14 66) [] (fnE_mk _) ?_
      intro y7 ho hg
      have H7 := Lib.hid ho
      have B7 := Lib.hid (B6.out.grown hg B6.out.size (fun k hk => by cases hk; exact G1.out))
      clear ho hg
      refine hK.out _ _ B7.out ?_
      clear hK K
      try simp only [Act.put]
      refine takeL (i := 5) (v := ?_) rfl (by kernel_rfl) (by kernel_rfl) (by kernel_rfl) (fun _ _ _ h => h) (Or.inl ⟨by rfl, ?_⟩) B7.out ?_
      rotate_left
      · intro w hw
        try dsimp only at hw
        go_simp
        try with_reducible rfl
      try simp only [Act.put, List.setIfInBounds_toArray, List.set_cons_zero, List.set_cons_succ]
      refine takeL (i := 6) (v := ?_) rfl (by kernel_rfl) (by kernel_rfl) (by kernel_rfl) (fun _ _ _ h => h) (Or.inl ⟨by rfl, ?_⟩) B7.out ?_
      rotate_left
      · intro w hw
        try dsimp only at hw
        go_simp
        try with_reducible rfl
      try simp only [Act.put, List.setIfInBounds_toArray, List.set_cons_zero]
      refine wpAnyH_done (by kernel_rfl) ?_ _
      go_wp2_with fail
      go_ret
      exact ⟨_, rfl, ⟨_, _, H7.out, pd_a15⟩, G1.out, B7.out⟩
    · go_simp
      refine (budget_ _).mono ?_
      rintro e y5 ⟨rfl, hb⟩
      have B5 := Lib.hid (B3.out.trans (hb.mono B3.out.size))
      have H5 := Lib.hid (own_below15 H3.out hb)
      clear hb
      refine hK.out _ _ B5.out ?_
      clear hK K
      try simp only [Act.put, List.setIfInBounds_toArray, List.set_cons_zero, List.set_cons_succ]
      refine readyL2 (i := 2) (j := 4) rfl rfl (by kernel_rfl) (by kernel_rfl) (by kernel_rfl) (fun K hK => ?_) (fun K hK => ?_)
      · refine wp_insert15 _ (.tmp 1) (.tmp 2) (.func 65) 124 rfl 57 154 key_law Tryd.underlying124 fnE m1 0 (DataW.map []) (by go_simp) H5.out (by decide) (.agg (bv k0).toArray) (.func (.func 65) #[] #[]) (KL k0) (by go_simp) (by go_simp) (KL_is k0_key15.1 k0_key15.2) (FnD14 65) [] (fnE_mk _) ?_
        intro y8 ho hg
        have H8 := Lib.hid ho
        have B8 := Lib.hid (B5.out.grown hg B5.out.size (fun k hk => by cases hk; exact G1.out))
        clear ho hg
        refine hK.out _ _ B8.out ?_
        clear hK K
        try simp only [Act.put]
        refine readyL (i := 4) rfl (by kernel_rfl) (by kernel_rfl) fun K hK => ?_
        refine wp_insert15 _ (.tmp 1) (.tmp 3) (.func 66) 124 rfl 57 154 key_law Tryd.underlying124 fnE m1 1 ((DataW.map []).put (KL k0) (FnD14 65)) (by go_simp) H8.out (by decide) (.agg (bv k3).toArray) (.func (.func 66) #[] #[]) (KL k3) (by go_simp) (by go_simp) (KL_is k3_key15.1 k3_key15.2) (FnD14 66) [] (fnE_mk _) ?_
        intro y10 ho hg
        have H10 := Lib.hid ho
        have B10 := Lib.hid (B8.out.grown hg B8.out.size (fun k hk => by cases hk; exact G1.out))
        clear ho hg
        refine hK.out _ _ B10.out ?_
        clear hK K
        try simp only [Act.put]
        refine takeL (i := 5) (v := ?_) rfl (by kernel_rfl) (by kernel_rfl) (by kernel_rfl) (fun _ _ _ h => h) (Or.inl ⟨by rfl, ?_⟩) B10.out ?_
        rotate_left
        · intro w hw
          try dsimp only at hw
          go_simp
          try with_reducible rfl
        try simp only [Act.put, List.setIfInBounds_toArray, List.set_cons_zero, List.set_cons_succ]
        refine takeL (i := 6) (v := ?_) rfl (by kernel_rfl) (by kernel_rfl) (by kernel_rfl) (fun _ _ _ h => h) (Or.inl ⟨by rfl, ?_⟩) B10.out ?_
        rotate_left
        · intro w hw
          try dsimp only at hw
          go_simp
          try with_reducible rfl
        try simp only [Act.put, List.setIfInBounds_toArray, List.set_cons_zero]
        refine wpAnyH_done (by kernel_rfl) ?_ _
        go_wp2_with fail
        go_ret
        exact ⟨_, rfl, ⟨_, _, H10.out, pd_a15⟩, G1.out, B10.out⟩
      · refine wp_insert15 _ (.tmp 1) (.tmp 3) (.func 66) 124 rfl 57 154 key_law Tryd.underlying124 fnE m1 0 (DataW.map []) (by go_simp) H5.out (by decide) (.agg (bv k3).toArray) (.func (.func 66) #[] #[]) (KL k3) (by go_simp) (by go_simp) (KL_is k3_key15.1 k3_key15.2) (FnD14 66) [] (fnE_mk _) ?_
        intro y9 ho hg
        have H9 := Lib.hid ho
        have B9 := Lib.hid (B5.out.grown hg B5.out.size (fun k hk => by cases hk; exact G1.out))
        clear ho hg
        refine hK.out _ _ B9.out ?_
        clear hK K
        try simp only [Act.put]
        refine readyL (i := 2) rfl (by kernel_rfl) (by kernel_rfl) fun K hK => ?_
        refine wp_insert15 _ (.tmp 1) (.tmp 2) (.func 65) 124 rfl 57 154 key_law Tryd.underlying124 fnE m1 1 ((DataW.map []).put (KL k3) (FnD14 66)) (by go_simp) H9.out (by decide) (.agg (bv k0).toArray) (.func (.func 65) #[] #[]) (KL k0) (by go_simp) (by go_simp) (KL_is k0_key15.1 k0_key15.2) (FnD14 65) [] (fnE_mk _) ?_
        intro y11 ho hg
        have H11 := Lib.hid ho
        have B11 := Lib.hid (B9.out.grown hg B9.out.size (fun k hk => by cases hk; exact G1.out))
        clear ho hg
        refine hK.out _ _ B11.out ?_
        clear hK K
        try simp only [Act.put]
        refine takeL (i := 5) (v := ?_) rfl (by kernel_rfl) (by kernel_rfl) (by kernel_rfl) (fun _ _ _ h => h) (Or.inl ⟨by rfl, ?_⟩) B11.out ?_
        rotate_left
        · intro w hw
          try dsimp only at hw
          go_simp
          try with_reducible rfl
        try simp only [Act.put, List.setIfInBounds_toArray, List.set_cons_zero, List.set_cons_succ]
        refine takeL (i := 6) (v := ?_) rfl (by kernel_rfl) (by kernel_rfl) (by kernel_rfl) (fun _ _ _ h => h) (Or.inl ⟨by rfl, ?_⟩) B11.out ?_
        rotate_left
        · intro w hw
          try dsimp only at hw
          go_simp
          try with_reducible rfl
        try simp only [Act.put, List.setIfInBounds_toArray, List.set_cons_zero]
        refine wpAnyH_done (by kernel_rfl) ?_ _
        go_wp2_with fail
        go_ret
        exact ⟨_, rfl, ⟨_, _, H11.out, pd_b15⟩, G1.out, B11.out⟩
  · go_simp
    refine (system_ _).mono ?_
    rintro e y2 ⟨rfl, hb⟩
    have B2 := Lib.hid (B0.out.trans (hb.mono B0.out.size))
    clear hb
    refine hK.out _ _ B2.out ?_
    clear hK K
    try simp only [Act.put, List.setIfInBounds_toArray, List.set_cons_zero, List.set_cons_succ]
    refine readyL2 (i := 0) (j := 3) rfl rfl (by kernel_rfl) (by kernel_rfl) (by kernel_rfl) (fun K hK => ?_) (fun K hK => ?_)
    · have hx := hmm y2
      have H12 := Lib.hid (World.ownsMap_made y2 Tryd.prog 57 fnE)
      have B12 := Lib.hid (B2.out.alloc B2.out.size (.map #[] 0))
      have G12 : Hid (w.heap.size ≤ y2.heap.size) := Lib.hid B2.out.size
      refine wp_makeMap15 124 rfl hx ?_
      clear hx
      obtain ⟨m12, hm12⟩ : ∃ m, m = y2.heap.size := ⟨_, rfl⟩
      rw [← hm12] at H12 G12 ⊢
      clear hm12
      generalize y2.alloc (.map #[] 0) = y12 at *
      refine hK.out _ _ B12.out ?_
      clear hK K
      try simp only [Act.put, List.setIfInBounds_toArray, List.set_cons_zero, List.set_cons_succ]
      refine readyL2 (i := 2) (j := 3) rfl rfl (by kernel_rfl) (by kernel_rfl) (by kernel_rfl) (fun K hK => ?_) (fun K hK => ?_)
      · refine wp_insert15 _ (.tmp 1) (.tmp 2) (.func 65) 124 rfl 57 154 key_law Tryd.underlying124 fnE m12 0 (DataW.map []) (by go_simp) H12.out (by decide) (.agg (bv k0).toArray) (.func (.func 65) #[] #[]) (KL k0) (by go_simp) (by go_simp) (KL_is k0_key15.1 k0_key15.2) (FnD14 65) [] (fnE_mk _) ?_
        intro y14 ho hg
        have H14 := Lib.hid ho
        have B14 := Lib.hid (B12.out.grown hg B12.out.size (fun k hk => by cases hk; exact G12.out))
        clear ho hg
        refine hK.out _ _ B14.out ?_
        clear hK K
        try simp only [Act.put]
        refine readyL (i := 3) rfl (by kernel_rfl) (by kernel_rfl) fun K hK => ?_
        go_simp
        refine (budget_ _).mono ?_
        rintro e y16 ⟨rfl, hb⟩
        have B16 := Lib.hid (B14.out.trans (hb.mono B14.out.size))
        have H16 := Lib.hid (own_below15 H14.out hb)
        clear hb
        refine hK.out _ _ B16.out ?_
        clear hK K
        try simp only [Act.put, List.setIfInBounds_toArray, List.set_cons_zero, List.set_cons_succ]
        refine readyL (i := 4) rfl (by kernel_rfl) (by kernel_rfl) fun K hK => ?_
        refine wp_insert15 _ (.tmp 1) (.tmp 3) (.func 66) 124 rfl 57 154 key_law Tryd.underlying124 fnE m12 1 ((DataW.map []).put (KL k0) (FnD14 65)) (by go_simp) H16.out (by decide) (.agg (bv k3).toArray) (.func (.func 66) #[] #[]) (KL k3) (by go_simp) (by go_simp) (KL_is k3_key15.1 k3_key15.2) (FnD14 66) [] (fnE_mk _) ?_
        intro y17 ho hg
        have H17 := Lib.hid ho
        have B17 := Lib.hid (B16.out.grown hg B16.out.size (fun k hk => by cases hk; exact G12.out))
        clear ho hg
        refine hK.out _ _ B17.out ?_
        clear hK K
        try simp only [Act.put]
        refine takeL (i := 5) (v := ?_) rfl (by kernel_rfl) (by kernel_rfl) (by kernel_rfl) (fun _ _ _ h => h) (Or.inl ⟨by rfl, ?_⟩) B17.out ?_
        rotate_left
        · intro w hw
          try dsimp only at hw
          go_simp
          try with_reducible rfl
        try simp only [Act.put, List.setIfInBounds_toArray, List.set_cons_zero, List.set_cons_succ]
        refine takeL (i := 6) (v := ?_) rfl (by kernel_rfl) (by kernel_rfl) (by kernel_rfl) (fun _ _ _ h => h) (Or.inl ⟨by rfl, ?_⟩) B17.out ?_
        rotate_left
        · intro w hw
          try dsimp only at hw
          go_simp
          try with_reducible rfl
        try simp only [Act.put, List.setIfInBounds_toArray, List.set_cons_zero]
        refine wpAnyH_done (by kernel_rfl) ?_ _
        go_wp2_with fail
        go_ret
        exact ⟨_, rfl, ⟨_, _, H17.out, pd_a15⟩, G12.out, B17.out⟩
      · go_simp
        refine (budget_ _).mono ?_
        rintro e y15 ⟨rfl, hb⟩
        have B15 := Lib.hid (B12.out.trans (hb.mono B12.out.size))
        have H15 := Lib.hid (own_below15 H12.out hb)
        clear hb
        refine hK.out _ _ B15.out ?_
        clear hK K
        try simp only [Act.put, List.setIfInBounds_toArray, List.set_cons_zero, List.set_cons_succ]
        refine readyL2 (i := 2) (j := 4) rfl rfl (by kernel_rfl) (by kernel_rfl) (by kernel_rfl) (fun K hK => ?_) (fun K hK => ?_)
        · refine wp_insert15 _ (.tmp 1) (.tmp 2) (.func 65) 124 rfl 57 154 key_law Tryd.underlying124 fnE m12 0 (DataW.map []) (by go_simp) H15.out (by decide) (.agg (bv k0).toArray) (.func (.func 65) #[] #[]) (KL k0) (by go_simp) (by go_simp) (KL_is k0_key15.1 k0_key15.2) (FnD14 65) [] (fnE_mk _) ?_
          intro y18 ho hg
          have H18 := Lib.hid ho
          have B18 := Lib.hid (B15.out.grown hg B15.out.size (fun k hk => by cases hk; exact G12.out))
          clear ho hg
          refine hK.out _ _ B18.out ?_
          clear hK K
          try simp only [Act.put]
          refine readyL (i := 4) rfl (by kernel_rfl) (by kernel_rfl) fun K hK => ?_
          refine wp_insert15 _ (.tmp 1) (.tmp 3) (.func 66) 124 rfl 57 154 key_law Tryd.underlying124 fnE m12 1 ((DataW.map []).put (KL k0) (FnD14 65)) (by go_simp) H18.out (by decide) (.agg (bv k3).toArray) (.func (.func 66) #[] #[]) (KL k3) (by go_simp) (by go_simp) (KL_is k3_key15.1 k3_key15.2) (FnD14 66) [] (fnE_mk _) ?_
          intro y20 ho hg
          have H20 := Lib.hid ho
          have B20 := Lib.hid (B18.out.grown hg B18.out.size (fun k hk => by cases hk; exact G12.out))
          clear ho hg
          refine hK.out _ _ B20.out ?_
          clear hK K
          try simp only [Act.put]
          refine takeL (i := 5) (v := ?_) rfl (by kernel_rfl) (by kernel_rfl) (by kernel_rfl) (fun _ _ _ h => h) (Or.inl ⟨by rfl, ?_⟩) B20.out ?_
          rotate_left
          · intro w hw
            try dsimp only at hw
            go_simp
            try with_reducible rfl
          try simp only [Act.put, List.setIfInBounds_toArray, List.set_cons_zero, List.set_cons_succ]
          refine takeL (i := 6) (v := ?_) rfl (by kernel_rfl) (by kernel_rfl) (by kernel_rfl) (fun _ _ _ h => h) (Or.inl ⟨by rfl, ?_⟩) B20.out ?_
          rotate_left
          · intro w hw
            try dsimp only at hw
            go_simp
            try with_reducible rfl
          try simp only [Act.put, List.setIfInBounds_toArray, List.set_cons_zero]
          refine wpAnyH_done (by kernel_rfl) ?_ _
          go_wp2_with fail
          go_ret
          exact ⟨_, rfl, ⟨_, _, H20.out, pd_a15⟩, G12.out, B20.out⟩
        · refine wp_insert15 _ (.tmp 1) (.tmp 3) (.func 66) 124 rfl 57 154 key_law Tryd.underlying124 fnE m12 0 (DataW.map []) (by go_simp) H15.out (by decide) (.agg (bv k3).toArray) (.func (.func 66) #[] #[]) (KL k3) (by go_simp) (by go_simp) (KL_is k3_key15.1 k3_key15.2) (FnD14 66) [] (fnE_mk _) ?_
          intro y19 ho hg
          have H19 := Lib.hid ho
          have B19 := Lib.hid (B15.out.grown hg B15.out.size (fun k hk => by cases hk; exact G12.out))
          clear ho hg
          refine hK.out _ _ B19.out ?_
          clear hK K
          try simp only [Act.put]
          refine readyL (i := 2) rfl (by kernel_rfl) (by kernel_rfl) fun K hK => ?_
          refine wp_insert15 _ (.tmp 1) (.tmp 2) (.func 65) 124 rfl 57 154 key_law Tryd.underlying124 fnE m12 1 ((DataW.map []).put (KL k3) (FnD14 66)) (by go_simp) H19.out (by decide) (.agg (bv k0).toArray) (.func (.func 65) #[] #[]) (KL k0) (by go_simp) (by go_simp) (KL_is k0_key15.1 k0_key15.2) (FnD14 65) [] (fnE_mk _) ?_
          intro y21 ho hg
          have H21 := Lib.hid ho
          have B21 := Lib.hid (B19.out.grown hg B19.out.size (fun k hk => by cases hk; exact G12.out))
          clear ho hg
          refine hK.out _ _ B21.out ?_
          clear hK K
          try simp only [Act.put]
          refine takeL (i := 5) (v := ?_) rfl (by kernel_rfl) (by kernel_rfl) (by kernel_rfl) (fun _ _ _ h => h) (Or.inl ⟨by rfl, ?_⟩) B21.out ?_
          rotate_left
          · intro w hw
            try dsimp only at hw
            go_simp
            try with_reducible rfl
          try simp only [Act.put, List.setIfInBounds_toArray, List.set_cons_zero, List.set_cons_succ]
          refine takeL (i := 6) (v := ?_) rfl (by kernel_rfl) (by kernel_rfl) (by kernel_rfl) (fun _ _ _ h => h) (Or.inl ⟨by rfl, ?_⟩) B21.out ?_
          rotate_left
          · intro w hw
            try dsimp only at hw
            go_simp
            try with_reducible rfl
          try simp only [Act.put, List.setIfInBounds_toArray, List.set_cons_zero]
          refine wpAnyH_done (by kernel_rfl) ?_ _
          go_wp2_with fail
          go_ret
          exact ⟨_, rfl, ⟨_, _, H21.out, pd_b15⟩, G12.out, B21.out⟩
    · go_simp
      refine (budget_ _).mono ?_
      rintro e y13 ⟨rfl, hb⟩
      have B13 := Lib.hid (B2.out.trans (hb.mono B2.out.size))
      clear hb
      refine hK.out _ _ B13.out ?_
      clear hK K
      try simp only [Act.put, List.setIfInBounds_toArray, List.set_cons_zero, List.set_cons_succ]
      refine readyL (i := 0) rfl (by kernel_rfl) (by kernel_rfl) fun K hK => ?_
      have hx := hmm y13
      have H22 := Lib.hid (World.ownsMap_made y13 Tryd.prog 57 fnE)
      have B22 := Lib.hid (B13.out.alloc B13.out.size (.map #[] 0))
      have G22 : Hid (w.heap.size ≤ y13.heap.size) := Lib.hid B13.out.size
      refine wp_makeMap15 124 rfl hx ?_
      clear hx
      obtain ⟨m22, hm22⟩ : ∃ m, m = y13.heap.size := ⟨_, rfl⟩
      rw [← hm22] at H22 G22 ⊢
      clear hm22
      generalize y13.alloc (.map #[] 0) = y22 at *
      refine hK.out _ _ B22.out ?_
      clear hK K
      try simp only [Act.put, List.setIfInBounds_toArray, List.set_cons_zero, List.set_cons_succ]
      refine readyL2 (i := 2) (j := 4) rfl rfl (by kernel_rfl) (by kernel_rfl) (by kernel_rfl) (fun K hK => ?_) (fun K hK => ?_)
      · refine wp_insert15 _ (.tmp 1) (.tmp 2) (.func 65) 124 rfl 57 154 key_law Tryd.underlying124 fnE m22 0 (DataW.map []) (by go_simp) H22.out (by decide) (.agg (bv k0).toArray) (.func (.func 65) #[] #[]) (KL k0) (by go_simp) (by go_simp) (KL_is k0_key15.1 k0_key15.2) (FnD14 65) [] (fnE_mk _) ?_
        intro y23 ho hg
        have H23 := Lib.hid ho
        have B23 := Lib.hid (B22.out.grown hg B22.out.size (fun k hk => by cases hk; exact G22.out))
        clear ho hg
        refine hK.out _ _ B23.out ?_
        clear hK K
        try simp only [Act.put]
        refine readyL (i := 4) rfl (by kernel_rfl) (by kernel_rfl) fun K hK => ?_
        refine wp_insert15 _ (.tmp 1) (.tmp 3) (.func 66) 124 rfl 57 154 key_law Tryd.underlying124 fnE m22 1 ((DataW.map []).put (KL k0) (FnD14 65)) (by go_simp) H23.out (by decide) (.agg (bv k3).toArray) (.func (.func 66) #[] #[]) (KL k3) (by go_simp) (by go_simp) (KL_is k3_key15.1 k3_key15.2) (FnD14 66) [] (fnE_mk _) ?_
        intro y25 ho hg
        have H25 := Lib.hid ho
        have B25 := Lib.hid (B23.out.grown hg B23.out.size (fun k hk => by cases hk; exact G22.out))
        clear ho hg
        refine hK.out _ _ B25.out ?_
        clear hK K
        try simp only [Act.put]
        refine takeL (i := 5) (v := ?_) rfl (by kernel_rfl) (by kernel_rfl) (by kernel_rfl) (fun _ _ _ h => h) (Or.inl ⟨by rfl, ?_⟩) B25.out ?_
        rotate_left
        · intro w hw
          try dsimp only at hw
          go_simp
          try with_reducible rfl
        try simp only [Act.put, List.setIfInBounds_toArray, List.set_cons_zero, List.set_cons_succ]
        refine takeL (i := 6) (v := ?_) rfl (by kernel_rfl) (by kernel_rfl) (by kernel_rfl) (fun _ _ _ h => h) (Or.inl ⟨by rfl, ?_⟩) B25.out ?_
        rotate_left
        · intro w hw
          try dsimp only at hw
          go_simp
          try with_reducible rfl
        try simp only [Act.put, List.setIfInBounds_toArray, List.set_cons_zero]
        refine wpAnyH_done (by kernel_rfl) ?_ _
        go_wp2_with fail
        go_ret
        exact ⟨_, rfl, ⟨_, _, H25.out, pd_a15⟩, G22.out, B25.out⟩
      · refine wp_insert15 _ (.tmp 1) (.tmp 3) (.func 66) 124 rfl 57 154 key_law Tryd.underlying124 fnE m22 0 (DataW.map []) (by go_simp) H22.out (by decide) (.agg (bv k3).toArray) (.func (.func 66) #[] #[]) (KL k3) (by go_simp) (by go_simp) (KL_is k3_key15.1 k3_key15.2) (FnD14 66) [] (fnE_mk _) ?_
        intro y24 ho hg
        have H24 := Lib.hid ho
        have B24 := Lib.hid (B22.out.grown hg B22.out.size (fun k hk => by cases hk; exact G22.out))
        clear ho hg
        refine hK.out _ _ B24.out ?_
        clear hK K
        try simp only [Act.put]
        refine readyL (i := 2) rfl (by kernel_rfl) (by kernel_rfl) fun K hK => ?_
        refine wp_insert15 _ (.tmp 1) (.tmp 2) (.func 65) 124 rfl 57 154 key_law Tryd.underlying124 fnE m22 1 ((DataW.map []).put (KL k3) (FnD14 66)) (by go_simp) H24.out (by decide) (.agg (bv k0).toArray) (.func (.func 65) #[] #[]) (KL k0) (by go_simp) (by go_simp) (KL_is k0_key15.1 k0_key15.2) (FnD14 65) [] (fnE_mk _) ?_
        intro y26 ho hg
        have H26 := Lib.hid ho
        have B26 := Lib.hid (B24.out.grown hg B24.out.size (fun k hk => by cases hk; exact G22.out))
        clear ho hg
        refine hK.out _ _ B26.out ?_
        clear hK K
        try simp only [Act.put]
        refine takeL (i := 5) (v := ?_) rfl (by kernel_rfl) (by kernel_rfl) (by kernel_rfl) (fun _ _ _ h => h) (Or.inl ⟨by rfl, ?_⟩) B26.out ?_
        rotate_left
        · intro w hw
          try dsimp only at hw
          go_simp
          try with_reducible rfl
        try simp only [Act.put, List.setIfInBounds_toArray, List.set_cons_zero, List.set_cons_succ]
        refine takeL (i := 6) (v := ?_) rfl (by kernel_rfl) (by kernel_rfl) (by kernel_rfl) (fun _ _ _ h => h) (Or.inl ⟨by rfl, ?_⟩) B26.out ?_
        rotate_left
        · intro w hw
          try dsimp only at hw
          go_simp
          try with_reducible rfl
        try simp only [Act.put, List.setIfInBounds_toArray, List.set_cons_zero]
        refine wpAnyH_done (by kernel_rfl) ?_ _
        go_wp2_with fail
        go_ret
        exact ⟨_, rfl, ⟨_, _, H26.out, pd_b15⟩, G22.out, B26.out⟩
/-- Budget's program does nothing -/
theorem budget15 (v : Value) (q : List Value) (w : World) : Calls Tryd.prog 66 #[v, .agg q.toArray] w fun e w' => e = .returned .nilIface ∧ Below w.heap.size w w' := by
  go_enter Tryd.func66, Tryd.ntmps66
  go_wp2_with fail
  go_ret
  exact ⟨rfl, (Below.refl w.heap.size w).alloc (Nat.le_refl _) _⟩
end Go.Proofs.YtfaefpniiiandaaDoor
