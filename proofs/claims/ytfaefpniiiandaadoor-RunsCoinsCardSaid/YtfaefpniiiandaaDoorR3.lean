/-
  Parts joined: Store13 Lives6 Known Math15 Of7 RefChg15 Out15 Lives7 With8 Bad8 SysRead14 SysRdMath14.
-/
import Derived.Below
import Derived.Laws.OwnMore
import Derived.Deep.AppendLies
import Derived.Deep.Draws
import Derived.Lib.Hide
import Derived.Laws.MakeOwn
import Derived.Laws.CopyOwn
import Derived.Laws.Rows
import Derived.Laws.BitsAllLaws
import Derived.WalkKit
import Derived.Test.YtfaefpniiiandaaDoorRows
import Derived.WalkSpells
import Derived.WalkLawsBesides
import Derived.IntWalk
import Derived.Deep.MidRow
import Derived.Deep.WholeRow
import Derived.Maps.AppendAt
import Derived.OwnWalk
import Derived.Great.BuildSlice
import Derived.Recover
import Derived.Deep.RegionHeld
import Derived.Deep.QuietTactic
import Derived.BigQuiet
import Derived.ChangeKeysEq
import Derived.Deep.RegionHeld2
import Derived.Deep.CutBlock
import Derived.Laws.Tables
import Derived.ProofKit
import Derived.OpenShut
import Derived.ShutString
import Derived.ChangeOld
import Derived.Lib.SmallJoins
import Derived.Deep.Slices
import Derived.Deep.Strs
import Derived.SizedLaws
import Derived.Laws.StructEq
import Derived.Laws.Slices
import Derived.Deep.DeepCutAuto
import Derived.Maps.OwnSet
import Derived.DeepKeys4
import Derived.WideKeyArr
import Derived.Laws.EntriesVeiled
import Derived.Deep.RegionHeld3
import Derived.WideKeyEntry
import Derived.WalkMore
import Derived.Maps.RangeWalk
import Derived.Shelf.SlMaps.Clone
import Derived.Laws.Append
import Derived.Laws.AppendOwn
import Derived.LaidMore
import Derived.Test.YtfaefpniiiandaaDoorR1
import Derived.Test.YtfaefpniiiandaaDoorR2
/-
  Of part Store13: what is needed here.
-/
namespace Go.Proofs.YtfaefpniiiandaaDoor
open Go.RowKit Go.Maps
set_option linter.unusedVariables false
set_option maxRecDepth 100000
/-- the keys of accounts -/
def ks13 (L : List LHold) : List (List Int) := L.map LHold.k
theorem mem_ks13 {L : List LHold} {k : List Int} : k ∈ ks13 L ↔ ∃ x ∈ L, x.k = k := by simp [ks13]
theorem ks13_len (L : List LHold) : (ks13 L).length = L.length := List.length_map _
theorem ks13_nodup : ∀ {L : List LHold}, (L.Pairwise fun x y => kless x.k y.k = true) → (ks13 L).Nodup
  | [], _ => List.nodup_nil
  | x :: r, h => by
    obtain ⟨h1, h2⟩ := List.pairwise_cons.1 h
    refine List.nodup_cons.2 ⟨fun hm => ?_, ks13_nodup h2⟩
    obtain ⟨y, hy, e⟩ := mem_ks13.1 hm
    exact kless_ne (h1 y hy) e.symm
theorem getH_in {L : List LHold} {k : List Int} : (k ∈ ks13 L → ⟨k, getH L k⟩ ∈ L) ∧ (k ∉ ks13 L → getH L k = blank13) := by
  rcases getH_cases L k with ⟨h1, h2⟩ | h1
  · exact ⟨fun hm => by obtain ⟨x, hx, e⟩ := mem_ks13.1 hm; exact absurd e (h1 x hx), fun _ => h2⟩
  · exact ⟨fun _ => h1, fun hm => absurd (mem_ks13.2 ⟨_, h1, rfl⟩) hm⟩
theorem AD.swap {D : DataW Unit} {ks ks' : List (List Int)} {f f' : List Int → LAcc} (h : AD D ks f) (hd : ks'.Nodup) (hm : ∀ x, x ∈ ks' ↔ x ∈ ks) (hf : ∀ x ∈ ks, f' x = f x) : AD D ks' f' := by
  refine ⟨h.tidy, fun kl => ?_, fun k hk z => ?_, hd, fun k hk => ?_, ?_⟩
  · rw [h.has]
    constructor
    · rintro ⟨x, hx, rfl⟩; exact ⟨x, (hm x).2 hx, rfl⟩
    · rintro ⟨x, hx, rfl⟩; exact ⟨x, (hm x).1 hx, rfl⟩
  · rw [hf k ((hm k).1 hk)]
    exact h.at_ k ((hm k).1 hk) z
  · rw [hf k ((hm k).1 hk)]
    exact h.ok k ((hm k).1 hk)
  · rw [h.size]
    exact ((List.perm_ext_iff_of_nodup h.nodup hd).2 fun x => (hm x).symm).length_eq
theorem owns_tight {H : Type} {P : Program} {k : TypeId} {R : Value → Option (DataW H × List MemPlace)} {w : World} {b n : Nat} {D : DataW H} (h : w.ownsMap P k R b n D) : w.ownsMap P k R b (Go.Maps.size D) D := by
  obtain ⟨es, clock, hb, F, hs, rfl⟩ := h
  exact ⟨es, clock, hb, F, by simp [Go.Maps.size, length_sorted], rfl⟩
/-- a store in a block of its own, with its map -/
structure StIn (w : World) (sb mb : Nat) (L : List LHold) : Prop where
  row : Row w sb 109 [.map (some mb)]
  map : ∃ D, w.ownsMap Tryd.prog 57 accE mb L.length D ∧ AD D (ks13 L) (getH L)
  sto : Sto L
theorem StIn.keep {w w' : World} {sb mb : Nat} {L : List LHold} (h : StIn w sb mb L) (h1 : w'.heap[sb]? = w.heap[sb]?) (h2 : w'.heap[mb]? = w.heap[mb]?) : StIn w' sb mb L := by
  obtain ⟨D, ⟨es, cl, hm, F, hs, hD⟩, had⟩ := h.map
  exact ⟨⟨h1.trans h.row.is⟩, ⟨D, ⟨es, cl, h2.trans hm, F, hs, hD⟩, had⟩, h.sto⟩
theorem StIn.heap {w : World} {sb mb : Nat} {L : List LHold} (h : StIn w sb mb L) : ∃ es cl, w.heap[mb]? = some (.map es cl) := by
  obtain ⟨D, ⟨es, cl, hm, _⟩, _⟩ := h.map
  exact ⟨es, cl, hm⟩
theorem StIn.lt {w : World} {sb mb : Nat} {L : List LHold} (h : StIn w sb mb L) : sb < w.heap.size ∧ mb < w.heap.size := by
  obtain ⟨es, cl, hm⟩ := h.heap
  exact ⟨h.row.lt, (Array.getElem?_eq_some_iff.1 hm).1⟩
theorem StIn.below {w w' : World} {sb mb : Nat} {L : List LHold} (h : StIn w sb mb L) (hb : Below w.heap.size w w') : StIn w' sb mb L := h.keep (hb.block _ h.lt.1) (hb.block _ h.lt.2)
theorem StIn.row_ne {w : World} {sb mb g t : Nat} {L : List LHold} {xs : List Value} (h : StIn w sb mb L) (hr : Row w g t xs) : g ≠ mb := by
  rintro rfl
  obtain ⟨es, cl, hm⟩ := h.heap
  rw [hr.is] at hm
  cases hm
theorem StIn.ne {w : World} {sb mb : Nat} {L : List LHold} (h : StIn w sb mb L) : sb ≠ mb := h.row_ne h.row
theorem neq_map13 (w : World) (r : Option Nat) : (binOp .neq 107 (.map r) (.map none)).run Tryd.prog w = .ok (.bool (!r.isNone)) w := run_neq_map_nil w _ _ _ r Tryd.underlying107
set_option maxHeartbeats 400000 in
theorem there13 (sb mb : Nat) (L : List LHold) (w : World) (h : StIn w sb mb L) : Calls Tryd.prog 36 #[.pointer (some ⟨sb, 0, none⟩)] w fun e w' => e = .returned (.bool true) ∧ w = w' := by
  have hm := neq_map13
  have c0 : w.cell? ⟨sb, 0, none⟩ = some (.map (some mb)) := h.row.cell 0
  clear h
  go_enter Tryd.func36, Tryd.ntmps36
  go_wp2_with fail
  go_ret
  exact ⟨rfl, rfl⟩
theorem st_new {W : World} {sb mb n : Nat} {D : DataW Unit} {L : List LHold} (hr : Row W sb 109 [.map (some mb)]) (ho : W.ownsMap Tryd.prog 57 accE mb n D) (ha : AD D (ks13 L) (getH L)) (hs : Sto L) : StIn W sb mb L := by
  have h1 := owns_tight ho
  rw [ha.size, ks13_len] at h1
  exact ⟨hr, ⟨D, h1, ha⟩, hs⟩
set_option maxHeartbeats 400000 in
theorem new13 (w : World) : Calls Tryd.prog 27 #[] w fun e w' => ∃ sb mb, e = .returned (.pointer (some ⟨sb, 0, none⟩)) ∧ StIn w' sb mb [] ∧ w.heap.size ≤ sb ∧ w.heap.size ≤ mb ∧ Below w.heap.size w w' := by
  have hmm := @run_makeMap Tryd.prog
  have HR : Hid (StIn ((w.alloc (.map #[] 0)).alloc (.cells #[.map (some w.heap.size)] 109)) (w.heap.size + 1) w.heap.size []) := Lib.hid
    (st_new (Row.new' _ 109 [.map (some w.heap.size)] (by simp)) ((World.ownsMap_made w Tryd.prog 57 accE).kept (World.grownBy_alloc _ _ none) (by simp)) (ad_nil _) sto_nil)
  have HB := Lib.hid (((Below.refl w.heap.size w).alloc (Nat.le_refl _) (.map #[] 0)).alloc (by simp) (.cells #[.map (some w.heap.size)] 109))
  go_enter Tryd.func27, Tryd.ntmps27
  go_wp2_with fail
  go_ret
  exact ⟨_, _, rfl, HR.out, Nat.le_succ _, Nat.le_refl _, HB.out⟩
/-- 'm[k]', of a store -/
theorem StIn.look {w : World} {sb mb : Nat} {L : List LHold} (h : StIn w sb mb L) {k : List Int} (hk : k.length = 32 ∧ AllBytes k) : (Instr.lookup 107 (.map (some mb)) (.agg (bv k).toArray) false).run Tryd.prog w = .ok (.agg (getH L k).cells.toArray) w := by
  obtain ⟨D, ho, ha⟩ := h.map
  rw [acc_lookup ho ha hk]
  split
  · rfl
  · rename_i hn
    rw [getH_in.2 hn]
theorem exec_lookup13 {a : Act} {o : Oper} (w : World) (m x : Operand) (hop : o.op = Op.lookup 107 m x false) (b : Nat) (k : List Int) (v : Value) (hm : a.eval m = .map (some b)) (hx : a.eval x = .agg (bv k).toArray)
    (hr : (Instr.lookup 107 (.map (some b)) (.agg (bv k).toArray) false).run Tryd.prog w = .ok v w) : (execOp a.eval o).run Tryd.prog w = .ok (.value v) w := by
  unfold execOp
  simp only [hop, hm, hx, Sem.run_bind, Sem.run_pure, hr, Result.andThen_ok]
set_option maxHeartbeats 4000000 in
theorem get13 (sb mb : Nat) (L : List LHold) (k : List Int) (w : World) (h : StIn w sb mb L) (hk : k.length = 32 ∧ AllBytes k) : Calls Tryd.prog 14 #[.pointer (some ⟨sb, 0, none⟩), .agg (bv k).toArray] w fun e w' => e = .returned (.agg (getH L k).cells.toArray) ∧ Below w.heap.size w w' := by
  have hbw := ((Below.refl w.heap.size w).alloc (Nat.le_refl _) (.cells (bv k).toArray 57)).alloc (by simp) (.cells blank13.cells.toArray 59)
  have S0 := Lib.hid (h.below hbw)
  have RX0 := Lib.hid ((Row.new w 57 (bv k)).alloc (.cells blank13.cells.toArray 59))
  have RF0 := Lib.hid (Row.new' (w.alloc (.cells (bv k).toArray 57)) 59 blank13.cells (g := w.heap.size + 1) (by simp))
  have HSZ : Hid ((Tryd.prog.info? 57).map (·.size) = some (bv k).length) := Lib.hid (by rw [size_key, bv_length, hk.1])
  have HGA := Lib.hid (h.sto.get_ok k)
  have HSA := Lib.hid (size_acc HGA.out.o.1)
  have HLA : Hid (blank13.cells.length = (getH L k).cells.length) := Lib.hid (by rw [acc_len HGA.out.o.1]; rfl)
  have HBW := Lib.hid hbw
  have HK := Lib.hid hk
  have H0 := Lib.hid h
  have HGF : Hid (w.heap.size ≠ w.heap.size + 1) := Lib.hid (by omega)
  obtain ⟨f, hf⟩ : ∃ f, f = w.heap.size + 1 := ⟨_, rfl⟩
  obtain ⟨g, hg⟩ : ∃ g, g = w.heap.size := ⟨_, rfl⟩
  have HF : Hid (w.heap.size + 1 = f) := Lib.hid hf.symm
  have HG : Hid (w.heap.size = g) := Lib.hid hg.symm
  have HFG : Hid (w.heap.size ≤ f) := Lib.hid (by omega)
  rw [← hf] at RF0 HGF
  rw [← hg] at RX0 HGF
  generalize hWW : (w.alloc (.cells (bv k).toArray 57)).alloc (.cells blank13.cells.toArray 59) = W at *
  have HWW := Lib.hid hWW
  clear hWW hf hg hbw h hk
  have HT := Lib.hid (there13 sb mb L W S0.out)
  generalize hGL : getH L k = y at *
  have HGL := Lib.hid hGL
  clear hGL
  go_enter Tryd.func14, Tryd.ntmps14
  go_wp2_with ((with_reducible show wpList _ _ _ ({ dst := some 4, op := Op.alloc _, type := _, pos := _, after := _, guard := _ } :: _) _ _); go_must (refine wpList_alloc_zero rfl 59 rfl blank13.cells zero_acc ?_))
  rw [HF.out, HG.out, HWW.out]
  clear HF HG HWW
  refine HT.out.mono ?_
  rintro e w' ⟨rfl, rfl⟩
  clear HT
  go_wp2_with fail
  have HB0 := Lib.hid (show Below w.heap.size w W.drew from HBW.out.drew)
  have RX1 := Lib.hid RX0.out.drew
  refine wp_region_held_drew (S := (fun V => Below w.heap.size w V ∧ Row V g 57 (bv k))) (by kernel_rfl) ⟨HB0.out, RX1.out⟩ (fun _ => ?_)
  refine takeL (i := 0) (v := ?_) rfl (by kernel_rfl) (by kernel_rfl) (by kernel_rfl) (fun _ _ _ h => h) (Or.inl ⟨by rfl, ?_⟩) ⟨HB0.out, RX1.out⟩ ?_
  rotate_left
  · intro w hw
    try dsimp only at hw
    go_simp
    try with_reducible rfl
  try simp only [Act.put, List.setIfInBounds_toArray, List.set_cons_zero, List.set_cons_succ]
  refine takeL (i := 1) (v := ?_) rfl (by kernel_rfl) (by kernel_rfl) (by kernel_rfl) (fun _ _ _ h => h) (Or.inl ⟨by rfl, ?_⟩) ⟨HB0.out, RX1.out⟩ ?_
  rotate_left
  · intro w hw
    try dsimp only at hw
    go_simp
    try with_reducible rfl
  try simp only [Act.put, List.setIfInBounds_toArray, List.set_cons_zero, List.set_cons_succ]
  refine takeL (i := 2) (v := ?_) rfl (by kernel_rfl) (by kernel_rfl) (by kernel_rfl) (fun _ _ _ h => h) (Or.inl ⟨by rfl, ?_⟩) ⟨HB0.out, RX1.out⟩ ?_
  rotate_left
  · intro w hw
    try dsimp only at hw
    go_simp
    try with_reducible rfl
  try simp only [Act.put, List.setIfInBounds_toArray, List.set_cons_zero, List.set_cons_succ]
  refine takeL (i := 3) (v := ?_) rfl (by kernel_rfl) (by kernel_rfl) (by kernel_rfl) (fun _ _ _ h => h) (Or.inl ⟨by rfl, ?_⟩) ⟨HB0.out, RX1.out⟩ ?_
  rotate_left
  · intro w hw
    try dsimp only at hw
    have hc := (H0.out.below hw.1).row.cell 0
    go_simp
    try with_reducible rfl
  try simp only [Act.put, List.setIfInBounds_toArray, List.set_cons_zero, List.set_cons_succ]
  refine takeL (i := 4) (v := .agg (bv k).toArray) rfl (by kernel_rfl) (by kernel_rfl) (by kernel_rfl) (fun _ _ _ h => h) (Or.inl ⟨by rfl, fun wz hwz => exec_load_at wz 57 (.tmp 3) rfl ⟨g, 0, none⟩ (bv k) _ Tryd.underlying57 rfl HSZ.out (fun j u hu => by rw [addr_row, Nat.zero_add]; exact (hwz.2.cell j).trans hu) (by go_simp)⟩) ⟨HB0.out, RX1.out⟩ ?_
  try simp only [Act.put, List.setIfInBounds_toArray, List.set_cons_zero, List.set_cons_succ]
  refine takeL (i := 5) (v := .agg y.cells.toArray) rfl (by kernel_rfl) (by kernel_rfl) (by kernel_rfl) (fun _ _ _ h => h) (Or.inl ⟨by rfl, fun wz hwz => exec_lookup13 wz (.tmp 12) (.tmp 13) rfl mb k _ (by go_simp) (by go_simp) (by rw [(H0.out.below hwz.1).look HK.out, HGL.out])⟩) ⟨HB0.out, RX1.out⟩ ?_
  try simp only [Act.put, List.setIfInBounds_toArray, List.set_cons_zero, List.set_cons_succ]
  refine readyL (i := 6) rfl (by kernel_rfl) (by kernel_rfl) fun K hK => ?_
  refine wp_store_whole 59 (.tmp 4) (.tmp 14) rfl f blank13.cells y.cells RF0.out.drew HSA.out HLA.out (acc_one _) ?_ ?_ ?_
  · go_simp
  · go_simp
  intro w5 hr ht
  have R5 := Lib.hid hr
  have B5 := Lib.hid (show Below w.heap.size w w5 from HB0.out.trans (ht.below HFG.out))
  have X5 := Lib.hid (show Row w5 g 57 (bv k) from ht.row RX1.out HGF.out)
  clear hr ht
  refine hK.out _ _ ⟨B5.out, X5.out⟩ ?_
  clear hK K
  try simp only [Act.put]
  refine wpAnyH_done (by kernel_rfl) ?_ _
  go_wp2_with fail
  refine bodyPost_ret (results_cell_row (h := rfl) _ w5 f 59 _ (0, 0) _ (by rfl) R5.out.is Tryd.underlying59 rfl HSA.out) rfl ?_
  exact ⟨rfl, B5.out⟩
theorem gb_grown13 {w V V' : World} {b : Nat} (hg : w.grownBy V (some b)) (h : V.grownBy V' (some b)) : w.grownBy V' (some b) :=
  ⟨h.os.trans hg.os, h.tape.trans hg.tape, h.output.trans hg.output, Nat.le_trans hg.size h.size, fun k hk hr => (h.block k (Nat.lt_of_lt_of_le hk hg.size) hr).trans (hg.block k hk hr)⟩
theorem wp_mapUpdate_acc {o : Oper} {a : Act} {w : World} {K : Act → World → Prop} {Q : Exit → Act → World → Prop} (m x v : Operand) (hop : o.op = Op.mapUpdate 107 m x v) (b n : Nat) (D : DataW Unit)
    (hm : a.eval m = .map (some b)) (hown : w.ownsMap Tryd.prog 57 accE b n D) (hn : n < maxLen) {k : List Int} (hk : k.length = 32 ∧ AllBytes k) {y : LAcc} (hy : AccOk y) (hx : a.eval x = .agg (bv k).toArray) (hv : a.eval v = .agg y.cells.toArray)
    (h : ∀ w', w'.ownsMap Tryd.prog 57 accE b (n + 1) (D.put (KL k) (accD y)) → w.grownBy w' (some b) → K (a.put o.dst undef) w') : o.wp Tryd.prog a w K Q := by
  obtain ⟨w', hrun, r1, r2⟩ := hown.update key_law Tryd.underlying107 hn (KL_is hk.1 hk.2) (accE_mk hy)
  unfold Oper.wp
  simp [execOp, hop, hm, hx, hv, hrun, Result.andThen]
  exact h _ r1 r2
theorem wp_delete_acc {o : Oper} {a : Act} {w : World} {K : Act → World → Prop} {Q : Exit → Act → World → Prop} (m x : Operand) (hop : o.op = Op.call { callee := Callee.builtin Builtin.delete, args := #[m, x], argTypes := #[107, 57] }) (b n : Nat) (D : DataW Unit)
    (hm : a.eval m = .map (some b)) (hown : w.ownsMap Tryd.prog 57 accE b n D) {k : List Int} (hk : k.length = 32 ∧ AllBytes k) (hx : a.eval x = .agg (bv k).toArray)
    (h : ∀ w', w'.ownsMap Tryd.prog 57 accE b n (D.del (KL k)) → w.grownBy w' (some b) → K (a.put o.dst (.tuple #[])) w') : o.wp Tryd.prog a w K Q := by
  obtain ⟨w', hrun, r1, r2⟩ := hown.drop key_law Tryd.underlying107 (KL_is hk.1 hk.2) o.type
  unfold Oper.wp
  simp [execOp, hop, resolve, invoke, builtin, hm, hx, hrun, Result.andThen]
  exact h _ r1 r2.grown
theorem ks13_put (L : List LHold) (k : List Int) (a : LAcc) (x : List Int) : x ∈ ks13 (putH L k a) ↔ (x ∈ ks13 L ∧ x ≠ k) ∨ (a ≠ blank13 ∧ x = k) := by
  rw [mem_ks13, mem_ks13]
  constructor
  · rintro ⟨y, hy, rfl⟩
    rcases putH_mem.1 hy with ⟨h1, h2⟩ | ⟨h1, rfl⟩
    · exact .inl ⟨⟨y, h1, rfl⟩, h2⟩
    · exact .inr ⟨h1, rfl⟩
  · rintro (⟨⟨y, hy, rfl⟩, h2⟩ | ⟨h1, rfl⟩)
    · exact ⟨y, putH_mem.2 (.inl ⟨hy, h2⟩), rfl⟩
    · exact ⟨_, putH_mem.2 (.inr ⟨h1, rfl⟩), rfl⟩
theorem ad_put13 {D : DataW Unit} {L : List LHold} {k : List Int} {a : LAcc} (h : AD D (ks13 L) (getH L)) (hs : Sto L) (hk : k.length = 32 ∧ AllBytes k) (ha : AccOk a) (hb : a ≠ blank13) : AD (D.put (KL k) (accD a)) (ks13 (putH L k a)) (getH (putH L k a)) := by
  refine (h.put hk ha).swap (ks13_nodup (hs.put hk ha).rise) (fun x => ?_) (fun x _ => ?_)
  · rw [ks13_put, mem_addK]
    by_cases e : x = k
    · simp [e, hb]
    · simp [e]
  · rw [getH_put hs hk ha]
    rfl
theorem ad_del13 {D : DataW Unit} {L : List LHold} {k : List Int} (h : AD D (ks13 L) (getH L)) (hs : Sto L) (hk : k.length = 32 ∧ AllBytes k) : AD (D.del (KL k)) (ks13 (putH L k blank13)) (getH (putH L k blank13)) := by
  refine (h.del hk).swap (ks13_nodup (hs.put hk blank_ok).rise) (fun x => ?_) (fun x hx => ?_)
  · rw [ks13_put]
    simp
  · have hx' : x ≠ k := by simpa using (List.mem_filter.1 hx).2
    rw [getH_put hs hk blank_ok, if_neg hx']
set_option maxHeartbeats 4000000 in
theorem put13 (sb mb : Nat) (L : List LHold) (k : List Int) (a : LAcc) (w : World) (h : StIn w sb mb L) (hk : k.length = 32 ∧ AllBytes k) (ha : AccOk a) (hL : L.length ≤ 5000) : Calls Tryd.prog 28 #[.pointer (some ⟨sb, 0, none⟩), .agg (bv k).toArray, .agg a.cells.toArray] w fun e w' => e = .returned (.int .i64 0) ∧ StIn w' sb mb (putH L k a) ∧ w.grownBy w' (some mb) := by
  have hbw := ((Below.refl w.heap.size w).alloc (Nat.le_refl _) (.cells (bv k).toArray 57)).alloc (by simp) (.cells a.cells.toArray 59)
  have S0 := Lib.hid (h.below hbw)
  have RX0 := Lib.hid ((Row.new w 57 (bv k)).alloc (.cells a.cells.toArray 59))
  have RF0 := Lib.hid (Row.new' (w.alloc (.cells (bv k).toArray 57)) 59 a.cells (g := w.heap.size + 1) (by simp))
  have HSZ : Hid ((Tryd.prog.info? 57).map (·.size) = some (bv k).length) := Lib.hid (by rw [size_key, bv_length, hk.1])
  have HSA := Lib.hid (size_acc ha.o.1)
  have HA := Lib.hid ha
  have HK := Lib.hid hk
  have HLT := Lib.hid h.lt
  have HNE := Lib.hid h.ne
  obtain ⟨f, hf⟩ : ∃ f, f = w.heap.size + 1 := ⟨_, rfl⟩
  obtain ⟨g, hg⟩ : ∃ g, g = w.heap.size := ⟨_, rfl⟩
  have HF : Hid (w.heap.size + 1 = f) := Lib.hid hf.symm
  have HG : Hid (w.heap.size = g) := Lib.hid hg.symm
  have NG : Hid (some g ≠ some mb) := Lib.hid (by have := HLT.out; intro e; cases e; omega)
  have NF : Hid (some f ≠ some mb) := Lib.hid (by have := HLT.out; intro e; cases e; omega)
  have NS : Hid (some sb ≠ some mb) := Lib.hid (by have := HNE.out; intro e; cases e; exact this rfl)
  rw [← hf] at RF0
  rw [← hg] at RX0
  have HGB := Lib.hid (gb_of (some mb) hbw)
  generalize hWW : (w.alloc (.cells (bv k).toArray 57)).alloc (.cells a.cells.toArray 59) = W at *
  have HWW := Lib.hid hWW
  have HSB := Lib.hid hbw.size
  clear hWW hf hg hbw h hk ha
  have HT := Lib.hid (there13 sb mb L W S0.out)
  have HEQ := Lib.hid (fun w => acc_eql (x := a) (y := blank13) HA.out.o.1 rfl w)
  go_enter Tryd.func28, Tryd.ntmps28
  go_upto_region 1 with fail
  rw [HF.out, HG.out, HWW.out]
  clear HF HG HWW
  go_wp2_with fail
  refine HT.out.mono ?_
  rintro e w' ⟨rfl, rfl⟩
  clear HT
  have S1 := Lib.hid (show StIn W.drew sb mb L from S0.out.below (Below.refl _ _).drew)
  have RX1 := Lib.hid RX0.out.drew
  have RF1 := Lib.hid RF0.out.drew
  have HG1 : Hid (w.grownBy W.drew (some mb)) := Lib.hid (gb_below HGB.out (Below.refl _ _).drew)
  by_cases hb : a = blank13
  · rw [decide_eq_true hb] at HEQ
    have HBK := Lib.hid hb
    clear hb
    have NEQ := HEQ.out
    clear HEQ
    go_wp2_with (first
      | ((with_reducible show wpList _ _ _ ({ dst := some 10, op := Op.load _ _, type := _, pos := _, after := _, guard := _ } :: _) _ _); go_must (refine wpList_load_whole rfl 59 (.tmp 5) rfl f 59 a.cells _ Tryd.underlying59 rfl HSA.out RF0.out ?_ ?_; go_simp))
      | ((with_reducible show wpList _ _ _ ({ dst := some 11, op := Op.build _ _, type := _, pos := _, after := _, guard := _ } :: _) _ _); go_must (refine wpList_plain rfl fun K hK => wp_built _ _ _ rfl (by simp only [List.map_toArray, List.map_nil]; exact built_blank) (hK _ _ ?_))))
    clear NEQ
    refine wp_region_held_drew (S := (fun V => Row V sb 109 [.map (some mb)] ∧ Row V g 57 (bv k))) (by kernel_rfl) ⟨S1.out.row, RX1.out⟩ (fun _ => ?_)
    refine takeL (i := 0) (v := ?_) rfl (by kernel_rfl) (by kernel_rfl) (by kernel_rfl) (fun _ _ _ h => h) (Or.inl ⟨by rfl, ?_⟩) ⟨S1.out.row, RX1.out⟩ ?_
    rotate_left
    · intro w hw
      try dsimp only at hw
      go_simp
      try with_reducible rfl
    try simp only [Act.put, List.setIfInBounds_toArray, List.set_cons_zero, List.set_cons_succ]
    refine takeL (i := 1) (v := ?_) rfl (by kernel_rfl) (by kernel_rfl) (by kernel_rfl) (fun _ _ _ h => h) (Or.inl ⟨by rfl, ?_⟩) ⟨S1.out.row, RX1.out⟩ ?_
    rotate_left
    · intro w hw
      try dsimp only at hw
      go_simp
      try with_reducible rfl
    try simp only [Act.put, List.setIfInBounds_toArray, List.set_cons_zero, List.set_cons_succ]
    refine takeL (i := 2) (v := ?_) rfl (by kernel_rfl) (by kernel_rfl) (by kernel_rfl) (fun _ _ _ h => h) (Or.inl ⟨by rfl, ?_⟩) ⟨S1.out.row, RX1.out⟩ ?_
    rotate_left
    · intro w hw
      try dsimp only at hw
      go_simp
      try with_reducible rfl
    try simp only [Act.put, List.setIfInBounds_toArray, List.set_cons_zero, List.set_cons_succ]
    refine takeL (i := 3) (v := ?_) rfl (by kernel_rfl) (by kernel_rfl) (by kernel_rfl) (fun _ _ _ h => h) (Or.inl ⟨by rfl, ?_⟩) ⟨S1.out.row, RX1.out⟩ ?_
    rotate_left
    · intro w hw
      try dsimp only at hw
      have hc := hw.1.cell 0
      go_simp
      try with_reducible rfl
    try simp only [Act.put, List.setIfInBounds_toArray, List.set_cons_zero, List.set_cons_succ]
    refine takeL (i := 4) (v := .agg (bv k).toArray) rfl (by kernel_rfl) (by kernel_rfl) (by kernel_rfl) (fun _ _ _ h => h) (Or.inl ⟨by rfl, fun wz hwz => exec_load_at wz 57 (.tmp 4) rfl ⟨g, 0, none⟩ (bv k) _ Tryd.underlying57 rfl HSZ.out (fun j u hu => by rw [addr_row, Nat.zero_add]; exact (hwz.2.cell j).trans hu) (by go_simp)⟩) ⟨S1.out.row, RX1.out⟩ ?_
    try simp only [Act.put, List.setIfInBounds_toArray, List.set_cons_zero, List.set_cons_succ]
    refine readyL (i := 5) rfl (by kernel_rfl) (by kernel_rfl) fun K hK => ?_
    obtain ⟨D, ho, had⟩ := S1.out.map
    refine wp_delete_acc (.tmp 16) (.tmp 17) rfl mb _ D ?_ ho HK.out ?_ ?_
    · go_simp
    · go_simp
    intro w5 ho5 hg5
    have S5 : Hid (StIn w5 sb mb (putH L k a)) := Lib.hid (by rw [HBK.out]; exact st_new (S1.out.row.grown hg5 NS.out) ho5 (ad_del13 had S1.out.sto HK.out) (S1.out.sto.put HK.out blank_ok))
    have X5 := Lib.hid (RX1.out.grown hg5 NG.out)
    have G5 := Lib.hid (gb_grown13 HG1.out hg5)
    clear ho had ho5 hg5
    refine hK.out _ _ ⟨S5.out.row, X5.out⟩ ?_
    clear hK K
    try simp only [Act.put]
    refine wpAnyH_done (by kernel_rfl) ?_ _
    go_wp2_with fail
    go_ret
    exact ⟨rfl, S5.out, G5.out⟩
  · rw [decide_eq_false hb] at HEQ
    have HBK := Lib.hid hb
    clear hb
    have NEQ := HEQ.out
    clear HEQ
    go_wp2_with (first
      | ((with_reducible show wpList _ _ _ ({ dst := some 10, op := Op.load _ _, type := _, pos := _, after := _, guard := _ } :: _) _ _); go_must (refine wpList_load_whole rfl 59 (.tmp 5) rfl f 59 a.cells _ Tryd.underlying59 rfl HSA.out RF0.out ?_ ?_; go_simp))
      | ((with_reducible show wpList _ _ _ ({ dst := some 11, op := Op.build _ _, type := _, pos := _, after := _, guard := _ } :: _) _ _); go_must (refine wpList_plain rfl fun K hK => wp_built _ _ _ rfl (by simp only [List.map_toArray, List.map_nil]; exact built_blank) (hK _ _ ?_))))
    clear NEQ
    refine wp_region_held_drew (S := (fun V => Row V sb 109 [.map (some mb)] ∧ Row V g 57 (bv k) ∧ Row V f 59 a.cells)) (by kernel_rfl) ⟨S1.out.row, RX1.out, RF1.out⟩ (fun _ => ?_)
    refine takeL (i := 0) (v := ?_) rfl (by kernel_rfl) (by kernel_rfl) (by kernel_rfl) (fun _ _ _ h => h) (Or.inl ⟨by rfl, ?_⟩) ⟨S1.out.row, RX1.out, RF1.out⟩ ?_
    rotate_left
    · intro w hw
      try dsimp only at hw
      go_simp
      try with_reducible rfl
    try simp only [Act.put, List.setIfInBounds_toArray, List.set_cons_zero, List.set_cons_succ]
    refine takeL (i := 1) (v := ?_) rfl (by kernel_rfl) (by kernel_rfl) (by kernel_rfl) (fun _ _ _ h => h) (Or.inl ⟨by rfl, ?_⟩) ⟨S1.out.row, RX1.out, RF1.out⟩ ?_
    rotate_left
    · intro w hw
      try dsimp only at hw
      go_simp
      try with_reducible rfl
    try simp only [Act.put, List.setIfInBounds_toArray, List.set_cons_zero, List.set_cons_succ]
    refine takeL (i := 2) (v := ?_) rfl (by kernel_rfl) (by kernel_rfl) (by kernel_rfl) (fun _ _ _ h => h) (Or.inl ⟨by rfl, ?_⟩) ⟨S1.out.row, RX1.out, RF1.out⟩ ?_
    rotate_left
    · intro w hw
      try dsimp only at hw
      go_simp
      try with_reducible rfl
    try simp only [Act.put, List.setIfInBounds_toArray, List.set_cons_zero, List.set_cons_succ]
    refine takeL (i := 3) (v := ?_) rfl (by kernel_rfl) (by kernel_rfl) (by kernel_rfl) (fun _ _ _ h => h) (Or.inl ⟨by rfl, ?_⟩) ⟨S1.out.row, RX1.out, RF1.out⟩ ?_
    rotate_left
    · intro w hw
      try dsimp only at hw
      have hc := hw.1.cell 0
      go_simp
      try with_reducible rfl
    try simp only [Act.put, List.setIfInBounds_toArray, List.set_cons_zero, List.set_cons_succ]
    refine takeL (i := 4) (v := .agg (bv k).toArray) rfl (by kernel_rfl) (by kernel_rfl) (by kernel_rfl) (fun _ _ _ h => h) (Or.inl ⟨by rfl, fun wz hwz => exec_load_at wz 57 (.tmp 4) rfl ⟨g, 0, none⟩ (bv k) _ Tryd.underlying57 rfl HSZ.out (fun j u hu => by rw [addr_row, Nat.zero_add]; exact (hwz.2.1.cell j).trans hu) (by go_simp)⟩) ⟨S1.out.row, RX1.out, RF1.out⟩ ?_
    try simp only [Act.put, List.setIfInBounds_toArray, List.set_cons_zero, List.set_cons_succ]
    refine takeL (i := 5) (v := .agg a.cells.toArray) rfl (by kernel_rfl) (by kernel_rfl) (by kernel_rfl) (fun _ _ _ h => h) (Or.inl ⟨by rfl, fun wz hwz => exec_load_at wz 59 (.tmp 5) rfl ⟨f, 0, none⟩ a.cells _ Tryd.underlying59 rfl HSA.out (fun j u hu => by rw [addr_row, Nat.zero_add]; exact (hwz.2.2.cell j).trans hu) (by go_simp)⟩) ⟨S1.out.row, RX1.out, RF1.out⟩ ?_
    try simp only [Act.put, List.setIfInBounds_toArray, List.set_cons_zero, List.set_cons_succ]
    refine readyL (i := 6) rfl (by kernel_rfl) (by kernel_rfl) fun K hK => ?_
    obtain ⟨D, ho, had⟩ := S1.out.map
    refine wp_mapUpdate_acc (.tmp 21) (.tmp 22) (.tmp 23) rfl mb _ D ?_ ho (by unfold maxLen; omega) HK.out HA.out ?_ ?_ ?_
    · go_simp
    · go_simp
    · go_simp
    intro w5 ho5 hg5
    have S5 : Hid (StIn w5 sb mb (putH L k a)) := Lib.hid (st_new (S1.out.row.grown hg5 NS.out) ho5 (ad_put13 had S1.out.sto HK.out HA.out HBK.out) (S1.out.sto.put HK.out HA.out))
    have X5 := Lib.hid (RX1.out.grown hg5 NG.out)
    have F5 := Lib.hid (RF1.out.grown hg5 NF.out)
    have G5 := Lib.hid (gb_grown13 HG1.out hg5)
    clear ho had ho5 hg5
    refine hK.out _ _ ⟨S5.out.row, X5.out, F5.out⟩ ?_
    clear hK K
    try simp only [Act.put]
    refine wpAnyH_done (by kernel_rfl) ?_ _
    go_wp2_with fail
    go_ret
    exact ⟨rfl, S5.out, G5.out⟩
end Go.Proofs.YtfaefpniiiandaaDoor

/-
  Of part Lives6: what is needed here.
-/
namespace Go.Proofs.YtfaefpniiiandaaDoor
open Go.RowKit
set_option linter.unusedVariables false
set_option maxRecDepth 100000
def y1 : List LLook := [⟨xk 9, [2], [0, 1]⟩]
def y2 : List LLook := [⟨xk 9, [], [3]⟩]
end Go.Proofs.YtfaefpniiiandaaDoor

/-
  Of part Known: what is needed here.
-/
namespace Go.Proofs.YtfaefpniiiandaaDoor
open Go.RowKit
set_option linter.unusedVariables false
/-- the known programs' keys -/
def k0 : List Int := List.replicate 32 0
def k3 : List Int := 3 :: List.replicate 31 0
def kn (x : List Int) : Bool := decide (x = k0) || decide (x = k3)
theorem built_k0 : Tryd.prog.built 57 [] = some (bv k0).toArray := by kernel_rfl
theorem built_k3 : Tryd.prog.built 57 [(0, .int .u8 3)] = some (bv k3).toArray := by kernel_rfl
set_option maxRecDepth 100000 in
set_option maxHeartbeats 400000 in
theorem system_ (w : World) : Calls Tryd.prog 47 #[] w fun e w' => e = .returned (.agg (bv k0).toArray) ∧ Below w.heap.size w w' := by
  go_enter Tryd.func47, Tryd.ntmps47
  go_wp2_with (first
    | ((with_reducible show wpList _ _ _ ({ dst := some 1, op := Op.build _ _, type := _, pos := _, after := _, guard := _ } :: _) _ _); go_must (refine wpList_plain rfl fun K hK => wp_built _ _ _ rfl (by simp only [List.map_toArray, List.map_nil]; exact built_k0) (hK _ _ ?_)))
    | ((with_reducible show wpList _ _ _ ({ dst := none, op := Op.store 57 _ _, type := _, pos := _, after := _, guard := _ } :: _) _ _); go_must (refine wpList_store_new rfl 57 (.tmp 0) (.tmp 1) rfl (bv k0) size_key (bv_one _) rfl ?_ ?_ ?_; go_simp; go_simp; intro w1 hr1 hb1 hz1; have HR1 := Lib.hid hr1; have HB1 := Lib.hid hb1; clear hr1 hb1)))
  refine bodyPost_ret (results_cell_row (h := rfl) _ w1 w.heap.size 57 _ (0, 0) _ (by rfl) HR1.out.is Tryd.underlying57 rfl size_key) rfl ?_
  exact ⟨rfl, HB1.out⟩
set_option maxRecDepth 100000 in
set_option maxHeartbeats 400000 in
theorem budget_ (w : World) : Calls Tryd.prog 16 #[] w fun e w' => e = .returned (.agg (bv k3).toArray) ∧ Below w.heap.size w w' := by
  go_enter Tryd.func16, Tryd.ntmps16
  go_wp2_with (first
    | ((with_reducible show wpList _ _ _ ({ dst := some 1, op := Op.build _ _, type := _, pos := _, after := _, guard := _ } :: _) _ _); go_must (refine wpList_plain rfl fun K hK => wp_built _ _ _ rfl (by simp only [List.map_toArray, List.map_cons, List.map_nil]; exact built_k3) (hK _ _ ?_)))
    | ((with_reducible show wpList _ _ _ ({ dst := none, op := Op.store 57 _ _, type := _, pos := _, after := _, guard := _ } :: _) _ _); go_must (refine wpList_store_new rfl 57 (.tmp 0) (.tmp 1) rfl (bv k3) size_key (bv_one _) rfl ?_ ?_ ?_; go_simp; go_simp; intro w1 hr1 hb1 hz1; have HR1 := Lib.hid hr1; have HB1 := Lib.hid hb1; clear hr1 hb1)))
  refine bodyPost_ret (results_cell_row (h := rfl) _ w1 w.heap.size 57 _ (0, 0) _ (by rfl) HR1.out.is Tryd.underlying57 rfl size_key) rfl ?_
  exact ⟨rfl, HB1.out⟩
end Go.Proofs.YtfaefpniiiandaaDoor

/-
  Of part Math15: what is needed here.
-/
namespace Go.Proofs.YtfaefpniiiandaaDoor
set_option linter.unusedVariables false
/-- an outcome -/
structure LOut where
  fail : Int
  at_ : Int
  units : Int
  fee : Int
  space : Int
  ch : List LHold
/-- what there is while instructions are run -/
structure S15 where
  now : List LAcc
  units : Int
  space : Int
/-- the key of an instruction's program -/
def prog15 (x : LReady) (a : LIn) : List Int := (rol14 x.roles a.p).key
/-- one instruction: its error, or 0, and what there is then -/
def step15 (x : LReady) (i : Nat) (a : LIn) (s : S15) : Int × S15 :=
  if x.u < 150 ∨ x.u - 150 < s.units then (20, ⟨s.now, x.u, s.space⟩)
  else if (i : Int) = x.bad then (21, ⟨s.now, s.units + 150, s.space⟩)
  else if prog15 x a = k0 then
    if (do14 s.now x.roles a.acc a.dat).e = 0 then (0, ⟨(do14 s.now x.roles a.acc a.dat).l, s.units + 150, s.space + (do14 s.now x.roles a.acc a.dat).n⟩)
    else ((do14 s.now x.roles a.acc a.dat).e, ⟨s.now, s.units + 150, s.space⟩)
  else if prog15 x a = k3 then (0, ⟨s.now, s.units + 150, s.space⟩)
  else (19, ⟨s.now, s.units + 150, s.space⟩)
/-- all of them: the error, where, and what there is then -/
def go15 (x : LReady) : List LIn → Nat → S15 → Int × Int × S15
  | [], _, s => (0, -1, s)
  | a :: r, i, s => if (step15 x i a s).1 = 0 then go15 x r (i + 1) (step15 x i a s).2 else ((step15 x i a s).1, (i : Int), (step15 x i a s).2)
/-- keys and accounts of those that write -/
def chg15 : List LRole → List LAcc → List LHold
  | r :: rs, a :: l => if r.wr then ⟨r.key, a⟩ :: chg15 rs l else chg15 rs l
  | _, _ => []
def out0 : LOut := ⟨0, 0, 0, 0, 0, []⟩
def run15 (x : LReady) (l : List LAcc) : LOut × Int :=
  if l.length ≠ x.roles.length then (out0, 1)
  else if ∃ a ∈ x.tx.m.ins, (x.roles.length : Int) ≤ a.p then (out0, 1)
  else if (go15 x x.tx.m.ins 0 ⟨l, 0, 0⟩).1 = 0 then
    (⟨0, -1, (go15 x x.tx.m.ins 0 ⟨l, 0, 0⟩).2.2.units, x.fee, (go15 x x.tx.m.ins 0 ⟨l, 0, 0⟩).2.2.space, chg15 x.roles (go15 x x.tx.m.ins 0 ⟨l, 0, 0⟩).2.2.now⟩, 0)
  else (⟨(go15 x x.tx.m.ins 0 ⟨l, 0, 0⟩).1, (go15 x x.tx.m.ins 0 ⟨l, 0, 0⟩).2.1, (go15 x x.tx.m.ins 0 ⟨l, 0, 0⟩).2.2.units, x.fee, 0, chg15 x.roles l⟩, 0)
end Go.Proofs.YtfaefpniiiandaaDoor

/-
  Of part Of7: what is needed here.
-/
namespace Go.Proofs.YtfaefpniiiandaaDoor
open Go.RowKit
set_option linter.unusedVariables false
set_option maxRecDepth 100000
theorem own_baseR {w : World} {base base' size n : Nat} {e : TypeId} {v : Value} {xs : List Value} (h : w.ownsRow base e size v n xs) (hb : base' ≤ base) : w.ownsRow base' e size v n xs := by
  refine ⟨h.1, ?_⟩
  rcases h.2 with h2 | ⟨g, cap, cur, h1, h2, h3⟩
  · exact .inl h2
  · exact .inr ⟨g, cap, cur, h1, Nat.le_trans hb h2, h3⟩
end Go.Proofs.YtfaefpniiiandaaDoor

/-
  Of part RefChg15: what is needed here.
-/
namespace Go.Proofs.YtfaefpniiiandaaDoor
open Go.RowKit
set_option linter.unusedVariables false
set_option maxRecDepth 100000
theorem built_hold15 {l m : List Value} (hl : l.length = 32) (hm : m.length = 34) : Tryd.prog.built 64 [(0, .agg l.toArray), (1, .agg m.toArray)] = some (l ++ m).toArray := by
  obtain ⟨f, rfl⟩ := of_fn32 hl
  obtain ⟨g, rfl⟩ : ∃ u : Fin 34 → Value, m = List.ofFn u := ⟨fun i => m.getD i undef, by
    refine List.ext_getElem (by simpa using hm) fun i h3 h4 => ?_
    rw [List.getElem_ofFn, List.getD_eq_getElem?_getD, List.getElem?_eq_getElem h3]
    rfl⟩
  kernel_rfl
def holC (L : List LHold) : List Value := (L.map LHold.cells).flatten
theorem holC_snoc (L : List LHold) (x : LHold) : holC (L ++ [x]) = holC L ++ x.cells := by simp [holC]
theorem chg_snoc15 : ∀ {k : Nat} {rs : List LRole} {l : List LAcc} {r : LRole} {a : LAcc}, rs[k]? = some r → l[k]? = some a → chg15 (rs.take (k + 1)) (l.take (k + 1)) = chg15 (rs.take k) (l.take k) ++ (if r.wr then [⟨r.key, a⟩] else [])
  | 0, r' :: rs, a' :: l, r, a, hr, ha => by
    have h1 : r' = r := by simpa using hr
    have h2 : a' = a := by simpa using ha
    subst h1 h2
    simp [chg15]
  | k + 1, r' :: rs, a' :: l, r, a, hr, ha => by
    have ih := chg_snoc15 (k := k) (rs := rs) (l := l) (r := r) (a := a) (by simpa using hr) (by simpa using ha)
    simp only [List.take_succ_cons, chg15]
    rw [ih]
    split
    · rfl
    · rfl
  | 0, [], _, r, a, hr, _ => by cases hr
  | 0, _ :: _, [], r, a, _, ha => by cases ha
  | k + 1, [], _, r, a, hr, _ => by cases hr
  | k + 1, _ :: _, [], r, a, _, ha => by cases ha
theorem chg_len15 : ∀ (rs : List LRole) (l : List LAcc), (chg15 rs l).length ≤ l.length
  | [], _ => by simp [chg15]
  | _ :: _, [] => by simp [chg15]
  | r :: rs, a :: l => by
    have ih := chg_len15 rs l
    unfold chg15
    split
    · simpa using ih
    · exact Nat.le_succ_of_le ih
end Go.Proofs.YtfaefpniiiandaaDoor

/-
  Of part Out15: what is needed here.
-/
namespace Go.Proofs.YtfaefpniiiandaaDoor
open Go.RowKit
set_option linter.unusedVariables false
set_option maxRecDepth 100000
def LOut.cells (o : LOut) (v : Value) : List Value := [.int .i64 o.fail, .int .i64 o.at_, .int .u64 o.units, .int .u64 o.fee, .int .u64 o.space, v]
theorem size_out15 (o : LOut) (v : Value) : (Tryd.prog.info? 54).map (·.size) = some (o.cells v).length := by kernel_rfl
theorem zero_out15 : (Tryd.prog.info? 54).map (·.zero) = some (some (.agg (out0.cells (.slice none 0 0)).toArray)) := by kernel_rfl
theorem out_one15 (o : LOut) {v : Value} (hv : v.oneCell' = true) : ∀ u ∈ o.cells v, u.oneCell' = true := by
  intro u hu
  unfold LOut.cells at hu
  simp only [List.mem_cons, List.not_mem_nil, or_false] at hu
  rcases hu with rfl | rfl | rfl | rfl | rfl | rfl
  · rfl
  · rfl
  · rfl
  · rfl
  · rfl
  · exact hv
end Go.Proofs.YtfaefpniiiandaaDoor

/-
  Of part Lives7: what is needed here.
-/
namespace Go.Proofs.YtfaefpniiiandaaDoor
open Go.RowKit
set_option linter.unusedVariables false
set_option maxRecDepth 100000
def xq (a : Int) : List Int := a :: List.replicate 31 0
def e7 : List LRole := [⟨xq 1, true, true⟩, ⟨xq 2, true, false⟩, ⟨xq 4, false, true⟩, ⟨k0, false, false⟩]
end Go.Proofs.YtfaefpniiiandaaDoor

/-
  Of part With8: what is needed here.
-/
namespace Go.Proofs.YtfaefpniiiandaaDoor
open Go.RowKit
set_option linter.unusedVariables false
set_option maxRecDepth 100000
def q8 (g : Nat) (A : Option Addr) (n c : Nat) : Raw := ⟨some ⟨g, 0, none⟩, 3, 3, A, n, c, none, 0, 0⟩
end Go.Proofs.YtfaefpniiiandaaDoor

/-
  Of part Bad8: what is needed here.
-/
namespace Go.Proofs.YtfaefpniiiandaaDoor
open Go.RowKit
set_option linter.unusedVariables false
set_option maxRecDepth 100000
theorem InsIn.take {w : World} {B n k : Nat} {A : Option Addr} {l : List LIn} (h : InsIn w B A n l) (hk : k ≤ n) : InsIn w B A k (l.take k) :=
  ⟨by rw [List.length_take, h.len]; omega, fun i x hx => by
    rw [List.getElem?_take] at hx
    split at hx
    · exact h.at_ i x hx
    · cases hx⟩
section
variable {P : Program} {w : World} {o : Oper} {a : Act}
theorem run_head (t e : TypeId) (x j : Operand) (sz : Nat) (ho : o.op = .slice t x none (some j) none) (ht : P.underlying t = some (.slice e)) (hsz : (P.info? e).map (·.size) = some sz)
    (A : Option Addr) (n c k : Nat) (hx : a.eval x = .slice A n c) (hj : a.eval j = .int .i64 k) (hk : k ≤ c) :
    (execOp a.eval o).run P w = .ok (.value (.slice A k c)) w := by
  obtain ⟨ie, hie, hs1⟩ : ∃ i, P.info? e = some i ∧ i.size = sz := by
    cases h : P.info? e with
    | none => rw [h] at hsz; cases hsz
    | some i => rw [h] at hsz; exact ⟨i, rfl, by simpa using hsz⟩
  have he : P.elem t = e := by simp [Program.elem, ht]
  have ht' : P.underlying t = some (.slice (P.elem t)) := by rw [he]; exact ht
  have hso : (sizeOf e).run P w = .ok sz w := by simp [sizeOf, typeInfo, hie, hs1]
  have h0 : (0 : Int) ≤ k := by omega
  have h2 : (k : Int) ≤ c := by omega
  have ha : (if c = 0 then A else A.map (·.add (0 * sz))) = A := by
    split
    · rfl
    · cases A with
      | none => rfl
      | some ad => simp [Addr.add]
  unfold execOp
  simp only [ho, hx, hj, Option.map_some, Option.map_none]
  simp only [Sem.run_bind, run_sliceAt_slice w t _ _ _ _ ht', run_slice_h w t A n c ht' .i64 k h0 h2, he, hso, Result.andThen_ok, sliced, Int.toNat_natCast, Sem.run_pure, Nat.sub_zero, ha]
theorem wpList_head {ops : Array Oper} {rest : List Oper} {Q : Exit → Act → World → Prop} (hgd : o.guard = none) (t e : TypeId) (x j : Operand) (sz : Nat) (ho : o.op = .slice t x none (some j) none) (ht : P.underlying t = some (.slice e)) (hsz : (P.info? e).map (·.size) = some sz)
    (A : Option Addr) (n c k : Nat) (hx : a.eval x = .slice A n c) (hj : a.eval j = .int .i64 k) (hk : k ≤ c)
    (h : wpList P ops Q rest (a.put o.dst (.slice A k c)) w) : wpList P ops Q (o :: rest) a w :=
  wpList_plain hgd fun K hK => by
    unfold Oper.wp
    rw [run_head t e x j sz ho ht hsz A n c k hx hj hk]
    exact hK _ _ h
end
end Go.Proofs.YtfaefpniiiandaaDoor

/-
  Of part SysRead14: what is needed here.
-/
namespace Go.Proofs.YtfaefpniiiandaaDoor
open Go.RowKit
set_option linter.unusedVariables false
set_option maxRecDepth 100000
/-- fields: what is left to read, and whether it was too short -/
def fldC (A : Option Addr) (n c : Nat) (sh : Bool) : List Value := [.slice A n c, .bool sh]
theorem pre14 {w : World} {B n m : Nat} {A : Option Addr} {zs : List Int} (h : Sees w B A n (bv zs)) (hm : m ≤ n) : Sees w B A m (bv (zs.take m)) := by
  have hl := h.len
  rw [bv_length] at hl
  refine ⟨by rw [bv_length, List.length_take]; omega, fun i u hu => h.cell i u ?_⟩
  rw [bv_getElem?] at hu ⊢
  rw [List.getElem?_take] at hu
  split at hu
  · exact hu
  · cases hu
theorem num_take14 (zs : List Int) : ∀ (k m : Nat), k ≤ m → num (zs.take m) k = num zs k
  | 0, _, _ => rfl
  | k + 1, m, h => by
    have ih := num_take14 zs k m (by omega)
    have hg : (zs.take m).getD k 0 = zs.getD k 0 := by
      rw [List.getD_eq_getElem?_getD, List.getD_eq_getElem?_getD, List.getElem?_take, if_pos (by omega)]
    rw [num, num, ih, hg]
theorem all_take14 {zs : List Int} (h : AllBytes zs) (m : Nat) : AllBytes (zs.take m) := fun z hz => h z (List.mem_of_mem_take hz)
theorem all_drop14 {zs : List Int} (h : AllBytes zs) (m : Nat) : AllBytes (zs.drop m) := fun z hz => h z (List.mem_of_mem_drop hz)
theorem getN_nil14 {m : Nat} (h1 : 1 ≤ m) (h8 : m ≤ 8) : getN [] m = (0, 5) := getN_short h1 h8 (by simp; omega)
set_option maxHeartbeats 800000 in
theorem next_ok14 (g : Nat) (A : Option Addr) (n c m : Nat) (sh : Bool) (w : World) (hr : Row w g 189 (fldC A n c sh)) (hm : m ≤ n) (hnc : n ≤ c) (hc : c ≤ maxLen) :
    Calls Tryd.prog 88 #[.pointer (some ⟨g, 0, none⟩), .int .i64 m] w fun e w' => e = .returned (.slice A m c) ∧ w' = w.setCell ⟨g, 0, none⟩ (.slice (tailAt A c m) (n - m) (c - m)) := by
  have c0 : w.cell? ⟨g, 0, none⟩ = some (.slice A n c) := hr.cell 0
  have f0 := hr.frozen 0
  have hlt' : ¬ (n : Int) < m := by omega
  have HM := Lib.hid hm
  have HMC := Lib.hid (Nat.le_trans hm hnc)
  have HNC := Lib.hid hnc
  have HC := Lib.hid hc
  clear hr hm hnc hc
  go_enter Tryd.func88, Tryd.ntmps88
  go_wp2_with (first
    | ((with_reducible show wpList _ _ _ ({ dst := some 21, op := Op.slice _ _ _ _ _, type := _, pos := _, after := _, guard := _ } :: _) _ _); go_must (refine wpList_head rfl 23 5 (.tmp 19) (.tmp 20) 1 rfl Tryd.underlying23 size_u8_14 A n c m ?_ ?_ HMC.out ?_; go_simp; go_simp))
    | ((with_reducible show wpList _ _ _ ({ dst := some 28, op := Op.slice _ _ _ _ _, type := _, pos := _, after := _, guard := _ } :: _) _ _); go_must (refine wpList_tail rfl 23 5 (.tmp 26) (.tmp 27) rfl Tryd.underlying23 size_u8_14 A n c m ?_ ?_ HM.out HNC.out HC.out ?_; go_simp; go_simp)))
  go_ret
  exact ⟨rfl, rfl⟩
set_option maxHeartbeats 800000 in
theorem next_no14 (g : Nat) (A : Option Addr) (n c m : Nat) (sh : Bool) (w : World) (hr : Row w g 189 (fldC A n c sh)) (hm : n < m) :
    Calls Tryd.prog 88 #[.pointer (some ⟨g, 0, none⟩), .int .i64 m] w fun e w' => e = .returned (.slice none 0 0) ∧ w' = w.setCell ⟨g, 1, none⟩ (.bool true) := by
  have c0 : w.cell? ⟨g, 0, none⟩ = some (.slice A n c) := hr.cell 0
  have c1 : w.cell? ⟨g, 1, none⟩ = some (.bool sh) := hr.cell 1
  have f1 := hr.frozen 1
  have hlt' : (n : Int) < m := by omega
  clear hr hm
  go_enter Tryd.func88, Tryd.ntmps88
  go_wp2_with fail
  go_ret
  exact ⟨rfl, rfl⟩
set_option maxHeartbeats 800000 in
theorem number_ok14 (g : Nat) (A : Option Addr) (n c m S : Nat) (sh : Bool) (zs : List Int) (w : World) (hr : Row w g 189 (fldC A n c sh)) (hs : Sees w S A n (bv zs)) (hS : S ≤ g) (hz : AllBytes zs) (h1 : 1 ≤ m) (h8 : m ≤ 8) (hm : m ≤ n) (hnc : n ≤ c) (hc : c ≤ maxLen) :
    Calls Tryd.prog 79 #[.pointer (some ⟨g, 0, none⟩), .int .i64 m] w fun e w' => e = .returned (.int .u64 (num zs m)) ∧ w' = w.setCell ⟨g, 0, none⟩ (.slice (tailAt A c m) (n - m) (c - m)) := by
  have HN := Lib.hid (next_ok14 g A n c m sh w hr hm hnc hc)
  have hT : Turned w (w.setCell ⟨g, 0, none⟩ (.slice (tailAt A c m) (n - m) (c - m))) g := turned_setCell w ⟨g, 0, none⟩ _
  have HG := Lib.hid (getMany A m c (zs.take m) m _ S ((pre14 hs hm).below (hT.below hS)) (by omega) (bytes_of_all (all_take14 hz m)))
  rw [getN_ok h1 h8 (by have := hs.len; rw [bv_length] at this; rw [List.length_take]; omega), num_take14 zs m m (Nat.le_refl _)] at HG
  generalize w.setCell ⟨g, 0, none⟩ (.slice (tailAt A c m) (n - m) (c - m)) = W at *
  clear hr hs hS hz h1 h8 hm hnc hc hT
  go_enter Tryd.func79, Tryd.ntmps79
  go_wp2_with fail
  refine HN.out.mono ?_
  rintro e w1 ⟨rfl, hw⟩
  obtain rfl := hw.symm
  go_wp2_with fail
  refine HG.out.mono ?_
  rintro e w2 ⟨rfl, rfl⟩
  go_wp2_with fail
  go_ret
  exact ⟨rfl, rfl⟩
set_option maxHeartbeats 800000 in
theorem number_no14 (g : Nat) (A : Option Addr) (n c m : Nat) (sh : Bool) (w : World) (hr : Row w g 189 (fldC A n c sh)) (h1 : 1 ≤ m) (h8 : m ≤ 8) (hm : n < m) :
    Calls Tryd.prog 79 #[.pointer (some ⟨g, 0, none⟩), .int .i64 m] w fun e w' => e = .returned (.int .u64 0) ∧ w' = w.setCell ⟨g, 1, none⟩ (.bool true) := by
  have HN := Lib.hid (next_no14 g A n c m sh w hr hm)
  have HG := Lib.hid (getMany none 0 0 [] m (w.setCell ⟨g, 1, none⟩ (.bool true)) 0 ⟨rfl, fun i u hu => by simp [bv, cv] at hu⟩ (Nat.zero_le _) (bytes_of_all (by intro z hz; cases hz)))
  rw [getN_nil14 h1 h8] at HG
  generalize w.setCell ⟨g, 1, none⟩ (.bool true) = W at *
  clear hr h1 h8 hm
  go_enter Tryd.func79, Tryd.ntmps79
  go_wp2_with fail
  refine HN.out.mono ?_
  rintro e w1 ⟨rfl, hw⟩
  obtain rfl := hw.symm
  go_wp2_with fail
  refine HG.out.mono ?_
  rintro e w2 ⟨rfl, rfl⟩
  go_wp2_with fail
  go_ret
  exact ⟨rfl, rfl⟩
theorem zero_key14 : (Tryd.prog.info? 57).map (·.zero) = some (some (.agg (bv key0).toArray)) := by kernel_rfl
theorem key_size14 {o : List Int} (h : o.length = 32) : (Tryd.prog.info? 57).map (·.size) = some (bv o).length := by rw [bv_length, h]; exact size_key
theorem bv_splice14 {o : List Int} (h : o.length = 32) : (bv key0).take 0 ++ bv o ++ (bv key0).drop (0 + (bv o).length) = bv o := by
  rw [List.take_zero, List.nil_append, Nat.zero_add, List.drop_of_length_le (by rw [bv_length, bv_length, h]; decide), List.append_nil]
/-- where the fields' block alone, and new ones, differ -/
theorem drew_turned14 {W V : World} {g : Nat} (h : Turned W.drew V g) : Turned W V g := ⟨h.os, h.tape, h.output, h.size, h.block⟩
theorem but_low14 {w w' V : World} {g B : Nat} (h : But g w w') (hb : Below B w' V) (hB : w.heap.size ≤ B) : But g w V :=
  ⟨hb.os.trans h.os, hb.tape.trans h.tape, hb.output.trans h.output, Nat.le_trans h.size hb.size, fun k hk hg => (hb.block k (Nat.lt_of_lt_of_le hk hB)).trans (h.block k hk hg)⟩
theorem but_turned14 {w w' V : World} {g p : Nat} (h : But g w w') (ht : Turned w' V p) (hp : w.heap.size ≤ p) : But g w V := but_low14 h (ht.below hp) (Nat.le_refl _)
theorem take_some14 {w : World} {B n m : Nat} {A : Option Addr} {zs : List Int} (h : Sees w B A n (bv zs)) (hm : m ≤ n) (h0 : 0 < m) : ∃ ad, A = some ad ∧ ∀ j u, (bv (zs.take m))[j]? = some u → w.cell? (ad.add j) = some u := by
  have h1 := pre14 h hm
  obtain ⟨ad, u, e, _⟩ := h1.at_ (k := 0) h0
  refine ⟨ad, e, fun j u hu => ?_⟩
  obtain ⟨a, e2, _, hc⟩ := h1.cell j u hu
  rw [e] at e2
  cases e2
  exact hc
set_option maxHeartbeats 2000000 in
theorem key_ok14 (g : Nat) (A : Option Addr) (n c S : Nat) (sh : Bool) (zs : List Int) (w : World) (hr : Row w g 189 (fldC A n c sh)) (hs : Sees w S A n (bv zs)) (hS : S ≤ g) (hm : 32 ≤ n) (hnc : n ≤ c) (hc : c ≤ maxLen) :
    Calls Tryd.prog 80 #[.pointer (some ⟨g, 0, none⟩)] w fun e w' => e = .returned (.agg (bv (zs.take 32)).toArray) ∧ Row w' g 189 (fldC (tailAt A c 32) (n - 32) (c - 32) sh) ∧ But g w w' := by
  have hlt := hr.lt
  have HR := Lib.hid hr
  have HS := Lib.hid hs
  have HSG := Lib.hid hS
  have HLT := Lib.hid hlt
  have HM := Lib.hid hm
  have HNC := Lib.hid hnc
  have HC := Lib.hid hc
  clear hm hnc hc
  obtain ⟨g2, hg2⟩ : ∃ k, k = w.heap.size := ⟨_, rfl⟩
  obtain ⟨g3, hg3'⟩ : ∃ k, k = (w.alloc (.cells (bv key0).toArray 57)).heap.size := ⟨_, rfl⟩
  have HG2 : Hid (w.heap.size = g2) := Lib.hid hg2.symm
  have HG3 : Hid ((w.alloc (.cells (bv key0).toArray 57)).heap.size = g3) := Lib.hid hg3'.symm
  have hg3 : g3 = w.heap.size + 1 := by rw [hg3']; simp
  clear hg3'
  have hb := ((Below.refl w.heap.size w).alloc (Nat.le_refl _) (.cells (bv key0).toArray 57)).alloc (by simp) (.cells (bv key0).toArray 57)
  have HB := Lib.hid hb
  have R2 : Hid (Row ((w.alloc (.cells (bv key0).toArray 57)).alloc (.cells (bv key0).toArray 57)) g2 57 (bv key0)) := Lib.hid (by rw [hg2]; exact (Row.new w 57 (bv key0)).alloc _)
  have R3 : Hid (Row ((w.alloc (.cells (bv key0).toArray 57)).alloc (.cells (bv key0).toArray 57)) g3 57 (bv key0)) := Lib.hid (Row.new' _ 57 _ (by rw [hg3]; simp))
  have NG : Hid (g2 ≠ g ∧ g3 ≠ g ∧ g2 ≠ g3) := Lib.hid (by omega)
  have HG23 : Hid (g < g3 ∧ g2 < g3 ∧ w.heap.size ≤ g3 ∧ w.heap.size ≤ g2) := Lib.hid (by omega)
  have RF := Lib.hid (hr.below hb hlt)
  have HSW := Lib.hid (hs.below (hb.mono (Nat.le_of_lt (Nat.lt_of_le_of_lt hS hlt))))
  clear hg2 hg3 hb hr hs hS hlt HR HS
  generalize hW : (w.alloc (.cells (bv key0).toArray 57)).alloc (.cells (bv key0).toArray 57) = W at *
  have HW := Lib.hid hW
  clear hW
  go_enter Tryd.func80, Tryd.ntmps80
  go_upto_region 2 with (first
    | ((with_reducible show wpList _ _ _ ({ dst := some 2, op := Op.alloc _, type := _, pos := _, after := _, guard := _ } :: _) _ _); go_must (refine wpList_alloc_zero rfl 57 rfl (bv key0) zero_key14 ?_))
    | ((with_reducible show wpList _ _ _ ({ dst := some 3, op := Op.alloc _, type := _, pos := _, after := _, guard := _ } :: _) _ _); go_must (refine wpList_alloc_zero rfl 57 rfl (bv key0) zero_key14 ?_)))
  rw [HG3.out, HG2.out, HW.out]
  clear HG3 HG2 HW
  have HN := Lib.hid (next_ok14 g A n c 32 sh W.drew RF.out.drew HM.out HNC.out HC.out)
  obtain ⟨ad, hA, hsrc⟩ := take_some14 HSW.out HM.out (by decide)
  have HSRC := Lib.hid hsrc
  have HTL : Hid ((zs.take 32).length = 32) := Lib.hid (by have := HSW.out.len; have := HM.out; rw [bv_length] at *; rw [List.length_take]; omega)
  subst hA
  clear hsrc
  have hT : Turned W (W.drew.setCell ⟨g, 0, none⟩ (.slice (tailAt (some ad) c 32) (n - 32) (c - 32))) g := drew_turned14 (turned_setCell W.drew ⟨g, 0, none⟩ _)
  have HT := Lib.hid hT
  have RF2 : Hid (Row (W.drew.setCell ⟨g, 0, none⟩ (.slice (tailAt (some ad) c 32) (n - 32) (c - 32))) g 189 (fldC (tailAt (some ad) c 32) (n - 32) (c - 32) sh)) := Lib.hid (RF.out.drew.set_ 0 _)
  have HSR2 : Hid (∀ j u, (bv (zs.take 32))[j]? = some u → (W.drew.setCell ⟨g, 0, none⟩ (.slice (tailAt (some ad) c 32) (n - 32) (c - 32))).cell? (ad.add j) = some u) := Lib.hid fun j u hu => by
    obtain ⟨a, e, hb, hc⟩ := ((pre14 HSW.out HM.out).below (hT.below HSG.out)).cell j u hu
    cases e
    exact hc
  clear hT
  generalize W.drew.setCell ⟨g, 0, none⟩ (.slice (tailAt (some ad) c 32) (n - 32) (c - 32)) = W1 at *
  have BW := Lib.hid (But.trans (But.of_below HB.out g) (But.of_turned HT.out))
  have R22 := Lib.hid (HT.out.row R2.out NG.out.1)
  have R32 := Lib.hid (HT.out.row R3.out NG.out.2.1)
  clear R2 R3 RF HT HB
  refine wp_region_held_drew (S := (fun V => True)) (by kernel_rfl) trivial (fun _ => ?_)
  refine takeL (i := 0) (v := ?_) rfl (by kernel_rfl) (by kernel_rfl) (by kernel_rfl) (fun _ _ _ h => h) (Or.inl ⟨by rfl, ?_⟩) trivial ?_
  rotate_left
  · intro w hw
    try dsimp only at hw
    go_simp
    try with_reducible rfl
  try simp only [Act.put, List.setIfInBounds_toArray, List.set_cons_zero, List.set_cons_succ]
  refine takeL (i := 1) (v := ?_) rfl (by kernel_rfl) (by kernel_rfl) (by kernel_rfl) (fun _ _ _ h => h) (Or.inl ⟨by rfl, ?_⟩) trivial ?_
  rotate_left
  · intro w hw
    try dsimp only at hw
    go_simp
    try with_reducible rfl
  try simp only [Act.put, List.setIfInBounds_toArray, List.set_cons_zero, List.set_cons_succ]
  refine readyL (i := 2) rfl (by kernel_rfl) (by kernel_rfl) fun K hK => ?_
  go_simp
  refine HN.out.mono ?_
  rintro e w1 ⟨rfl, hw⟩
  obtain rfl := hw.symm
  clear hw HN
  refine hK.out _ _ trivial ?_
  clear hK K
  try simp only [Act.put, List.setIfInBounds_toArray, List.set_cons_zero, List.set_cons_succ]
  refine readyL (i := 3) rfl (by kernel_rfl) (by kernel_rfl) fun K hK => ?_
  refine wp_copy_row (.tmp 4) (.tmp 6) 23 23 5 rfl Tryd.underlying23 size_u8_14 g3 0 32 32 ad 32 c (by go_simp) (by go_simp) (bv key0) 57 R32.out (bv (zs.take 32)) (by rw [bv_length, HTL.out]; rfl) HSR2.out (by rw [bv_length, bv_length, HTL.out]; decide) (bv_one _) (fun w3 hr3 ht3 => ?_)
  rw [bv_splice14 HTL.out] at hr3
  have R33 := Lib.hid hr3
  have B3 := Lib.hid (ht3.below (Nat.le_refl g3))
  have R23 := Lib.hid (R22.out.below B3.out HG23.out.2.1)
  have RF3 := Lib.hid (RF2.out.below B3.out HG23.out.1)
  have BT := Lib.hid (but_low14 BW.out B3.out HG23.out.2.2.1)
  clear hr3 ht3 R22 R32 RF2 BW
  refine hK.out _ _ trivial ?_
  clear hK K
  try simp only [Act.put, List.setIfInBounds_toArray, List.set_cons_zero, List.set_cons_succ]
  refine wpAnyH_done (by kernel_rfl) ?_ _
  go_wp2_with (first
    | ((with_reducible show wpList _ _ _ ({ dst := some 8, op := Op.load _ _, type := _, pos := _, after := _, guard := _ } :: _) _ _); go_must (refine wpList_load_whole rfl 57 (.tmp 3) rfl g3 57 (bv (zs.take 32)) _ Tryd.underlying57 rfl (key_size14 HTL.out) R33.out ?_ ?_; go_simp))
    | ((with_reducible show wpList _ _ _ ({ dst := none, op := Op.store 57 _ _, type := _, pos := _, after := _, guard := _ } :: _) _ _); go_must (refine wpList_store_whole rfl 57 (.tmp 2) (.tmp 8) rfl g2 (bv key0) (bv (zs.take 32)) R23.out (key_size14 HTL.out) (by rw [bv_length, bv_length, HTL.out]; rfl) (bv_one _) ?_ ?_ ?_; go_simp; go_simp; intro w4 hr4 ht4; have R4 := Lib.hid hr4; have T4 := Lib.hid ht4; clear hr4 ht4)))
  refine bodyPost_ret (results_cell_row (h := rfl) _ w4 g2 57 _ (0, 0) _ (by rfl) R4.out.is Tryd.underlying57 rfl (key_size14 HTL.out)) rfl ?_
  exact ⟨rfl, T4.out.row RF3.out (Ne.symm NG.out.1), but_turned14 BT.out T4.out HG23.out.2.2.2⟩
theorem splice_nil14 {cur : List Value} : splice cur 0 [] = cur := by simp [splice]
set_option maxHeartbeats 2000000 in
theorem key_no14 (g : Nat) (A : Option Addr) (n c S : Nat) (sh : Bool) (zs : List Int) (w : World) (hr : Row w g 189 (fldC A n c sh)) (hs : Sees w S A n (bv zs)) (hS : S ≤ g) (hm : n < 32) :
    Calls Tryd.prog 80 #[.pointer (some ⟨g, 0, none⟩)] w fun e w' => e = .returned (.agg (bv key0).toArray) ∧ Row w' g 189 (fldC A n c true) ∧ But g w w' := by
  have hlt := hr.lt
  have HR := Lib.hid hr
  have HS := Lib.hid hs
  have HSG := Lib.hid hS
  have HLT := Lib.hid hlt
  have HM := Lib.hid hm
  clear hm
  obtain ⟨g2, hg2⟩ : ∃ k, k = w.heap.size := ⟨_, rfl⟩
  obtain ⟨g3, hg3'⟩ : ∃ k, k = (w.alloc (.cells (bv key0).toArray 57)).heap.size := ⟨_, rfl⟩
  have HG2 : Hid (w.heap.size = g2) := Lib.hid hg2.symm
  have HG3 : Hid ((w.alloc (.cells (bv key0).toArray 57)).heap.size = g3) := Lib.hid hg3'.symm
  have hg3 : g3 = w.heap.size + 1 := by rw [hg3']; simp
  clear hg3'
  have hb := ((Below.refl w.heap.size w).alloc (Nat.le_refl _) (.cells (bv key0).toArray 57)).alloc (by simp) (.cells (bv key0).toArray 57)
  have HB := Lib.hid hb
  have R2 : Hid (Row ((w.alloc (.cells (bv key0).toArray 57)).alloc (.cells (bv key0).toArray 57)) g2 57 (bv key0)) := Lib.hid (by rw [hg2]; exact (Row.new w 57 (bv key0)).alloc _)
  have R3 : Hid (Row ((w.alloc (.cells (bv key0).toArray 57)).alloc (.cells (bv key0).toArray 57)) g3 57 (bv key0)) := Lib.hid (Row.new' _ 57 _ (by rw [hg3]; simp))
  have NG : Hid (g2 ≠ g ∧ g3 ≠ g ∧ g2 ≠ g3) := Lib.hid (by omega)
  have HG23 : Hid (g < g3 ∧ g2 < g3 ∧ w.heap.size ≤ g3 ∧ w.heap.size ≤ g2) := Lib.hid (by omega)
  have RF := Lib.hid (hr.below hb hlt)
  have HSW := Lib.hid (hs.below (hb.mono (Nat.le_of_lt (Nat.lt_of_le_of_lt hS hlt))))
  clear hg2 hg3 hb hr hs hS hlt HR HS
  generalize hW : (w.alloc (.cells (bv key0).toArray 57)).alloc (.cells (bv key0).toArray 57) = W at *
  have HW := Lib.hid hW
  clear hW
  go_enter Tryd.func80, Tryd.ntmps80
  go_upto_region 2 with (first
    | ((with_reducible show wpList _ _ _ ({ dst := some 2, op := Op.alloc _, type := _, pos := _, after := _, guard := _ } :: _) _ _); go_must (refine wpList_alloc_zero rfl 57 rfl (bv key0) zero_key14 ?_))
    | ((with_reducible show wpList _ _ _ ({ dst := some 3, op := Op.alloc _, type := _, pos := _, after := _, guard := _ } :: _) _ _); go_must (refine wpList_alloc_zero rfl 57 rfl (bv key0) zero_key14 ?_)))
  rw [HG3.out, HG2.out, HW.out]
  clear HG3 HG2 HW
  have HN := Lib.hid (next_no14 g A n c 32 sh W.drew RF.out.drew HM.out)
  have hT : Turned W (W.drew.setCell ⟨g, 1, none⟩ (.bool true)) g := drew_turned14 (turned_setCell W.drew ⟨g, 1, none⟩ _)
  have HT := Lib.hid hT
  have RF2 : Hid (Row (W.drew.setCell ⟨g, 1, none⟩ (.bool true)) g 189 (fldC A n c true)) := Lib.hid (RF.out.drew.set_ 1 _)
  clear hT
  generalize W.drew.setCell ⟨g, 1, none⟩ (.bool true) = W1 at *
  have BW := Lib.hid (But.trans (But.of_below HB.out g) (But.of_turned HT.out))
  have R22 := Lib.hid (HT.out.row R2.out NG.out.1)
  have R32 := Lib.hid (HT.out.row R3.out NG.out.2.1)
  clear R2 R3 RF HT HB
  refine wp_region_held_drew (S := (fun V => True)) (by kernel_rfl) trivial (fun _ => ?_)
  refine takeL (i := 0) (v := ?_) rfl (by kernel_rfl) (by kernel_rfl) (by kernel_rfl) (fun _ _ _ h => h) (Or.inl ⟨by rfl, ?_⟩) trivial ?_
  rotate_left
  · intro w hw
    try dsimp only at hw
    go_simp
    try with_reducible rfl
  try simp only [Act.put, List.setIfInBounds_toArray, List.set_cons_zero, List.set_cons_succ]
  refine takeL (i := 1) (v := ?_) rfl (by kernel_rfl) (by kernel_rfl) (by kernel_rfl) (fun _ _ _ h => h) (Or.inl ⟨by rfl, ?_⟩) trivial ?_
  rotate_left
  · intro w hw
    try dsimp only at hw
    go_simp
    try with_reducible rfl
  try simp only [Act.put, List.setIfInBounds_toArray, List.set_cons_zero, List.set_cons_succ]
  refine readyL (i := 2) rfl (by kernel_rfl) (by kernel_rfl) fun K hK => ?_
  go_simp
  refine HN.out.mono ?_
  rintro e w1 ⟨rfl, hw⟩
  obtain rfl := hw.symm
  clear hw HN
  refine hK.out _ _ trivial ?_
  clear hK K
  try simp only [Act.put, List.setIfInBounds_toArray, List.set_cons_zero, List.set_cons_succ]
  refine readyL (i := 3) rfl (by kernel_rfl) (by kernel_rfl) fun K hK => ?_
  refine wp_copy_splice (by rfl) (.tmp 4) (.tmp 6) 23 23 rfl 5 Tryd.underlying23 size_u8_14 (some ⟨g3, 0, none⟩) none 32 32 0 0 (by go_simp) (by go_simp) g3 0 (bv key0) 57 R32.out.is [] rfl (fun h => absurd h (by decide)) (by simp) (by simp) g3 W1 (Below.refl _ _) (Nat.le_refl _) (fun w3 hr3 ht3 => ?_)
  have R33 : Hid (Row w3 g3 57 (bv key0)) := Lib.hid ⟨by have := hr3.out; rw [splice_nil14] at this; exact this⟩
  have B3 := Lib.hid ht3
  have R23 := Lib.hid (R22.out.below B3.out HG23.out.2.1)
  have RF3 := Lib.hid (RF2.out.below B3.out HG23.out.1)
  have BT := Lib.hid (but_low14 BW.out B3.out HG23.out.2.2.1)
  clear hr3 ht3 R22 R32 RF2 BW
  refine hK.out _ _ trivial ?_
  clear hK K
  try simp only [Act.put, List.setIfInBounds_toArray, List.set_cons_zero, List.set_cons_succ]
  refine wpAnyH_done (by kernel_rfl) ?_ _
  go_wp2_with (first
    | ((with_reducible show wpList _ _ _ ({ dst := some 8, op := Op.load _ _, type := _, pos := _, after := _, guard := _ } :: _) _ _); go_must (refine wpList_load_whole rfl 57 (.tmp 3) rfl g3 57 (bv key0) _ Tryd.underlying57 rfl (key_size14 key0_ok.1) R33.out ?_ ?_; go_simp))
    | ((with_reducible show wpList _ _ _ ({ dst := none, op := Op.store 57 _ _, type := _, pos := _, after := _, guard := _ } :: _) _ _); go_must (refine wpList_store_whole rfl 57 (.tmp 2) (.tmp 8) rfl g2 (bv key0) (bv key0) R23.out (key_size14 key0_ok.1) rfl (bv_one _) ?_ ?_ ?_; go_simp; go_simp; intro w4 hr4 ht4; have R4 := Lib.hid hr4; have T4 := Lib.hid ht4; clear hr4 ht4)))
  refine bodyPost_ret (results_cell_row (h := rfl) _ w4 g2 57 _ (0, 0) _ (by rfl) R4.out.is Tryd.underlying57 rfl (key_size14 key0_ok.1)) rfl ?_
  exact ⟨rfl, T4.out.row RF3.out (Ne.symm NG.out.1), but_turned14 BT.out T4.out HG23.out.2.2.2⟩
end Go.Proofs.YtfaefpniiiandaaDoor

/-
  Of part SysRdMath14: what is needed here.
-/
namespace Go.Proofs.YtfaefpniiiandaaDoor
open Go.RowKit
set_option linter.unusedVariables false
set_option maxRecDepth 100000
/-- what is left of data: a number, a key, taken from its front -/
def numS (zs : List Int) (sh : Bool) (m : Nat) : Int := if m ≤ zs.length then num zs m else 0
def keyS (zs : List Int) : List Int := if 32 ≤ zs.length then zs.take 32 else key0
def resS (zs : List Int) (m : Nat) : List Int := if m ≤ zs.length then zs.drop m else zs
def shS (zs : List Int) (sh : Bool) (m : Nat) : Bool := if m ≤ zs.length then sh else true
/-- fields in a block -/
structure FIn (w : World) (g S : Nat) (zs : List Int) (sh : Bool) : Prop where
  is : ∃ A c, Row w g 189 (fldC A zs.length c sh) ∧ Sees w S A zs.length (bv zs) ∧ zs.length ≤ c ∧ c ≤ maxLen
  all : AllBytes zs
theorem FIn.lt {w : World} {g S : Nat} {zs : List Int} {sh : Bool} (h : FIn w g S zs sh) : g < w.heap.size := by
  obtain ⟨A, c, hr, _⟩ := h.is
  exact hr.lt
theorem FIn.keep {w w' : World} {g S : Nat} {zs : List Int} {sh : Bool} (h : FIn w g S zs sh) (hS : S ≤ g) {p : Nat} (hb : But p w w') (hp : p ≠ g) (hSp : S ≤ p) : FIn w' g S zs sh := by
  obtain ⟨A, c, hr, hs, r⟩ := h.is
  exact ⟨⟨A, c, hb.row hr (Ne.symm hp), hs.below (hb.below hSp (Nat.le_of_lt (Nat.lt_of_le_of_lt hS hr.lt))), r⟩, h.all⟩
theorem tail_in14 {w w' : World} {g S n c m : Nat} {sh : Bool} {A : Option Addr} {zs : List Int} (hr : Row w' g 189 (fldC (tailAt A c m) (n - m) (c - m) sh)) (hs : Sees w S A n (bv zs)) (hz : AllBytes zs) (hm : m ≤ n) (hnc : n ≤ c) (hc : c ≤ maxLen) (hb : Below S w w') : FIn w' g S (zs.drop m) sh := by
  have hl := hs.len
  rw [bv_length] at hl
  have h1 := (hs.tail hm hnc).below hb
  have e : (zs.drop m).length = n - m := by rw [List.length_drop, hl]
  refine ⟨⟨tailAt A c m, c - m, by rw [e]; exact hr, by rw [e]; simpa [bv, cv] using h1, by rw [e]; omega, by omega⟩, all_drop14 hz m⟩
theorem number14 (g S m : Nat) (sh : Bool) (zs : List Int) (w : World) (h : FIn w g S zs sh) (hS : S ≤ g) (h1 : 1 ≤ m) (h8 : m ≤ 8) :
    Calls Tryd.prog 79 #[.pointer (some ⟨g, 0, none⟩), .int .i64 m] w fun e w' => e = .returned (.int .u64 (numS zs sh m)) ∧ FIn w' g S (resS zs m) (shS zs sh m) ∧ But g w w' := by
  obtain ⟨A, c, hr, hs, hnc, hc⟩ := h.is
  unfold numS resS shS
  by_cases hm : m ≤ zs.length
  · rw [if_pos hm, if_pos hm, if_pos hm]
    refine (number_ok14 g A zs.length c m S sh zs w hr hs hS h.all h1 h8 hm hnc hc).mono ?_
    rintro e w' ⟨rfl, rfl⟩
    have ht := turned_setCell w ⟨g, 0, none⟩ (.slice (tailAt A c m) (zs.length - m) (c - m))
    exact ⟨rfl, tail_in14 (hr.set_ 0 _) hs h.all hm hnc hc (ht.below hS), But.of_turned ht⟩
  · rw [if_neg hm, if_neg hm, if_neg hm]
    refine (number_no14 g A zs.length c m sh w hr h1 h8 (by omega)).mono ?_
    rintro e w' ⟨rfl, rfl⟩
    have ht := turned_setCell w ⟨g, 1, none⟩ (.bool true)
    exact ⟨rfl, ⟨⟨A, c, hr.set_ 1 _, hs.below (ht.below hS), hnc, hc⟩, h.all⟩, But.of_turned ht⟩
theorem key14 (g S : Nat) (sh : Bool) (zs : List Int) (w : World) (h : FIn w g S zs sh) (hS : S ≤ g) :
    Calls Tryd.prog 80 #[.pointer (some ⟨g, 0, none⟩)] w fun e w' => e = .returned (.agg (bv (keyS zs)).toArray) ∧ FIn w' g S (resS zs 32) (shS zs sh 32) ∧ But g w w' := by
  obtain ⟨A, c, hr, hs, hnc, hc⟩ := h.is
  have hlt := hr.lt
  unfold keyS resS shS
  by_cases hm : 32 ≤ zs.length
  · rw [if_pos hm, if_pos hm, if_pos hm]
    refine (key_ok14 g A zs.length c S sh zs w hr hs hS hm hnc hc).mono ?_
    rintro e w' ⟨rfl, hr', hb⟩
    exact ⟨rfl, tail_in14 hr' hs h.all hm hnc hc (hb.below hS (by omega)), hb⟩
  · rw [if_neg hm, if_neg hm, if_neg hm]
    refine (key_no14 g A zs.length c S sh zs w hr hs hS (by omega)).mono ?_
    rintro e w' ⟨rfl, hr', hb⟩
    exact ⟨rfl, ⟨⟨A, c, hr', hs.below (hb.below hS (by omega)), hnc, hc⟩, h.all⟩, hb⟩
theorem keyS_len (zs : List Int) : (keyS zs).length = 32 := by
  unfold keyS
  split
  · rw [List.length_take]; omega
  · rfl
/-! ### what read answers -/
/-- read: the order, and whether it is one -/
structure Rd14 where
  y : LAsk
  ok : Bool
def end14 (y : LAsk) (zs : List Int) (sh : Bool) : Rd14 := ⟨y, !sh && decide (zs.length = 0)⟩
def rd14 (zs : List Int) : Rd14 :=
  let t := numS zs false 4
  let z1 := resS zs 4
  let s1 := shS zs false 4
  if t = 0 then end14 ⟨0, numS z1 s1 8, numS (resS z1 8) (shS z1 s1 8) 8, keyS (resS (resS z1 8) 8)⟩ (resS (resS (resS z1 8) 8) 32) (shS (resS (resS z1 8) 8) (shS (resS z1 8) (shS z1 s1 8) 8) 32)
  else if t = 1 then end14 ⟨1, 0, 0, keyS z1⟩ (resS z1 32) (shS z1 s1 32)
  else if t = 2 then end14 ⟨2, numS z1 s1 8, 0, key0⟩ (resS z1 8) (shS z1 s1 8)
  else if t = 8 then end14 ⟨8, 0, numS z1 s1 8, key0⟩ (resS z1 8) (shS z1 s1 8)
  else ⟨ask0, false⟩
theorem rd_dat14 (zs : List Int) : (rd14 zs).ok = (dat14 zs).isSome ∧ ∀ x, dat14 zs = some x → (rd14 zs).y = x := by
  unfold rd14 dat14
  by_cases h4 : zs.length < 4
  · have e1 : numS zs false 4 = 0 := by unfold numS; rw [if_neg (by omega)]
    have e2 : resS zs 4 = zs := by unfold resS; rw [if_neg (by omega)]
    have e3 : resS zs 8 = zs := by unfold resS; rw [if_neg (by omega)]
    have e4 : shS zs (shS zs false 4) 8 = true := by unfold shS; rw [if_neg (by omega : ¬ 8 ≤ zs.length)]
    have e5 : ∀ b, shS zs b 8 = true := fun b => by unfold shS; rw [if_neg (by omega)]
    have e6 : ∀ b, shS zs b 32 = true := fun b => by unfold shS; rw [if_neg (by omega)]
    rw [if_pos h4]
    dsimp only
    rw [e1, if_pos rfl, e2]
    simp only [e3, e6]
    exact ⟨rfl, fun x hx => by cases hx⟩
  · have e1 : numS zs false 4 = num zs 4 := by unfold numS; rw [if_pos (by omega)]
    have e2 : resS zs 4 = zs.drop 4 := by unfold resS; rw [if_pos (by omega)]
    have e3 : shS zs false 4 = false := by unfold shS; rw [if_pos (by omega)]
    rw [if_neg h4]
    dsimp only
    rw [e1, e2, e3]
    have hl : (zs.drop 4).length = zs.length - 4 := List.length_drop
    by_cases t0 : num zs 4 = 0
    · rw [if_pos t0]
      by_cases hn : zs.length = 52
      · have a1 : 8 ≤ (zs.drop 4).length := by omega
        have f1 : resS (zs.drop 4) 8 = zs.drop 12 := by unfold resS; rw [if_pos a1, List.drop_drop]
        have l2 : (zs.drop 12).length = 40 := by rw [List.length_drop]; omega
        have f2 : resS (zs.drop 12) 8 = zs.drop 20 := by unfold resS; rw [if_pos (by omega), List.drop_drop]
        have l3 : (zs.drop 20).length = 32 := by rw [List.length_drop]; omega
        have f3 : resS (zs.drop 20) 32 = zs.drop 52 := by unfold resS; rw [if_pos (by omega), List.drop_drop]
        have l4 : (zs.drop 52).length = 0 := by rw [List.length_drop]; omega
        rw [f1, f2, f3, if_pos ⟨t0, hn⟩]
        have g1 : shS (zs.drop 4) false 8 = false := by unfold shS; rw [if_pos a1]
        have g2 : shS (zs.drop 12) false 8 = false := by unfold shS; rw [if_pos (by omega)]
        have g3 : shS (zs.drop 20) false 32 = false := by unfold shS; rw [if_pos (by omega)]
        rw [g1, g2, g3]
        have n1 : numS (zs.drop 4) false 8 = num (zs.drop 4) 8 := by unfold numS; rw [if_pos a1]
        have n2 : numS (zs.drop 12) false 8 = num (zs.drop 12) 8 := by unfold numS; rw [if_pos (by omega)]
        have k3 : keyS (zs.drop 20) = zs.drop 20 := by unfold keyS; rw [if_pos (by omega), List.take_of_length_le (by omega)]
        rw [n1, n2, k3]
        exact ⟨by simp [end14, l4], fun x hx => by cases hx; rfl⟩
      · have q0 : ¬ (num zs 4 = 0 ∧ zs.length = 52) := fun h => hn h.2
        have q1 : ¬ (num zs 4 = 1 ∧ zs.length = 36) := fun h => by omega
        have q2 : ¬ (num zs 4 = 2 ∧ zs.length = 12) := fun h => by omega
        have q8 : ¬ (num zs 4 = 8 ∧ zs.length = 12) := fun h => by omega
        rw [if_neg q0, if_neg q1, if_neg q2, if_neg q8]
        refine ⟨?_, fun x hx => by cases hx⟩
        show (!_ && decide _) = false
        by_cases a1 : 8 ≤ (zs.drop 4).length
        · have f1 : resS (zs.drop 4) 8 = zs.drop 12 := by unfold resS; rw [if_pos a1, List.drop_drop]
          have l2 : (zs.drop 12).length = zs.length - 12 := List.length_drop
          rw [f1]
          by_cases a2 : 8 ≤ (zs.drop 12).length
          · have f2 : resS (zs.drop 12) 8 = zs.drop 20 := by unfold resS; rw [if_pos a2, List.drop_drop]
            have l3 : (zs.drop 20).length = zs.length - 20 := List.length_drop
            rw [f2]
            by_cases a3 : 32 ≤ (zs.drop 20).length
            · have f3 : resS (zs.drop 20) 32 = zs.drop 52 := by unfold resS; rw [if_pos a3, List.drop_drop]
              rw [f3, decide_eq_false (by rw [List.length_drop]; omega), Bool.and_false]
            · have : ∀ b, shS (zs.drop 20) b 32 = true := fun b => by unfold shS; rw [if_neg a3]
              rw [this]; rfl
          · have f2 : resS (zs.drop 12) 8 = zs.drop 12 := by unfold resS; rw [if_neg a2]
            have : ∀ b, shS (zs.drop 12) b 32 = true := fun b => by unfold shS; rw [if_neg (by omega)]
            rw [f2, this]; rfl
        · have f1 : resS (zs.drop 4) 8 = zs.drop 4 := by unfold resS; rw [if_neg a1]
          have : ∀ b, shS (zs.drop 4) b 32 = true := fun b => by unfold shS; rw [if_neg (by omega)]
          rw [f1, f1, this]; rfl
    · have q0 : ¬ (num zs 4 = 0 ∧ zs.length = 52) := fun h => t0 h.1
      rw [if_neg t0, if_neg q0]
      by_cases t1 : num zs 4 = 1
      · rw [if_pos t1]
        by_cases a1 : 32 ≤ (zs.drop 4).length
        · have f1 : resS (zs.drop 4) 32 = zs.drop 36 := by unfold resS; rw [if_pos a1, List.drop_drop]
          have g1 : shS (zs.drop 4) false 32 = false := by unfold shS; rw [if_pos a1]
          rw [f1, g1]
          by_cases hn : zs.length = 36
          · rw [if_pos ⟨t1, hn⟩]
            have k1 : keyS (zs.drop 4) = zs.drop 4 := by unfold keyS; rw [if_pos a1, List.take_of_length_le (by omega)]
            have l4 : (zs.drop 36).length = 0 := by rw [List.length_drop]; omega
            rw [k1]
            exact ⟨by simp [end14, l4], fun x hx => by cases hx; rfl⟩
          · have q1 : ¬ (num zs 4 = 1 ∧ zs.length = 36) := fun h => hn h.2
            have q2 : ¬ (num zs 4 = 2 ∧ zs.length = 12) := fun h => by omega
            have q8 : ¬ (num zs 4 = 8 ∧ zs.length = 12) := fun h => by omega
            rw [if_neg q1, if_neg q2, if_neg q8]
            refine ⟨?_, fun x hx => by cases hx⟩
            show (!false && decide _) = false
            rw [decide_eq_false (by rw [List.length_drop]; omega)]; rfl
        · have g1 : shS (zs.drop 4) false 32 = true := by unfold shS; rw [if_neg a1]
          have q1 : ¬ (num zs 4 = 1 ∧ zs.length = 36) := fun h => by omega
          have q2 : ¬ (num zs 4 = 2 ∧ zs.length = 12) := fun h => by omega
          have q8 : ¬ (num zs 4 = 8 ∧ zs.length = 12) := fun h => by omega
          rw [if_neg q1, if_neg q2, if_neg q8, g1]
          exact ⟨rfl, fun x hx => by cases hx⟩
      · have q1 : ¬ (num zs 4 = 1 ∧ zs.length = 36) := fun h => t1 h.1
        rw [if_neg t1, if_neg q1]
        have eight : ∀ (y y' : LAsk) (b : Prop) [Decidable b], (8 ≤ (zs.drop 4).length → y = y') → (b ↔ zs.length = 12) → (end14 y (resS (zs.drop 4) 8) (shS (zs.drop 4) false 8)).ok = (if b then some y' else (none : Option LAsk)).isSome ∧ ∀ x, (if b then some y' else (none : Option LAsk)) = some x → (end14 y (resS (zs.drop 4) 8) (shS (zs.drop 4) false 8)).y = x := by
          intro y y' b _ hy hb
          by_cases a1 : 8 ≤ (zs.drop 4).length
          · have f1 : resS (zs.drop 4) 8 = zs.drop 12 := by unfold resS; rw [if_pos a1, List.drop_drop]
            have g1 : shS (zs.drop 4) false 8 = false := by unfold shS; rw [if_pos a1]
            rw [f1, g1, hy a1]
            by_cases hn : zs.length = 12
            · rw [if_pos (hb.2 hn)]
              have l4 : (zs.drop 12).length = 0 := by rw [List.length_drop]; omega
              exact ⟨by simp [end14, l4], fun x hx => by cases hx; rfl⟩
            · rw [if_neg (fun h => hn (hb.1 h))]
              refine ⟨?_, fun x hx => by cases hx⟩
              show (!false && decide _) = false
              rw [decide_eq_false (by rw [List.length_drop]; omega)]; rfl
          · have g1 : shS (zs.drop 4) false 8 = true := by unfold shS; rw [if_neg a1]
            rw [if_neg (fun h => by have := hb.1 h; omega), g1]
            exact ⟨rfl, fun x hx => by cases hx⟩
        have n1 : 8 ≤ (zs.drop 4).length → numS (zs.drop 4) false 8 = num (zs.drop 4) 8 := fun a1 => by unfold numS; rw [if_pos a1]
        by_cases t2 : num zs 4 = 2
        · rw [if_pos t2]
          have := eight ⟨2, numS (zs.drop 4) false 8, 0, key0⟩ ⟨2, num (zs.drop 4) 8, 0, key0⟩ (num zs 4 = 2 ∧ zs.length = 12) (fun a1 => by rw [n1 a1]) ⟨fun h => h.2, fun h => ⟨t2, h⟩⟩
          by_cases hn : num zs 4 = 2 ∧ zs.length = 12
          · rw [if_pos hn] at this ⊢
            exact this
          · rw [if_neg hn] at this ⊢
            have q8 : ¬ (num zs 4 = 8 ∧ zs.length = 12) := fun h => by omega
            rw [if_neg q8]
            exact this
        · have q2 : ¬ (num zs 4 = 2 ∧ zs.length = 12) := fun h => t2 h.1
          rw [if_neg t2, if_neg q2]
          by_cases t8 : num zs 4 = 8
          · rw [if_pos t8]
            exact eight ⟨8, 0, numS (zs.drop 4) false 8, key0⟩ ⟨8, 0, num (zs.drop 4) 8, key0⟩ (num zs 4 = 8 ∧ zs.length = 12) (fun a1 => by rw [n1 a1]) ⟨fun h => h.2, fun h => ⟨t8, h⟩⟩
          · have q8 : ¬ (num zs 4 = 8 ∧ zs.length = 12) := fun h => t8 h.1
            rw [if_neg t8, if_neg q8]
            exact ⟨rfl, fun x hx => by cases hx⟩
end Go.Proofs.YtfaefpniiiandaaDoor
