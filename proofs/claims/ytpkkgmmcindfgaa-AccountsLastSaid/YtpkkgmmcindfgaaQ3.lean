/-
  Parts joined: Store13 RefGet13 Str13 Tabs Resolve Lives6 Elems Known Of7 RefPut13 RefCoins13 RefCopy13 Range13.
-/
import Derived.Below
import Derived.Laws.OwnMore
import Derived.Deep.AppendLies
import Derived.Deep.Draws
import Derived.Lib.Hide
import Derived.Laws.MakeOwn
import Derived.Laws.CopyOwn
import Derived.Laws.Rows
import Derived.Laws.BitsAllLaws
import Derived.WalkKit
import Derived.Test.YtpkkgmmcindfgaaRows
import Derived.WalkSpells
import Derived.WalkLawsBesides
import Derived.IntWalk
import Derived.Deep.MidRow
import Derived.Deep.WholeRow
import Derived.Maps.AppendAt
import Derived.OwnWalk
import Derived.Great.BuildSlice
import Derived.Recover
import Derived.Deep.RegionHeld
import Derived.Deep.QuietTactic
import Derived.BigQuiet
import Derived.ChangeKeysEq
import Derived.ProofKit
import Derived.OpenShut
import Derived.ShutString
import Derived.ChangeOld
import Derived.Lib.SmallJoins
import Derived.Deep.Slices
import Derived.Deep.Strs
import Derived.SizedLaws
import Derived.Deep.RegionHeld2
import Derived.Deep.CutBlock
import Derived.Laws.Tables
import Derived.Laws.StructEq
import Derived.Maps.OwnSet
import Derived.DeepKeys4
import Derived.WideKeyArr
import Derived.Maps.RangeWalk
import Derived.Laws.Slices
import Derived.Deep.DeepCutAuto
import Derived.Laws.EntriesVeiled
import Derived.Deep.RegionHeld3
import Derived.WalkMore
import Derived.WideKeyEntry
import Derived.Shelf.SlMaps.Clone
import Derived.Laws.BytesArg
import Derived.Laws.Strings
import Derived.Lib.Strings
import Derived.Great.Walk
import Derived.Laws.Bits64b
import Derived.Laws.Externs
import Derived.Test.YtpkkgmmcindfgaaQ1
import Derived.Test.YtpkkgmmcindfgaaQ2
/-
  Of part Store13: what is needed here.
-/
namespace Go.Proofs.Ytpkkgmmcindfgaa
open Go.RowKit Go.Maps
set_option linter.unusedVariables false
set_option maxRecDepth 100000
theorem zero_key : (Try.prog.info? 24).map (·.zero) = some (some (.agg (bv (List.replicate 32 0)).toArray)) := by kernel_rfl
/-- the keys of accounts -/
def ks13 (L : List LHold) : List (List Int) := L.map LHold.k
theorem mem_ks13 {L : List LHold} {k : List Int} : k ∈ ks13 L ↔ ∃ x ∈ L, x.k = k := by simp [ks13]
theorem ks13_len (L : List LHold) : (ks13 L).length = L.length := List.length_map _
theorem ks13_nodup : ∀ {L : List LHold}, (L.Pairwise fun x y => kless x.k y.k = true) → (ks13 L).Nodup
  | [], _ => List.nodup_nil
  | x :: r, h => by
    obtain ⟨h1, h2⟩ := List.pairwise_cons.1 h
    refine List.nodup_cons.2 ⟨fun hm => ?_, ks13_nodup h2⟩
    obtain ⟨y, hy, e⟩ := mem_ks13.1 hm
    exact kless_ne (h1 y hy) e.symm
theorem getH_in {L : List LHold} {k : List Int} : (k ∈ ks13 L → ⟨k, getH L k⟩ ∈ L) ∧ (k ∉ ks13 L → getH L k = blank13) := by
  rcases getH_cases L k with ⟨h1, h2⟩ | h1
  · exact ⟨fun hm => by obtain ⟨x, hx, e⟩ := mem_ks13.1 hm; exact absurd e (h1 x hx), fun _ => h2⟩
  · exact ⟨fun _ => h1, fun hm => absurd (mem_ks13.2 ⟨_, h1, rfl⟩) hm⟩
theorem AD.swap {D : DataW Unit} {ks ks' : List (List Int)} {f f' : List Int → LAcc} (h : AD D ks f) (hd : ks'.Nodup) (hm : ∀ x, x ∈ ks' ↔ x ∈ ks) (hf : ∀ x ∈ ks, f' x = f x) : AD D ks' f' := by
  refine ⟨h.tidy, fun kl => ?_, fun k hk z => ?_, hd, fun k hk => ?_, ?_⟩
  · rw [h.has]
    constructor
    · rintro ⟨x, hx, rfl⟩; exact ⟨x, (hm x).2 hx, rfl⟩
    · rintro ⟨x, hx, rfl⟩; exact ⟨x, (hm x).1 hx, rfl⟩
  · rw [hf k ((hm k).1 hk)]
    exact h.at_ k ((hm k).1 hk) z
  · rw [hf k ((hm k).1 hk)]
    exact h.ok k ((hm k).1 hk)
  · rw [h.size]
    exact ((List.perm_ext_iff_of_nodup h.nodup hd).2 fun x => (hm x).symm).length_eq
theorem owns_tight {H : Type} {P : Program} {k : TypeId} {R : Value → Option (DataW H × List MemPlace)} {w : World} {b n : Nat} {D : DataW H} (h : w.ownsMap P k R b n D) : w.ownsMap P k R b (Go.Maps.size D) D := by
  obtain ⟨es, clock, hb, F, hs, rfl⟩ := h
  exact ⟨es, clock, hb, F, by simp [Go.Maps.size, length_sorted], rfl⟩
/-- a store in a block of its own, with its map -/
structure StIn (w : World) (sb mb : Nat) (L : List LHold) : Prop where
  row : Row w sb 55 [.map (some mb)]
  map : ∃ D, w.ownsMap Try.prog 24 accE mb L.length D ∧ AD D (ks13 L) (getH L)
  sto : Sto L
theorem StIn.keep {w w' : World} {sb mb : Nat} {L : List LHold} (h : StIn w sb mb L) (h1 : w'.heap[sb]? = w.heap[sb]?) (h2 : w'.heap[mb]? = w.heap[mb]?) : StIn w' sb mb L := by
  obtain ⟨D, ⟨es, cl, hm, F, hs, hD⟩, had⟩ := h.map
  exact ⟨⟨h1.trans h.row.is⟩, ⟨D, ⟨es, cl, h2.trans hm, F, hs, hD⟩, had⟩, h.sto⟩
theorem StIn.heap {w : World} {sb mb : Nat} {L : List LHold} (h : StIn w sb mb L) : ∃ es cl, w.heap[mb]? = some (.map es cl) := by
  obtain ⟨D, ⟨es, cl, hm, _⟩, _⟩ := h.map
  exact ⟨es, cl, hm⟩
theorem StIn.lt {w : World} {sb mb : Nat} {L : List LHold} (h : StIn w sb mb L) : sb < w.heap.size ∧ mb < w.heap.size := by
  obtain ⟨es, cl, hm⟩ := h.heap
  exact ⟨h.row.lt, (Array.getElem?_eq_some_iff.1 hm).1⟩
theorem StIn.below {w w' : World} {sb mb : Nat} {L : List LHold} (h : StIn w sb mb L) (hb : Below w.heap.size w w') : StIn w' sb mb L := h.keep (hb.block _ h.lt.1) (hb.block _ h.lt.2)
theorem StIn.row_ne {w : World} {sb mb g t : Nat} {L : List LHold} {xs : List Value} (h : StIn w sb mb L) (hr : Row w g t xs) : g ≠ mb := by
  rintro rfl
  obtain ⟨es, cl, hm⟩ := h.heap
  rw [hr.is] at hm
  cases hm
theorem StIn.own_ne {w : World} {sb mb base size n : Nat} {e : TypeId} {u : Value} {L : List LHold} {xs : List Value} (h : StIn w sb mb L) (ho : w.ownsRow base e size u n xs) : ∀ g, u.ownBlock = some g → g ≠ mb := fun g hg e => by
  subst e
  obtain ⟨es, cl, hm⟩ := h.heap
  obtain ⟨cur, hc⟩ := own_is ho hg
  rw [hc] at hm
  cases hm
theorem StIn.ne {w : World} {sb mb : Nat} {L : List LHold} (h : StIn w sb mb L) : sb ≠ mb := h.row_ne h.row
/-- a store that is not there, or that no call made -/
def NoSt (w : World) (v : Value) : Prop := v = .pointer none ∨ ∃ b, v = .pointer (some ⟨b, 0, none⟩) ∧ Row w b 55 [.map none]
theorem NoSt.below {V V' : World} {v : Value} (h : NoSt V v) (hb : Below V.heap.size V V') : NoSt V' v := by
  rcases h with h | ⟨b, h1, h2⟩
  · exact .inl h
  · exact .inr ⟨b, h1, h2.below hb h2.lt⟩
theorem neq_map13 (w : World) (r : Option Nat) : (binOp .neq 53 (.map r) (.map none)).run Try.prog w = .ok (.bool (!r.isNone)) w := run_neq_map_nil w _ _ _ r Try.underlying53
theorem eql_map13 (w : World) (r : Option Nat) : (binOp .eql 53 (.map r) (.map none)).run Try.prog w = .ok (.bool r.isNone) w := run_eql_map_nil_sl (P := Try.prog) w 53 _ _ r Try.underlying53
set_option maxHeartbeats 400000 in
theorem noth13 (v : Value) (w : World) (h : NoSt w v) : Calls Try.prog 25 #[v] w fun e w' => e = .returned (.bool false) ∧ w = w' := by
  have hm := neq_map13
  rcases h with rfl | ⟨b, rfl, hr⟩
  · go_enter Try.func25, Try.ntmps25
    go_wp2_with fail
    go_ret
    exact ⟨rfl, rfl⟩
  · have c0 : w.cell? ⟨b, 0, none⟩ = some (.map none) := hr.cell 0
    clear hr
    go_enter Try.func25, Try.ntmps25
    go_wp2_with fail
    go_ret
    exact ⟨rfl, rfl⟩
set_option maxHeartbeats 400000 in
theorem there13 (sb mb : Nat) (L : List LHold) (w : World) (h : StIn w sb mb L) : Calls Try.prog 25 #[.pointer (some ⟨sb, 0, none⟩)] w fun e w' => e = .returned (.bool true) ∧ w = w' := by
  have hm := neq_map13
  have c0 : w.cell? ⟨sb, 0, none⟩ = some (.map (some mb)) := h.row.cell 0
  clear h
  go_enter Try.func25, Try.ntmps25
  go_wp2_with fail
  go_ret
  exact ⟨rfl, rfl⟩
theorem st_new {W : World} {sb mb n : Nat} {D : DataW Unit} {L : List LHold} (hr : Row W sb 55 [.map (some mb)]) (ho : W.ownsMap Try.prog 24 accE mb n D) (ha : AD D (ks13 L) (getH L)) (hs : Sto L) : StIn W sb mb L := by
  have h1 := owns_tight ho
  rw [ha.size, ks13_len] at h1
  exact ⟨hr, ⟨D, h1, ha⟩, hs⟩
set_option maxHeartbeats 400000 in
theorem new13 (w : World) : Calls Try.prog 9 #[] w fun e w' => ∃ sb mb, e = .returned (.pointer (some ⟨sb, 0, none⟩)) ∧ StIn w' sb mb [] ∧ w.heap.size ≤ sb ∧ w.heap.size ≤ mb ∧ Below w.heap.size w w' := by
  have hmm := @run_makeMap Try.prog
  have HR : Hid (StIn ((w.alloc (.map #[] 0)).alloc (.cells #[.map (some w.heap.size)] 55)) (w.heap.size + 1) w.heap.size []) := Lib.hid
    (st_new (Row.new' _ 55 [.map (some w.heap.size)] (by simp)) ((World.ownsMap_made w Try.prog 24 accE).kept (World.grownBy_alloc _ _ none) (by simp)) (ad_nil _) sto_nil)
  have HB := Lib.hid (((Below.refl w.heap.size w).alloc (Nat.le_refl _) (.map #[] 0)).alloc (by simp) (.cells #[.map (some w.heap.size)] 55))
  go_enter Try.func9, Try.ntmps9
  go_wp2_with fail
  go_ret
  exact ⟨_, _, rfl, HR.out, Nat.le_succ _, Nat.le_refl _, HB.out⟩
/-- 'm[k]', of a store -/
theorem StIn.look {w : World} {sb mb : Nat} {L : List LHold} (h : StIn w sb mb L) {k : List Int} (hk : k.length = 32 ∧ AllBytes k) : (Instr.lookup 53 (.map (some mb)) (.agg (bv k).toArray) false).run Try.prog w = .ok (.agg (getH L k).cells.toArray) w := by
  obtain ⟨D, ho, ha⟩ := h.map
  rw [acc_lookup ho ha hk]
  split
  · rfl
  · rename_i hn
    rw [getH_in.2 hn]
theorem exec_lookup13 {a : Act} {o : Oper} (w : World) (m x : Operand) (hop : o.op = Op.lookup 53 m x false) (b : Nat) (k : List Int) (v : Value) (hm : a.eval m = .map (some b)) (hx : a.eval x = .agg (bv k).toArray)
    (hr : (Instr.lookup 53 (.map (some b)) (.agg (bv k).toArray) false).run Try.prog w = .ok v w) : (execOp a.eval o).run Try.prog w = .ok (.value v) w := by
  unfold execOp
  simp only [hop, hm, hx, Sem.run_bind, Sem.run_pure, hr, Result.andThen_ok]
set_option maxHeartbeats 4000000 in
theorem get13 (sb mb : Nat) (L : List LHold) (k : List Int) (w : World) (h : StIn w sb mb L) (hk : k.length = 32 ∧ AllBytes k) : Calls Try.prog 14 #[.pointer (some ⟨sb, 0, none⟩), .agg (bv k).toArray] w fun e w' => e = .returned (.agg (getH L k).cells.toArray) ∧ Below w.heap.size w w' := by
  have hbw := ((Below.refl w.heap.size w).alloc (Nat.le_refl _) (.cells (bv k).toArray 24)).alloc (by simp) (.cells blank13.cells.toArray 35)
  have S0 := Lib.hid (h.below hbw)
  have RX0 := Lib.hid ((Row.new w 24 (bv k)).alloc (.cells blank13.cells.toArray 35))
  have RF0 := Lib.hid (Row.new' (w.alloc (.cells (bv k).toArray 24)) 35 blank13.cells (g := w.heap.size + 1) (by simp))
  have HSZ : Hid ((Try.prog.info? 24).map (·.size) = some (bv k).length) := Lib.hid (by rw [size_key, bv_length, hk.1])
  have HGA := Lib.hid (h.sto.get_ok k)
  have HSA := Lib.hid (size_acc HGA.out.o.1)
  have HLA : Hid (blank13.cells.length = (getH L k).cells.length) := Lib.hid (by rw [acc_len HGA.out.o.1]; rfl)
  have HBW := Lib.hid hbw
  have HK := Lib.hid hk
  have H0 := Lib.hid h
  have HGF : Hid (w.heap.size ≠ w.heap.size + 1) := Lib.hid (by omega)
  obtain ⟨f, hf⟩ : ∃ f, f = w.heap.size + 1 := ⟨_, rfl⟩
  obtain ⟨g, hg⟩ : ∃ g, g = w.heap.size := ⟨_, rfl⟩
  have HF : Hid (w.heap.size + 1 = f) := Lib.hid hf.symm
  have HG : Hid (w.heap.size = g) := Lib.hid hg.symm
  have HFG : Hid (w.heap.size ≤ f) := Lib.hid (by omega)
  rw [← hf] at RF0 HGF
  rw [← hg] at RX0 HGF
  generalize hWW : (w.alloc (.cells (bv k).toArray 24)).alloc (.cells blank13.cells.toArray 35) = W at *
  have HWW := Lib.hid hWW
  clear hWW hf hg hbw h hk
  have HT := Lib.hid (there13 sb mb L W S0.out)
  generalize hGL : getH L k = y at *
  have HGL := Lib.hid hGL
  clear hGL
  go_enter Try.func14, Try.ntmps14
  go_wp2_with ((with_reducible show wpList _ _ _ ({ dst := some 4, op := Op.alloc _, type := _, pos := _, after := _, guard := _ } :: _) _ _); go_must (refine wpList_alloc_zero rfl 35 rfl blank13.cells zero_acc ?_))
  rw [HF.out, HG.out, HWW.out]
  clear HF HG HWW
  refine HT.out.mono ?_
  rintro e w' ⟨rfl, rfl⟩
  clear HT
  go_wp2_with fail
  have HB0 := Lib.hid (show Below w.heap.size w W.drew from HBW.out.drew)
  have RX1 := Lib.hid RX0.out.drew
  refine wp_region_held_drew (S := (fun V => Below w.heap.size w V ∧ Row V g 24 (bv k))) (by kernel_rfl) ⟨HB0.out, RX1.out⟩ (fun _ => ?_)
  refine takeL (i := 0) (v := ?_) rfl (by kernel_rfl) (by kernel_rfl) (by kernel_rfl) (fun _ _ _ h => h) (Or.inl ⟨by rfl, ?_⟩) ⟨HB0.out, RX1.out⟩ ?_
  rotate_left
  · intro w hw
    try dsimp only at hw
    go_simp
    try with_reducible rfl
  try simp only [Act.put, List.setIfInBounds_toArray, List.set_cons_zero, List.set_cons_succ]
  refine takeL (i := 1) (v := ?_) rfl (by kernel_rfl) (by kernel_rfl) (by kernel_rfl) (fun _ _ _ h => h) (Or.inl ⟨by rfl, ?_⟩) ⟨HB0.out, RX1.out⟩ ?_
  rotate_left
  · intro w hw
    try dsimp only at hw
    go_simp
    try with_reducible rfl
  try simp only [Act.put, List.setIfInBounds_toArray, List.set_cons_zero, List.set_cons_succ]
  refine takeL (i := 2) (v := ?_) rfl (by kernel_rfl) (by kernel_rfl) (by kernel_rfl) (fun _ _ _ h => h) (Or.inl ⟨by rfl, ?_⟩) ⟨HB0.out, RX1.out⟩ ?_
  rotate_left
  · intro w hw
    try dsimp only at hw
    go_simp
    try with_reducible rfl
  try simp only [Act.put, List.setIfInBounds_toArray, List.set_cons_zero, List.set_cons_succ]
  refine takeL (i := 3) (v := ?_) rfl (by kernel_rfl) (by kernel_rfl) (by kernel_rfl) (fun _ _ _ h => h) (Or.inl ⟨by rfl, ?_⟩) ⟨HB0.out, RX1.out⟩ ?_
  rotate_left
  · intro w hw
    try dsimp only at hw
    have hc := (H0.out.below hw.1).row.cell 0
    go_simp
    try with_reducible rfl
  try simp only [Act.put, List.setIfInBounds_toArray, List.set_cons_zero, List.set_cons_succ]
  refine takeL (i := 4) (v := .agg (bv k).toArray) rfl (by kernel_rfl) (by kernel_rfl) (by kernel_rfl) (fun _ _ _ h => h) (Or.inl ⟨by rfl, fun wz hwz => exec_load_at wz 24 (.tmp 3) rfl ⟨g, 0, none⟩ (bv k) _ Try.underlying24 rfl HSZ.out (fun j u hu => by rw [addr_row, Nat.zero_add]; exact (hwz.2.cell j).trans hu) (by go_simp)⟩) ⟨HB0.out, RX1.out⟩ ?_
  try simp only [Act.put, List.setIfInBounds_toArray, List.set_cons_zero, List.set_cons_succ]
  refine takeL (i := 5) (v := .agg y.cells.toArray) rfl (by kernel_rfl) (by kernel_rfl) (by kernel_rfl) (fun _ _ _ h => h) (Or.inl ⟨by rfl, fun wz hwz => exec_lookup13 wz (.tmp 12) (.tmp 13) rfl mb k _ (by go_simp) (by go_simp) (by rw [(H0.out.below hwz.1).look HK.out, HGL.out])⟩) ⟨HB0.out, RX1.out⟩ ?_
  try simp only [Act.put, List.setIfInBounds_toArray, List.set_cons_zero, List.set_cons_succ]
  refine readyL (i := 6) rfl (by kernel_rfl) (by kernel_rfl) fun K hK => ?_
  refine wp_store_whole 35 (.tmp 4) (.tmp 14) rfl f blank13.cells y.cells RF0.out.drew HSA.out HLA.out (acc_one _) ?_ ?_ ?_
  · go_simp
  · go_simp
  intro w5 hr ht
  have R5 := Lib.hid hr
  have B5 := Lib.hid (show Below w.heap.size w w5 from HB0.out.trans (ht.below HFG.out))
  have X5 := Lib.hid (show Row w5 g 24 (bv k) from ht.row RX1.out HGF.out)
  clear hr ht
  refine hK.out _ _ ⟨B5.out, X5.out⟩ ?_
  clear hK K
  try simp only [Act.put]
  refine wpAnyH_done (by kernel_rfl) ?_ _
  go_wp2_with fail
  refine bodyPost_ret (results_cell_row (h := rfl) _ w5 f 35 _ (0, 0) _ (by rfl) R5.out.is Try.underlying35 rfl HSA.out) rfl ?_
  exact ⟨rfl, B5.out⟩
theorem gb_grown13 {w V V' : World} {b : Nat} (hg : w.grownBy V (some b)) (h : V.grownBy V' (some b)) : w.grownBy V' (some b) :=
  ⟨h.os.trans hg.os, h.tape.trans hg.tape, h.output.trans hg.output, Nat.le_trans hg.size h.size, fun k hk hr => (h.block k (Nat.lt_of_lt_of_le hk hg.size) hr).trans (hg.block k hk hr)⟩
theorem wp_mapUpdate_acc {o : Oper} {a : Act} {w : World} {K : Act → World → Prop} {Q : Exit → Act → World → Prop} (m x v : Operand) (hop : o.op = Op.mapUpdate 53 m x v) (b n : Nat) (D : DataW Unit)
    (hm : a.eval m = .map (some b)) (hown : w.ownsMap Try.prog 24 accE b n D) (hn : n < maxLen) {k : List Int} (hk : k.length = 32 ∧ AllBytes k) {y : LAcc} (hy : AccOk y) (hx : a.eval x = .agg (bv k).toArray) (hv : a.eval v = .agg y.cells.toArray)
    (h : ∀ w', w'.ownsMap Try.prog 24 accE b (n + 1) (D.put (KL k) (accD y)) → w.grownBy w' (some b) → K (a.put o.dst undef) w') : o.wp Try.prog a w K Q := by
  obtain ⟨w', hrun, r1, r2⟩ := hown.update key_law Try.underlying53 hn (KL_is hk.1 hk.2) (accE_mk hy)
  unfold Oper.wp
  simp [execOp, hop, hm, hx, hv, hrun, Result.andThen]
  exact h _ r1 r2
theorem wp_delete_acc {o : Oper} {a : Act} {w : World} {K : Act → World → Prop} {Q : Exit → Act → World → Prop} (m x : Operand) (hop : o.op = Op.call { callee := Callee.builtin Builtin.delete, args := #[m, x], argTypes := #[53, 24] }) (b n : Nat) (D : DataW Unit)
    (hm : a.eval m = .map (some b)) (hown : w.ownsMap Try.prog 24 accE b n D) {k : List Int} (hk : k.length = 32 ∧ AllBytes k) (hx : a.eval x = .agg (bv k).toArray)
    (h : ∀ w', w'.ownsMap Try.prog 24 accE b n (D.del (KL k)) → w.grownBy w' (some b) → K (a.put o.dst (.tuple #[])) w') : o.wp Try.prog a w K Q := by
  obtain ⟨w', hrun, r1, r2⟩ := hown.drop key_law Try.underlying53 (KL_is hk.1 hk.2) o.type
  unfold Oper.wp
  simp [execOp, hop, resolve, invoke, builtin, hm, hx, hrun, Result.andThen]
  exact h _ r1 r2.grown
theorem ks13_put (L : List LHold) (k : List Int) (a : LAcc) (x : List Int) : x ∈ ks13 (putH L k a) ↔ (x ∈ ks13 L ∧ x ≠ k) ∨ (a ≠ blank13 ∧ x = k) := by
  rw [mem_ks13, mem_ks13]
  constructor
  · rintro ⟨y, hy, rfl⟩
    rcases putH_mem.1 hy with ⟨h1, h2⟩ | ⟨h1, rfl⟩
    · exact .inl ⟨⟨y, h1, rfl⟩, h2⟩
    · exact .inr ⟨h1, rfl⟩
  · rintro (⟨⟨y, hy, rfl⟩, h2⟩ | ⟨h1, rfl⟩)
    · exact ⟨y, putH_mem.2 (.inl ⟨hy, h2⟩), rfl⟩
    · exact ⟨_, putH_mem.2 (.inr ⟨h1, rfl⟩), rfl⟩
theorem ad_put13 {D : DataW Unit} {L : List LHold} {k : List Int} {a : LAcc} (h : AD D (ks13 L) (getH L)) (hs : Sto L) (hk : k.length = 32 ∧ AllBytes k) (ha : AccOk a) (hb : a ≠ blank13) : AD (D.put (KL k) (accD a)) (ks13 (putH L k a)) (getH (putH L k a)) := by
  refine (h.put hk ha).swap (ks13_nodup (hs.put hk ha).rise) (fun x => ?_) (fun x _ => ?_)
  · rw [ks13_put, mem_addK]
    by_cases e : x = k
    · simp [e, hb]
    · simp [e]
  · rw [getH_put hs hk ha]
    rfl
theorem ad_del13 {D : DataW Unit} {L : List LHold} {k : List Int} (h : AD D (ks13 L) (getH L)) (hs : Sto L) (hk : k.length = 32 ∧ AllBytes k) : AD (D.del (KL k)) (ks13 (putH L k blank13)) (getH (putH L k blank13)) := by
  refine (h.del hk).swap (ks13_nodup (hs.put hk blank_ok).rise) (fun x => ?_) (fun x hx => ?_)
  · rw [ks13_put]
    simp
  · have hx' : x ≠ k := by simpa using (List.mem_filter.1 hx).2
    rw [getH_put hs hk blank_ok, if_neg hx']
set_option maxHeartbeats 4000000 in
theorem put13 (sb mb : Nat) (L : List LHold) (k : List Int) (a : LAcc) (w : World) (h : StIn w sb mb L) (hk : k.length = 32 ∧ AllBytes k) (ha : AccOk a) (hL : L.length ≤ 900) : Calls Try.prog 12 #[.pointer (some ⟨sb, 0, none⟩), .agg (bv k).toArray, .agg a.cells.toArray] w fun e w' => e = .returned (.int .i64 0) ∧ StIn w' sb mb (putH L k a) ∧ w.grownBy w' (some mb) := by
  have hbw := ((Below.refl w.heap.size w).alloc (Nat.le_refl _) (.cells (bv k).toArray 24)).alloc (by simp) (.cells a.cells.toArray 35)
  have S0 := Lib.hid (h.below hbw)
  have RX0 := Lib.hid ((Row.new w 24 (bv k)).alloc (.cells a.cells.toArray 35))
  have RF0 := Lib.hid (Row.new' (w.alloc (.cells (bv k).toArray 24)) 35 a.cells (g := w.heap.size + 1) (by simp))
  have HSZ : Hid ((Try.prog.info? 24).map (·.size) = some (bv k).length) := Lib.hid (by rw [size_key, bv_length, hk.1])
  have HSA := Lib.hid (size_acc ha.o.1)
  have HA := Lib.hid ha
  have HK := Lib.hid hk
  have HLT := Lib.hid h.lt
  have HNE := Lib.hid h.ne
  obtain ⟨f, hf⟩ : ∃ f, f = w.heap.size + 1 := ⟨_, rfl⟩
  obtain ⟨g, hg⟩ : ∃ g, g = w.heap.size := ⟨_, rfl⟩
  have HF : Hid (w.heap.size + 1 = f) := Lib.hid hf.symm
  have HG : Hid (w.heap.size = g) := Lib.hid hg.symm
  have NG : Hid (some g ≠ some mb) := Lib.hid (by have := HLT.out; intro e; cases e; omega)
  have NF : Hid (some f ≠ some mb) := Lib.hid (by have := HLT.out; intro e; cases e; omega)
  have NS : Hid (some sb ≠ some mb) := Lib.hid (by have := HNE.out; intro e; cases e; exact this rfl)
  rw [← hf] at RF0
  rw [← hg] at RX0
  have HGB := Lib.hid (gb_of (some mb) hbw)
  generalize hWW : (w.alloc (.cells (bv k).toArray 24)).alloc (.cells a.cells.toArray 35) = W at *
  have HWW := Lib.hid hWW
  have HSB := Lib.hid hbw.size
  clear hWW hf hg hbw h hk ha
  have HT := Lib.hid (there13 sb mb L W S0.out)
  have HEQ := Lib.hid (fun w => acc_eql (x := a) (y := blank13) HA.out.o.1 rfl w)
  go_enter Try.func12, Try.ntmps12
  go_upto_region 1 with fail
  rw [HF.out, HG.out, HWW.out]
  clear HF HG HWW
  go_wp2_with fail
  refine HT.out.mono ?_
  rintro e w' ⟨rfl, rfl⟩
  clear HT
  have S1 := Lib.hid (show StIn W.drew sb mb L from S0.out.below (Below.refl _ _).drew)
  have RX1 := Lib.hid RX0.out.drew
  have RF1 := Lib.hid RF0.out.drew
  have HG1 : Hid (w.grownBy W.drew (some mb)) := Lib.hid (gb_below HGB.out (Below.refl _ _).drew)
  by_cases hb : a = blank13
  · rw [decide_eq_true hb] at HEQ
    have HBK := Lib.hid hb
    clear hb
    have NEQ := HEQ.out
    clear HEQ
    go_wp2_with (first
      | ((with_reducible show wpList _ _ _ ({ dst := some 10, op := Op.load _ _, type := _, pos := _, after := _, guard := _ } :: _) _ _); go_must (refine wpList_load_whole rfl 35 (.tmp 5) rfl f 35 a.cells _ Try.underlying35 rfl HSA.out RF0.out ?_ ?_; go_simp))
      | ((with_reducible show wpList _ _ _ ({ dst := some 11, op := Op.build _ _, type := _, pos := _, after := _, guard := _ } :: _) _ _); go_must (refine wpList_plain rfl fun K hK => wp_built _ _ _ rfl (by simp only [List.map_toArray, List.map_nil]; exact built_blank) (hK _ _ ?_))))
    clear NEQ
    refine wp_region_held_drew (S := (fun V => Row V sb 55 [.map (some mb)] ∧ Row V g 24 (bv k))) (by kernel_rfl) ⟨S1.out.row, RX1.out⟩ (fun _ => ?_)
    refine takeL (i := 0) (v := ?_) rfl (by kernel_rfl) (by kernel_rfl) (by kernel_rfl) (fun _ _ _ h => h) (Or.inl ⟨by rfl, ?_⟩) ⟨S1.out.row, RX1.out⟩ ?_
    rotate_left
    · intro w hw
      try dsimp only at hw
      go_simp
      try with_reducible rfl
    try simp only [Act.put, List.setIfInBounds_toArray, List.set_cons_zero, List.set_cons_succ]
    refine takeL (i := 1) (v := ?_) rfl (by kernel_rfl) (by kernel_rfl) (by kernel_rfl) (fun _ _ _ h => h) (Or.inl ⟨by rfl, ?_⟩) ⟨S1.out.row, RX1.out⟩ ?_
    rotate_left
    · intro w hw
      try dsimp only at hw
      go_simp
      try with_reducible rfl
    try simp only [Act.put, List.setIfInBounds_toArray, List.set_cons_zero, List.set_cons_succ]
    refine takeL (i := 2) (v := ?_) rfl (by kernel_rfl) (by kernel_rfl) (by kernel_rfl) (fun _ _ _ h => h) (Or.inl ⟨by rfl, ?_⟩) ⟨S1.out.row, RX1.out⟩ ?_
    rotate_left
    · intro w hw
      try dsimp only at hw
      go_simp
      try with_reducible rfl
    try simp only [Act.put, List.setIfInBounds_toArray, List.set_cons_zero, List.set_cons_succ]
    refine takeL (i := 3) (v := ?_) rfl (by kernel_rfl) (by kernel_rfl) (by kernel_rfl) (fun _ _ _ h => h) (Or.inl ⟨by rfl, ?_⟩) ⟨S1.out.row, RX1.out⟩ ?_
    rotate_left
    · intro w hw
      try dsimp only at hw
      have hc := hw.1.cell 0
      go_simp
      try with_reducible rfl
    try simp only [Act.put, List.setIfInBounds_toArray, List.set_cons_zero, List.set_cons_succ]
    refine takeL (i := 4) (v := .agg (bv k).toArray) rfl (by kernel_rfl) (by kernel_rfl) (by kernel_rfl) (fun _ _ _ h => h) (Or.inl ⟨by rfl, fun wz hwz => exec_load_at wz 24 (.tmp 4) rfl ⟨g, 0, none⟩ (bv k) _ Try.underlying24 rfl HSZ.out (fun j u hu => by rw [addr_row, Nat.zero_add]; exact (hwz.2.cell j).trans hu) (by go_simp)⟩) ⟨S1.out.row, RX1.out⟩ ?_
    try simp only [Act.put, List.setIfInBounds_toArray, List.set_cons_zero, List.set_cons_succ]
    refine readyL (i := 5) rfl (by kernel_rfl) (by kernel_rfl) fun K hK => ?_
    obtain ⟨D, ho, had⟩ := S1.out.map
    refine wp_delete_acc (.tmp 16) (.tmp 17) rfl mb _ D ?_ ho HK.out ?_ ?_
    · go_simp
    · go_simp
    intro w5 ho5 hg5
    have S5 : Hid (StIn w5 sb mb (putH L k a)) := Lib.hid (by rw [HBK.out]; exact st_new (S1.out.row.grown hg5 NS.out) ho5 (ad_del13 had S1.out.sto HK.out) (S1.out.sto.put HK.out blank_ok))
    have X5 := Lib.hid (RX1.out.grown hg5 NG.out)
    have G5 := Lib.hid (gb_grown13 HG1.out hg5)
    clear ho had ho5 hg5
    refine hK.out _ _ ⟨S5.out.row, X5.out⟩ ?_
    clear hK K
    try simp only [Act.put]
    refine wpAnyH_done (by kernel_rfl) ?_ _
    go_wp2_with fail
    go_ret
    exact ⟨rfl, S5.out, G5.out⟩
  · rw [decide_eq_false hb] at HEQ
    have HBK := Lib.hid hb
    clear hb
    have NEQ := HEQ.out
    clear HEQ
    go_wp2_with (first
      | ((with_reducible show wpList _ _ _ ({ dst := some 10, op := Op.load _ _, type := _, pos := _, after := _, guard := _ } :: _) _ _); go_must (refine wpList_load_whole rfl 35 (.tmp 5) rfl f 35 a.cells _ Try.underlying35 rfl HSA.out RF0.out ?_ ?_; go_simp))
      | ((with_reducible show wpList _ _ _ ({ dst := some 11, op := Op.build _ _, type := _, pos := _, after := _, guard := _ } :: _) _ _); go_must (refine wpList_plain rfl fun K hK => wp_built _ _ _ rfl (by simp only [List.map_toArray, List.map_nil]; exact built_blank) (hK _ _ ?_))))
    clear NEQ
    refine wp_region_held_drew (S := (fun V => Row V sb 55 [.map (some mb)] ∧ Row V g 24 (bv k) ∧ Row V f 35 a.cells)) (by kernel_rfl) ⟨S1.out.row, RX1.out, RF1.out⟩ (fun _ => ?_)
    refine takeL (i := 0) (v := ?_) rfl (by kernel_rfl) (by kernel_rfl) (by kernel_rfl) (fun _ _ _ h => h) (Or.inl ⟨by rfl, ?_⟩) ⟨S1.out.row, RX1.out, RF1.out⟩ ?_
    rotate_left
    · intro w hw
      try dsimp only at hw
      go_simp
      try with_reducible rfl
    try simp only [Act.put, List.setIfInBounds_toArray, List.set_cons_zero, List.set_cons_succ]
    refine takeL (i := 1) (v := ?_) rfl (by kernel_rfl) (by kernel_rfl) (by kernel_rfl) (fun _ _ _ h => h) (Or.inl ⟨by rfl, ?_⟩) ⟨S1.out.row, RX1.out, RF1.out⟩ ?_
    rotate_left
    · intro w hw
      try dsimp only at hw
      go_simp
      try with_reducible rfl
    try simp only [Act.put, List.setIfInBounds_toArray, List.set_cons_zero, List.set_cons_succ]
    refine takeL (i := 2) (v := ?_) rfl (by kernel_rfl) (by kernel_rfl) (by kernel_rfl) (fun _ _ _ h => h) (Or.inl ⟨by rfl, ?_⟩) ⟨S1.out.row, RX1.out, RF1.out⟩ ?_
    rotate_left
    · intro w hw
      try dsimp only at hw
      go_simp
      try with_reducible rfl
    try simp only [Act.put, List.setIfInBounds_toArray, List.set_cons_zero, List.set_cons_succ]
    refine takeL (i := 3) (v := ?_) rfl (by kernel_rfl) (by kernel_rfl) (by kernel_rfl) (fun _ _ _ h => h) (Or.inl ⟨by rfl, ?_⟩) ⟨S1.out.row, RX1.out, RF1.out⟩ ?_
    rotate_left
    · intro w hw
      try dsimp only at hw
      have hc := hw.1.cell 0
      go_simp
      try with_reducible rfl
    try simp only [Act.put, List.setIfInBounds_toArray, List.set_cons_zero, List.set_cons_succ]
    refine takeL (i := 4) (v := .agg (bv k).toArray) rfl (by kernel_rfl) (by kernel_rfl) (by kernel_rfl) (fun _ _ _ h => h) (Or.inl ⟨by rfl, fun wz hwz => exec_load_at wz 24 (.tmp 4) rfl ⟨g, 0, none⟩ (bv k) _ Try.underlying24 rfl HSZ.out (fun j u hu => by rw [addr_row, Nat.zero_add]; exact (hwz.2.1.cell j).trans hu) (by go_simp)⟩) ⟨S1.out.row, RX1.out, RF1.out⟩ ?_
    try simp only [Act.put, List.setIfInBounds_toArray, List.set_cons_zero, List.set_cons_succ]
    refine takeL (i := 5) (v := .agg a.cells.toArray) rfl (by kernel_rfl) (by kernel_rfl) (by kernel_rfl) (fun _ _ _ h => h) (Or.inl ⟨by rfl, fun wz hwz => exec_load_at wz 35 (.tmp 5) rfl ⟨f, 0, none⟩ a.cells _ Try.underlying35 rfl HSA.out (fun j u hu => by rw [addr_row, Nat.zero_add]; exact (hwz.2.2.cell j).trans hu) (by go_simp)⟩) ⟨S1.out.row, RX1.out, RF1.out⟩ ?_
    try simp only [Act.put, List.setIfInBounds_toArray, List.set_cons_zero, List.set_cons_succ]
    refine readyL (i := 6) rfl (by kernel_rfl) (by kernel_rfl) fun K hK => ?_
    obtain ⟨D, ho, had⟩ := S1.out.map
    refine wp_mapUpdate_acc (.tmp 21) (.tmp 22) (.tmp 23) rfl mb _ D ?_ ho (by unfold maxLen; omega) HK.out HA.out ?_ ?_ ?_
    · go_simp
    · go_simp
    · go_simp
    intro w5 ho5 hg5
    have S5 : Hid (StIn w5 sb mb (putH L k a)) := Lib.hid (st_new (S1.out.row.grown hg5 NS.out) ho5 (ad_put13 had S1.out.sto HK.out HA.out HBK.out) (S1.out.sto.put HK.out HA.out))
    have X5 := Lib.hid (RX1.out.grown hg5 NG.out)
    have F5 := Lib.hid (RF1.out.grown hg5 NF.out)
    have G5 := Lib.hid (gb_grown13 HG1.out hg5)
    clear ho had ho5 hg5
    refine hK.out _ _ ⟨S5.out.row, X5.out, F5.out⟩ ?_
    clear hK K
    try simp only [Act.put]
    refine wpAnyH_done (by kernel_rfl) ?_ _
    go_wp2_with fail
    go_ret
    exact ⟨rfl, S5.out, G5.out⟩
set_option maxHeartbeats 400000 in
theorem clone13 (b : Nat) (es : Array MapEntry) (clock : Nat) (w : World) (hb : w.heap[b]? = some (.map es clock)) :
    Calls Try.prog 26 #[.map (some b)] w fun e w' => e = .returned (.map (some w.heap.size)) ∧ w' = w.alloc (.map es clock) := by
  have hq := eql_map13
  go_enter Try.func26, Try.ntmps26
  go_wp2
  rw [run_callFunc_extern Try.func36 (by kernel_rfl) (by kernel_rfl) (by kernel_rfl) (e := Extern.MapsClone.clone) (by kernel_rfl), run_maps_clone_sl w 53 hb]
  simp only [Result.andThen]
  rw [Oper.upon_value]
  go_wp2
  rw [run_typeAssert_map_sl _ 53 20 _ _ _ Try.underlying53]
  simp only [Result.andThen]
  rw [Oper.upon_value]
  go_wp2
  go_ret
  exact ⟨rfl, rfl⟩
set_option maxHeartbeats 800000 in
theorem copy13 (sb mb : Nat) (L : List LHold) (w : World) (h : StIn w sb mb L) (hL : L.length ≤ 900) : Calls Try.prog 10 #[.pointer (some ⟨sb, 0, none⟩)] w fun e w' => ∃ sb' mb', e = .returned (.pointer (some ⟨sb', 0, none⟩)) ∧ StIn w' sb' mb' L ∧ w.heap.size ≤ sb' ∧ w.heap.size ≤ mb' ∧ Below w.heap.size w w' := by
  have HT := Lib.hid (there13 sb mb L w h)
  have c0 : w.cell? ⟨sb, 0, none⟩ = some (.map (some mb)) := h.row.cell 0
  obtain ⟨D, ⟨es, cl, hm, F, hsz, hD⟩, had⟩ := h.map
  have HC := Lib.hid (clone13 mb es cl w hm)
  have b0 : Below w.heap.size w (w.alloc (.map es cl)) := (Below.refl w.heap.size w).alloc (Nat.le_refl _) _
  have HB := Lib.hid (b0.alloc (o := .cells #[.map (some w.heap.size)] 55) (by simp))
  have HR : Hid (StIn ((w.alloc (.map es cl)).alloc (.cells #[.map (some w.heap.size)] 55)) (w.heap.size + 1) w.heap.size L) := Lib.hid
    (st_new (n := L.length) (D := D) (Row.new' _ 55 [.map (some w.heap.size)] (by simp)) (World.ownsMap.kept (w := w.alloc (.map es cl)) ⟨es, cl, (MapKept.heap_alloc w _).1, F, hsz, hD⟩ (World.grownBy_alloc _ _ none) (by simp)) had h.sto)
  clear h hm F hsz hD had b0
  go_enter Try.func10, Try.ntmps10
  go_wp2_with (first
    | (go_at_call 25; refine HT.out.mono ?_; rintro e w' ⟨rfl, rfl⟩)
    | (go_at_call 26; refine HC.out.mono ?_; rintro e w' ⟨rfl, rfl⟩))
  go_ret
  refine ⟨_, _, ?_, HR.out, Nat.le_succ _, Nat.le_refl _, HB.out⟩
  simp
end Go.Proofs.Ytpkkgmmcindfgaa

/-
  Of part RefGet13: what is needed here.
-/
namespace Go.Proofs.Ytpkkgmmcindfgaa
open Go.RowKit
set_option linter.unusedVariables false
set_option maxRecDepth 100000
def holdsC (L : List LHold) : List Value := (L.map LHold.cells).flatten
theorem holds_each {L : List LHold} (h : ∀ x ∈ L, HoldOk x) : ∀ k ∈ L.map LHold.cells, k.length = 66 := fun k hk => by
  obtain ⟨x, hx, rfl⟩ := List.mem_map.1 hk
  exact hold_len (h x hx).k.1 (h x hx).a.o.1
theorem holdsC_snoc (L : List LHold) (x : LHold) : holdsC (L ++ [x]) = holdsC L ++ x.cells := by simp [holdsC]
theorem holdsC_one (L : List LHold) : ∀ u ∈ holdsC L, u.oneCell' = true := fun u hu => by
  obtain ⟨c, hc, hu⟩ := List.mem_flatten.1 hu
  obtain ⟨x, _, rfl⟩ := List.mem_map.1 hc
  exact hold_one x u hu
theorem holdsC_len {L : List LHold} (h : ∀ x ∈ L, HoldOk x) : (holdsC L).length = L.length * 66 := by
  unfold holdsC
  rw [cs_flat (holds_each h), List.length_map]
/-- accounts of keys that lie below block B -/
structure HoldsIn (w : World) (B : Nat) (A : Option Addr) (n : Nat) (L : List LHold) : Prop where
  len : L.length = n
  ok : ∀ x ∈ L, HoldOk x
  sees : Sees w B A (n * 66) (holdsC L)
section
variable {n B B' : Nat} {w w' : World} {A : Option Addr} {L : List LHold}
theorem HoldsIn.below (h : HoldsIn w B A n L) (hb : Below B w w') : HoldsIn w' B A n L := ⟨h.len, h.ok, h.sees.below hb⟩
theorem HoldsIn.more (h : HoldsIn w B A n L) (hB : B ≤ B') : HoldsIn w B' A n L := ⟨h.len, h.ok, h.sees.more hB⟩
theorem HoldsIn.get (h : HoldsIn w B A n L) {k : Nat} (hk : k < n) : ∃ a x, A = some a ∧ a.block < B ∧ L[k]? = some x ∧ HoldOk x ∧ ∀ j u, x.cells[j]? = some u → w.cell? ((a.add (k * 66)).add j) = some u := by
  have hc : CsIn 66 w B A n (L.map LHold.cells) := ⟨by rw [List.length_map, h.len], holds_each h.ok, h.sees⟩
  obtain ⟨a, x, e, hb, hx, _, hcell⟩ := hc.get hk (by omega)
  rw [List.getElem?_map] at hx
  obtain ⟨r, hr, rfl⟩ := Option.map_eq_some_iff.1 hx
  exact ⟨a, r, e, hb, hr, h.ok r (List.mem_of_getElem? hr), hcell⟩
theorem holds_own {base c : Nat} (h : w.ownsRow base 60 66 (.slice A n c) L.length (holdsC L)) (ho : ∀ x ∈ L, HoldOk x) : HoldsIn w w.heap.size A n L := by
  obtain ⟨A', c', h1, h2, _⟩ := own_form2 h
  cases h1
  exact ⟨rfl, ho, h2⟩
end
/-- the reference: one block with a list of the call's own -/
structure RS13 (w : World) (pb base : Nat) (v : Value) (L : List LHold) : Prop where
  row : Row w pb 31 [v]
  own : w.ownsRow base 60 66 v L.length (holdsC L)
  sto : Sto L
theorem RS13.below {w w' : World} {pb base : Nat} {v : Value} {L : List LHold} (h : RS13 w pb base v L) (hb : Below w.heap.size w w') : RS13 w' pb base v L :=
  ⟨h.row.below hb h.row.lt, own_below h.own hb, h.sto⟩
theorem RS13.form {w : World} {pb base : Nat} {v : Value} {L : List LHold} (h : RS13 w pb base v L) : ∃ A c, v = .slice A L.length c ∧ HoldsIn w w.heap.size A L.length L ∧ L.length ≤ c ∧ c ≤ maxLen := by
  obtain ⟨A, c, rfl, _, h3, h4, _⟩ := own_form2 h.own
  exact ⟨A, c, rfl, holds_own h.own h.sto.ok, h3, h4⟩
theorem RS13.holds {w : World} {pb base n c : Nat} {A : Option Addr} {L : List LHold} (h : RS13 w pb base (.slice A n c) L) : HoldsIn w w.heap.size A n L := holds_own h.own h.sto.ok
theorem addr_field (a : Addr) {o : Nat} (ho : 0 < o) : (⟨a.block, a.off + o, none⟩ : Addr) = a.add o := by
  unfold Addr.add
  rw [if_neg (by omega)]
def GetDone13 (w : World) (L : List LHold) (k : List Int) (e : Ending) (w' : World) : Prop := e = .returned (.agg (getH L k).cells.toArray) ∧ Below w.heap.size w w'
theorem getH_first : ∀ {L : List LHold} {j : Nat} {x : LHold}, L[j]? = some x → (∀ i, i < j → ∀ y, L[i]? = some y → y.k ≠ x.k) → getH L x.k = x.a
  | [], j, x, h, _ => by simp at h
  | y :: r, 0, x, h, _ => by
    obtain rfl : y = x := by simpa using h
    unfold getH
    rw [if_pos rfl]
  | y :: r, j + 1, x, h, hn => by
    unfold getH
    rw [if_neg (hn 0 (by omega) y rfl)]
    exact getH_first (by simpa using h) fun i hi z hz => hn (i + 1) (by omega) z (by simpa using hz)
theorem getH_no {L : List LHold} {k : List Int} (h : ∀ i, i < L.length → ∀ y, L[i]? = some y → y.k ≠ k) : getH L k = blank13 := getH_none fun x hx => by
  obtain ⟨i, hi⟩ := List.getElem?_of_mem hx
  exact h i (List.getElem?_eq_some_iff.1 hi).1 x hi
set_option maxHeartbeats 4000000 in
theorem refGet13 (pb base : Nat) (v : Value) (L : List LHold) (k : List Int) (w : World) (hs : RS13 w pb base v L) (hk : k.length = 32) (hL : L.length ≤ 1000) : Calls Try.prog 15 #[.pointer (some ⟨pb, 0, none⟩), .agg (bv k).toArray] w (GetDone13 w L k) := by
  have hbw := ((Below.refl w.heap.size w).alloc (Nat.le_refl _) (.cells (bv k).toArray 24)).alloc (by simp) (.cells blank13.cells.toArray 35)
  have hs1 := hs.below hbw
  obtain ⟨A, c, rfl, hh, hlc, hcm⟩ := hs1.form
  have HH := Lib.hid hh
  have RX0 := Lib.hid ((Row.new w 24 (bv k)).alloc (.cells blank13.cells.toArray 35))
  have RF0 := Lib.hid (Row.new' (w.alloc (.cells (bv k).toArray 24)) 35 blank13.cells (g := w.heap.size + 1) (by simp))
  have hc0 := hs1.row.cell 0
  have HSZ : Hid ((Try.prog.info? 24).map (·.size) = some (bv k).length) := Lib.hid (by rw [size_key, bv_length, hk])
  have HKL := Lib.hid hk
  have HBW := Lib.hid hbw
  have HBL := Lib.hid (size_acc (a := blank13) rfl)
  obtain ⟨f, hf⟩ : ∃ f, f = w.heap.size + 1 := ⟨_, rfl⟩
  obtain ⟨g, hg⟩ : ∃ g, g = w.heap.size := ⟨_, rfl⟩
  have HF : Hid (w.heap.size + 1 = f) := Lib.hid hf.symm
  have HG : Hid (w.heap.size = g) := Lib.hid hg.symm
  have HFG : Hid (w.heap.size ≤ f) := Lib.hid (by omega)
  rw [← hf] at RF0
  rw [← hg] at RX0
  obtain ⟨n, hn⟩ : ∃ n, n = L.length := ⟨_, rfl⟩
  have HNL : Hid (L.length = n) := Lib.hid hn.symm
  rw [← hn] at HH hlc hc0 hL
  unfold maxLen at hcm
  clear hf hg hbw hs hs1 hh hk hn
  generalize hWW : (w.alloc (.cells (bv k).toArray 24)).alloc (.cells blank13.cells.toArray 35) = W at *
  have HWW := Lib.hid hWW
  clear hWW
  go_enter Try.func15, Try.ntmps15
  go_wp2_with ((with_reducible show wpList _ _ _ ({ dst := some 4, op := Op.alloc _, type := _, pos := _, after := _, guard := _ } :: _) _ _); go_must (refine wpList_alloc_zero rfl 35 rfl blank13.cells zero_acc ?_))
  rw [HF.out, HG.out, HWW.out]
  clear HF HG HWW
  go_loopw [5] (fun i wr => ∃ j q : Nat, j ≤ n ∧ Hid (∀ i, i < j → ∀ y, L[i]? = some y → y.k ≠ k) ∧ i = .int .i64 j ∧ wr = W.drewN q) (fun i _ => n - (intOf i).toNat)
  case atStart => exact ⟨0, 0, Nat.zero_le _, Lib.hid (fun i hi => absurd hi (Nat.not_lt_zero _)), rfl, rfl⟩
  case round =>
    obtain ⟨j, q, hj, HI, rfl, rfl⟩ := hrel
    have HB2 : Hid (∀ n, Below w.heap.size w (W.drewN n)) := Lib.hid fun n => Go.below_drewN HBW.out n
    by_cases hlt : j < n
    · have hlt' : (j : Int) < n := by omega
      obtain ⟨a, y, rfl, hab, hy, hok, hcy⟩ := HH.out.get hlt
      have HEY := Lib.hid (fun w => key_eql hok.k.1 HKL.out w)
      have HSY : Hid ((Try.prog.info? 24).map (·.size) = some (bv y.k).length) := Lib.hid (by rw [size_key, bv_length, hok.k.1])
      have HCY : Hid (∀ j' u, (bv y.k)[j']? = some u → W.cell? ((a.add (j * 66)).add j') = some u) := Lib.hid fun j' u hu => hcy _ _ (hold_k hu)
      have HCA : Hid (∀ j' u, y.a.cells[j']? = some u → W.cell? ((⟨(a.add (j * 66)).block, (a.add (j * 66)).off + 32, none⟩ : Addr).add j') = some u) := Lib.hid fun j' u hu => by
        rw [addr_field _ (by omega), addr_add]
        exact hcy _ _ (hold_a hok.k.1 hu)
      have HOK := Lib.hid hok
      clear hab hcy
      by_cases hyk : y.k = k
      · have HE : Hid (getH L k = y.a) := Lib.hid (by rw [← hyk]; exact getH_first hy fun i hi z hz => by rw [hyk]; exact HI.out i hi z hz)
        rw [decide_eq_true hyk] at HEY
        have HSA := Lib.hid (size_acc HOK.out.a.o.1)
        have HLA : Hid (blank13.cells.length = y.a.cells.length) := Lib.hid (by rw [acc_len HOK.out.a.o.1]; rfl)
        clear hyk hy hok
        go_wp2_with fail
        have NEY := HEY.out
        clear HEY
        refine wp_region_quiet_lit (by kernel_rfl) (by kernel_rfl) ?_
        repeat (first
          | ((with_reducible show wpQuiet _ _ _ _ ({ dst := some 22, op := Op.load _ _, type := _, pos := _, after := _, guard := _ } :: _) _); go_must (refine quiet_load_at (by kernel_rfl) 24 (.tmp 21) rfl (a.add (j * 66)) (bv y.k) _ Try.underlying24 rfl HSY.out (by rintro _ ⟨nq, rfl⟩; exact HCY.out) ?_ ?_; go_simp; go_simp))
          | ((with_reducible show wpQuiet _ _ _ _ ({ dst := some 23, op := Op.load _ _, type := _, pos := _, after := _, guard := _ } :: _) _); go_must (refine quiet_load_at (by kernel_rfl) 24 (.tmp 3) rfl ⟨g, 0, none⟩ (bv k) _ Try.underlying24 rfl HSZ.out (by rintro _ ⟨nq, rfl⟩; intro j u hu; rw [addr_row, Nat.zero_add]; exact (RX0.out.cell j).trans hu) ?_ ?_; go_simp; go_simp))
          | go_big_quiet_step (fail))
        refine wpQuiet_nil ?_
        intro nq
        clear NEY
        have RF1 := Lib.hid (RF0.out.drewN (q + nq))
        have HB3 := Lib.hid (HB2.out (q + nq))
        have HCA2 : Hid (∀ j' u, y.a.cells[j']? = some u → (W.drewN (q + nq)).cell? ((⟨(a.add (j * 66)).block, (a.add (j * 66)).off + 32, none⟩ : Addr).add j') = some u) := Lib.hid HCA.out
        go_wp2_with (first
          | ((with_reducible show wpList _ _ _ ({ dst := some 32, op := Op.load _ _, type := _, pos := _, after := _, guard := _ } :: _) _ _); go_must (refine wpList_load_at rfl 35 (.tmp 31) rfl ⟨(a.add (j * 66)).block, (a.add (j * 66)).off + 32, none⟩ y.a.cells _ Try.underlying35 rfl HSA.out HCA2.out ?_ ?_; go_simp))
          | ((with_reducible show wpList _ _ _ ({ dst := none, op := Op.store 35 _ _, type := _, pos := _, after := _, guard := _ } :: _) _ _); go_must (refine wpList_store_whole rfl 35 (.tmp 4) (.tmp 32) rfl f blank13.cells y.a.cells RF1.out HSA.out HLA.out (acc_one _) ?_ ?_ ?_; go_simp; go_simp; intro w5 hr1 ht1; have R5 := Lib.hid hr1; have T5 := Lib.hid ht1; clear hr1 ht1)))
        refine bodyPost_ret (results_cell_row (h := rfl) _ w5 f 35 _ (0, 0) _ (by rfl) R5.out.is Try.underlying35 rfl HSA.out) rfl ?_
        exact ⟨by rw [HE.out], HB3.out.trans (T5.out.below HFG.out)⟩
      · have HI2 : Hid (∀ i, i < j + 1 → ∀ y, L[i]? = some y → y.k ≠ k) := Lib.hid fun i hi z hz => by
          by_cases e : i = j
          · subst e
            rw [hy] at hz
            obtain rfl := Option.some.inj hz
            exact hyk
          · exact HI.out i (by omega) z hz
        rw [decide_eq_false hyk] at HEY
        clear hyk hy hok
        go_wp2_with fail
        have NEY := HEY.out
        clear HEY
        refine wp_region_quiet_lit (by kernel_rfl) (by kernel_rfl) ?_
        repeat (first
          | ((with_reducible show wpQuiet _ _ _ _ ({ dst := some 22, op := Op.load _ _, type := _, pos := _, after := _, guard := _ } :: _) _); go_must (refine quiet_load_at (by kernel_rfl) 24 (.tmp 21) rfl (a.add (j * 66)) (bv y.k) _ Try.underlying24 rfl HSY.out (by rintro _ ⟨nq, rfl⟩; exact HCY.out) ?_ ?_; go_simp; go_simp))
          | ((with_reducible show wpQuiet _ _ _ _ ({ dst := some 23, op := Op.load _ _, type := _, pos := _, after := _, guard := _ } :: _) _); go_must (refine quiet_load_at (by kernel_rfl) 24 (.tmp 3) rfl ⟨g, 0, none⟩ (bv k) _ Try.underlying24 rfl HSZ.out (by rintro _ ⟨nq, rfl⟩; intro j u hu; rw [addr_row, Nat.zero_add]; exact (RX0.out.cell j).trans hu) ?_ ?_; go_simp; go_simp))
          | go_big_quiet_step (fail))
        refine wpQuiet_nil ?_
        intro nq
        clear NEY
        go_wp2_with fail
        go_roundw
        case rel => exact ⟨j + 1, q + nq, by omega, HI2, by go_num, rfl⟩
        case measure => simp [intOf]; omega
    · have hlt' : ¬ (j : Int) < n := by omega
      have hno : getH L k = blank13 := getH_no (by rw [HNL.out, show n = j by omega]; exact HI.out)
      have HE := Lib.hid hno
      have RF1 := Lib.hid (RF0.out.drewN q)
      have HB3 := Lib.hid (HB2.out q)
      clear hno
      go_wp2_with (first
        | ((with_reducible show wpList _ _ _ ({ dst := some 33, op := Op.build _ _, type := _, pos := _, after := _, guard := _ } :: _) _ _); go_must (refine wpList_plain rfl fun K hK => wp_built _ _ _ rfl (by simp only [List.map_toArray, List.map_nil]; exact built_blank) (hK _ _ ?_)))
        | ((with_reducible show wpList _ _ _ ({ dst := none, op := Op.store 35 _ _, type := _, pos := _, after := _, guard := _ } :: _) _ _); go_must (refine wpList_store_whole rfl 35 (.tmp 4) (.tmp 33) rfl f blank13.cells blank13.cells RF1.out HBL.out rfl (acc_one _) ?_ ?_ ?_; go_simp; go_simp; intro w5 hr1 ht1; have R5 := Lib.hid hr1; have T5 := Lib.hid ht1; clear hr1 ht1)))
      refine bodyPost_ret (results_cell_row (h := rfl) _ w5 f 35 _ (0, 0) _ (by rfl) R5.out.is Try.underlying35 rfl HBL.out) rfl ?_
      exact ⟨by rw [HE.out], HB3.out.trans (T5.out.below HFG.out)⟩
end Go.Proofs.Ytpkkgmmcindfgaa

/-
  Of part Str13: what is needed here.
-/
namespace Go.Proofs.Ytpkkgmmcindfgaa
open Go.RowKit
set_option linter.unusedVariables false
set_option maxRecDepth 100000
theorem ofNat_inj {a b : Int} (ha : IsByte a) (hb : IsByte b) : (UInt8.ofNat a.toNat == UInt8.ofNat b.toNat) = decide (a = b) := by
  unfold IsByte at ha hb
  rw [Bool.eq_iff_iff, beq_iff_eq, decide_eq_true_iff]
  constructor
  · intro h
    have := congrArg UInt8.toNat h
    simp only [UInt8.toNat_ofNat'] at this
    omega
  · rintro rfl; rfl
theorem ofNat_lt {a b : Int} (ha : IsByte a) (hb : IsByte b) : decide (UInt8.ofNat a.toNat < UInt8.ofNat b.toNat) = decide (a < b) := by
  unfold IsByte at ha hb
  rw [decide_eq_decide, UInt8.lt_iff_toNat_lt]
  simp only [UInt8.toNat_ofNat']
  omega
theorem bytesLess_is : ∀ {x y : List Int}, AllBytes x → AllBytes y → Op.bytesLess (x.map fun n => UInt8.ofNat n.toNat) (y.map fun n => UInt8.ofNat n.toNat) = kless x y
  | [], [], _, _ => rfl
  | _ :: _, [], _, _ => by simp [Op.bytesLess, kless]
  | [], _ :: _, _, _ => rfl
  | a :: x, b :: y, hx, hy => by
    have h1 := ofNat_inj (hx a (by simp)) (hy b (by simp))
    have h2 := ofNat_lt (hx a (by simp)) (hy b (by simp))
    have ih := bytesLess_is (x := x) (y := y) (fun z hz => hx z (List.mem_cons_of_mem _ hz)) (fun z hz => hy z (List.mem_cons_of_mem _ hz))
    simp only [List.map_cons, Op.bytesLess, kless]
    rw [h1, h2, ih]
theorem strs_eq : ∀ {x y : List Int}, AllBytes x → AllBytes y → ((x.map fun n => UInt8.ofNat n.toNat) == (y.map fun n => UInt8.ofNat n.toNat)) = decide (x = y)
  | [], [], _, _ => rfl
  | _ :: _, [], _, _ => rfl
  | [], _ :: _, _, _ => rfl
  | a :: x, b :: y, hx, hy => by
    have h1 := ofNat_inj (hx a (by simp)) (hy b (by simp))
    have ih := strs_eq (x := x) (y := y) (fun z hz => hx z (List.mem_cons_of_mem _ hz)) (fun z hz => hy z (List.mem_cons_of_mem _ hz))
    rw [List.map_cons, List.map_cons, List.cons_beq_cons, h1, ih, Bool.eq_iff_iff]
    simp
theorem str_list (x : List Int) : (strOfNums x).toList = x.map fun n => UInt8.ofNat n.toNat := by
  unfold strOfNums
  rw [Lib.toList_data]
theorem str_gt_is {x y : List Int} (hx : AllBytes x) (hy : AllBytes y) : (!Op.bytesLess (strOfNums x).toList (strOfNums y).toList && !((strOfNums x).toList == (strOfNums y).toList)) = kless y x := by
  rw [str_list, str_list, bytesLess_is hx hy, strs_eq hx hy]
  cases h1 : kless x y with
  | true => rw [kless_asymm h1]; rfl
  | false =>
    by_cases h2 : x = y
    · subst h2
      rw [h1]
      simp
    · cases h3 : kless y x with
      | true => simp [h2]
      | false => exact absurd (kless_total _ _ h1 h3) h2
/-- a key's bytes as a string -/
theorem conv_key (w : World) (a : Addr) (c : Nat) {x : List Int} (hx : x.length = 32) (hc : ∀ j u, (bv x)[j]? = some u → w.cell? (a.add j) = some u) :
    (convert 61 9 (.slice (some a) 32 c)).run Try.prog w = .ok (.string (strOfNums x)) w := by
  have hl : (loadCells a 32).run Try.prog w = .ok (x.map (Value.int .u8)).toArray w := by
    have := run_loadCells_list (P := Try.prog) w a (x.map (Value.int .u8)) hc
    simpa [hx] using this
  rw [run_convert_bytes_string w _ _ 5 _ 32 c Try.underlying61 Try.underlying5 Try.underlying9, run_bytesToString w _ 32 c x hl, foldl_push_bytes]
  simp [strOfNums, ByteArray.empty, ByteArray.emptyWithCapacity]
  rfl
end Go.Proofs.Ytpkkgmmcindfgaa

/-
  Of part Tabs: what is needed here.
-/
namespace Go.Proofs.Ytpkkgmmcindfgaa
open Go.RowKit Go.Maps
set_option linter.unusedVariables false
set_option maxRecDepth 100000
/-- a table -/
structure LTab where
  key : List Int
  keys : List (List Int)
def findT (ts : List LTab) (k : List Int) : Option (List (List Int)) := (ts.find? fun t => decide (t.key = k)).map LTab.keys
def nilK : Value := .slice none 0 0
section
variable {w w' : World} {rb mb hi n : Nat} {ts : List LTab}
/-- what a look-up answers: the list's slice -/
def seen (ts : List LTab) (x : List Int) (g : Nat) : Value := match findT ts x with | none => nilK | some l => .slice (some ⟨g, 0, none⟩) l.length l.length
end
end Go.Proofs.Ytpkkgmmcindfgaa

/-
  Of part Resolve: what is needed here.
-/
namespace Go.Proofs.Ytpkkgmmcindfgaa
open Go.RowKit Go.Maps
set_option linter.unusedVariables false
set_option maxRecDepth 100000
section
variable {w0 V V' : World} {u v u' v' : Value} {a b a' : List (List Int)}
theorem own_row_neN {w : World} {base size n g t : Nat} {e : TypeId} {v : Value} {xs ys : List Value} (h : w.ownsRow base e size v n xs) (hr : Row w g t ys) (hne : e ≠ t) : some g ≠ v.ownBlock := by
  intro hg
  obtain ⟨cur, hc⟩ := own_is h hg.symm
  rw [hr.is] at hc
  injection hc with hc
  injection hc with _ hc
  exact hne hc.symm
end
end Go.Proofs.Ytpkkgmmcindfgaa

/-
  Of part Lives6: what is needed here.
-/
namespace Go.Proofs.Ytpkkgmmcindfgaa
open Go.RowKit
set_option linter.unusedVariables false
set_option maxRecDepth 100000
def y1 : List LLook := [⟨xk 9, [2], [0, 1]⟩]
def y2 : List LLook := [⟨xk 9, [], [3]⟩]
end Go.Proofs.Ytpkkgmmcindfgaa

/-
  Of part Elems: what is needed here.
-/
namespace Go.Proofs.Ytpkkgmmcindfgaa
open Go.RowKit
set_option linter.unusedVariables false
set_option maxRecDepth 100000
/-- a lookup's cells -/
def EL (w : World) (B : Nat) (cs : List Value) (x : LLook) : Prop := ∃ va vd, cs = bv x.tab ++ [va, vd] ∧ x.tab.length = 32 ∧ BytesIn w B va x.wr ∧ BytesIn w B vd x.rd
theorem EL.keep {w w' : World} {B B' : Nat} {cs : List Value} {x : LLook} (h : EL w B cs x) (hb : Below B w w') (hB : B ≤ B') : EL w' B' cs x := by
  obtain ⟨va, vd, h1, h2, h3, h4⟩ := h
  exact ⟨va, vd, h1, h2, (h3.below hb).more hB, (h4.below hb).more hB⟩
end Go.Proofs.Ytpkkgmmcindfgaa

/-
  Of part Known: what is needed here.
-/
namespace Go.Proofs.Ytpkkgmmcindfgaa
open Go.RowKit
set_option linter.unusedVariables false
/-- the known programs' keys -/
def k0 : List Int := List.replicate 32 0
def k3 : List Int := 3 :: List.replicate 31 0
def kn (x : List Int) : Bool := decide (x = k0) || decide (x = k3)
end Go.Proofs.Ytpkkgmmcindfgaa

/-
  Of part Of7: what is needed here.
-/
namespace Go.Proofs.Ytpkkgmmcindfgaa
open Go.RowKit
set_option linter.unusedVariables false
set_option maxRecDepth 100000
theorem own_baseR {w : World} {base base' size n : Nat} {e : TypeId} {v : Value} {xs : List Value} (h : w.ownsRow base e size v n xs) (hb : base' ≤ base) : w.ownsRow base' e size v n xs := by
  refine ⟨h.1, ?_⟩
  rcases h.2 with h2 | ⟨g, cap, cur, h1, h2, h3⟩
  · exact .inl h2
  · exact .inr ⟨g, cap, cur, h1, Nat.le_trans hb h2, h3⟩
end Go.Proofs.Ytpkkgmmcindfgaa

/-
  Of part RefPut13: what is needed here.
-/
namespace Go.Proofs.Ytpkkgmmcindfgaa
open Go.RowKit
set_option linter.unusedVariables false
set_option maxRecDepth 100000
theorem built_hold (l r : List Value) (hl : l.length = 32) (hr : r.length = 34) : Try.prog.built 60 [(0, .agg l.toArray), (1, .agg r.toArray)] = some (l ++ r).toArray := by
  obtain ⟨f, rfl⟩ : ∃ f : Fin 32 → Value, l = List.ofFn f := ⟨fun i => l.getD i undef, by
    refine List.ext_getElem (by simpa using hl) fun i h1 h2 => ?_
    rw [List.getElem_ofFn, List.getD_eq_getElem?_getD, List.getElem?_eq_getElem h1]
    rfl⟩
  obtain ⟨g, rfl⟩ : ∃ g : Fin 34 → Value, r = List.ofFn g := ⟨fun i => r.getD i undef, by
    refine List.ext_getElem (by simpa using hr) fun i h1 h2 => ?_
    rw [List.getElem_ofFn, List.getD_eq_getElem?_getD, List.getElem?_eq_getElem h1]
    rfl⟩
  kernel_rfl
/-- the list in the making -/
structure PO13 (W V : World) (v : Value) (X : List LHold) : Prop where
  b : Below W.heap.size W V
  own : V.ownsRow W.heap.size 60 66 v X.length (holdsC X)
theorem belowDN {B : Nat} {x V : World} (h : Below B x V) (n : Nat) : Below B x (V.drewN n) := ⟨h.os, h.tape, h.output, h.size, h.block⟩
theorem PO13.drewN {W V : World} {v : Value} {X : List LHold} (h : PO13 W V v X) (n : Nat) : PO13 W (V.drewN n) v X := ⟨belowDN h.b n, own_below h.own (belowDN (Below.refl _ _) n)⟩
/-- one more -/
theorem PO13.add {W V V' : World} {v v' : Value} {X : List LHold} {x : LHold} {o : Obj} (h : PO13 W V v X) (ho : V'.ownsRow W.heap.size 60 66 v' (X.length + 1) (holdsC X ++ x.cells)) (hg : Grew (V.alloc o) V' v v') : PO13 W V' v' (X ++ [x]) := by
  have h1 := h.own.lt
  refine ⟨(h.b.alloc h.b.size o).grown hg.grown (Nat.le_trans h.b.size (by simp)) (fun k hk => (h1 k hk).1), ?_⟩
  rw [List.length_append, holdsC_snoc]
  exact ho
theorem PO13.lit {W V : World} {v : Value} {X : List LHold} (h : PO13 W V v X) (o : Obj) : (V.alloc o).ownsRow W.heap.size 60 66 v X.length (holdsC X) := own_below h.own ((Below.refl _ _).alloc (Nat.le_refl _) o)
theorem lit_sees (V : World) (x : LHold) (h : x.cells.length = 66) : Sees (V.alloc (.cells x.cells.toArray 60)) (V.alloc (.cells x.cells.toArray 60)).heap.size (some ⟨V.heap.size, 0, none⟩) (1 * 66) x.cells := by
  have := (Row.new V 60 x.cells).sees0
  rwa [h] at this
def ins13 (k : List Int) (a : LAcc) (put : Bool) (x : LHold) : List LHold := if !put && kless k x.k then [⟨k, a⟩] else []
def keep13 (k : List Int) (x : LHold) : List LHold := if x.k = k then [] else [x]
theorem drop_at {L : List LHold} {j : Nat} {y : LHold} (h : L[j]? = some y) : L.drop j = y :: L.drop (j + 1) := by
  obtain ⟨hj, rfl⟩ := List.getElem?_eq_some_iff.1 h
  exact List.drop_eq_getElem_cons hj
/-- what stays below -/
structure PC13 (W : World) (pb g f n c : Nat) (A : Option Addr) (k : List Int) (a : LAcc) (L : List LHold) : Prop where
  row : Row W pb 31 [.slice A n c]
  hh : HoldsIn W W.heap.size A n L
  rk : Row W g 24 (bv k)
  ra : Row W f 35 a.cells
theorem PC13.at_ {W V : World} {pb g f n c : Nat} {A : Option Addr} {k : List Int} {a : LAcc} {L : List LHold} (h : PC13 W pb g f n c A k a L) (hb : Below W.heap.size W V) : Row V pb 31 [.slice A n c] ∧ HoldsIn V W.heap.size A n L ∧ Row V g 24 (bv k) ∧ Row V f 35 a.cells :=
  ⟨h.row.below hb h.row.lt, h.hh.below hb, h.rk.below hb h.rk.lt, h.ra.below hb h.ra.lt⟩
def RPutDone13 (w : World) (pb base : Nat) (L : List LHold) (k : List Int) (a : LAcc) (e : Ending) (w' : World) : Prop := e = .returned (.tuple #[]) ∧ ∃ v', RS13 w' pb base v' (putH L k a) ∧ w.grownBy w' (some pb)
theorem PO13.done {w W V : World} {pb g f n c base : Nat} {A : Option Addr} {u : Value} {X L : List LHold} {k : List Int} {a : LAcc} (h : PO13 W V u X) (ct : PC13 W pb g f n c A k a L) (hb : Below w.heap.size w W) (hpb : pb < w.heap.size) (hbase : base ≤ w.heap.size) (hs : Sto L) (hk : k.length = 32 ∧ AllBytes k) (ha : AccOk a) (he : X = putH L k a) :
    ∃ v', RS13 (V.setCell ⟨pb, 0, none⟩ u) pb base v' (putH L k a) ∧ w.grownBy (V.setCell ⟨pb, 0, none⟩ u) (some pb) := by
  have hr := (ct.at_ h.b).1
  have ht := turned_setCell V ⟨pb, 0, none⟩ u
  refine ⟨u, ⟨hr.set_ 0 u, ?_, hs.put hk ha⟩, gb_turned (gb_of _ (hb.trans (h.b.mono hb.size))) ht (.inr rfl)⟩
  rw [← he]
  exact own_baseR (own_turned h.own hr (by decide) ht) (Nat.le_trans hbase hb.size)
set_option maxHeartbeats 16000000 in
theorem refPut13 (pb base : Nat) (v : Value) (L : List LHold) (k : List Int) (a : LAcc) (w : World) (hs : RS13 w pb base v L) (hk : k.length = 32 ∧ AllBytes k) (ha : AccOk a) (hL : L.length ≤ 900) (hbase : base ≤ w.heap.size) : Calls Try.prog 13 #[.pointer (some ⟨pb, 0, none⟩), .agg (bv k).toArray, .agg a.cells.toArray] w (RPutDone13 w pb base L k a) := by
  have hbw := ((Below.refl w.heap.size w).alloc (Nat.le_refl _) (.cells (bv k).toArray 24)).alloc (by simp) (.cells a.cells.toArray 35)
  have hs1 := hs.below hbw
  obtain ⟨A, c, rfl, hh, hlc, hcm⟩ := hs1.form
  have hrk := (Row.new w 24 (bv k)).alloc (.cells a.cells.toArray 35)
  have hra := Row.new' (w.alloc (.cells (bv k).toArray 24)) 35 a.cells (g := w.heap.size + 1) (by simp)
  have CT0 := Lib.hid (show PC13 _ pb w.heap.size (w.heap.size + 1) L.length c A k a L from ⟨hs1.row, hh, hrk, hra⟩)
  have HSTO := Lib.hid hs1.sto
  have HSZ : Hid ((Try.prog.info? 24).map (·.size) = some (bv k).length) := Lib.hid (by rw [size_key, bv_length, hk.1])
  have HSA := Lib.hid (size_acc ha.o.1)
  have HK := Lib.hid hk
  have HA := Lib.hid ha
  have HBW := Lib.hid hbw
  have HPL := Lib.hid hs.row.lt
  have HBASE := Lib.hid hbase
  have NB := fun w => acc_eql ha.o.1 (y := blank13) rfl w
  have HNB := Lib.hid NB
  have HBUI : Hid (Try.prog.built 60 [(0, .agg (bv k).toArray), (1, .agg a.cells.toArray)] = some (LHold.cells ⟨k, a⟩).toArray) := Lib.hid (built_hold (bv k) a.cells (by rw [bv_length, hk.1]) (acc_len ha.o.1))
  have HCK : Hid ((LHold.cells ⟨k, a⟩).length = 66) := Lib.hid (hold_len (x := ⟨k, a⟩) hk.1 ha.o.1)
  clear NB hs hs1 hh hrk hra hbw hk ha hbase
  obtain ⟨f, hf⟩ : ∃ f, f = w.heap.size + 1 := ⟨_, rfl⟩
  obtain ⟨g, hg⟩ : ∃ g, g = w.heap.size := ⟨_, rfl⟩
  obtain ⟨n, hn⟩ : ∃ n, n = L.length := ⟨_, rfl⟩
  have HF : Hid (w.heap.size + 1 = f) := Lib.hid hf.symm
  have HG : Hid (w.heap.size = g) := Lib.hid hg.symm
  have HNL : Hid (L.length = n) := Lib.hid hn.symm
  have CT : Hid (PC13 ((w.alloc (.cells (bv k).toArray 24)).alloc (.cells a.cells.toArray 35)) pb g f n c A k a L) := Lib.hid (by rw [hf, hg, hn]; exact CT0.out)
  rw [← hn] at hlc hL
  clear hf hg hn CT0
  unfold maxLen at hcm
  generalize hWW : (w.alloc (.cells (bv k).toArray 24)).alloc (.cells a.cells.toArray 35) = W at *
  have HWW := Lib.hid hWW
  clear hWW
  have NB := HNB.out
  go_enter Try.func13, Try.ntmps13
  go_upto_region 1 with fail
  rw [HWW.out, HF.out, HG.out]
  clear HWW HF HG
  go_upto_region 3 with (first
    | ((with_reducible show wpList _ _ _ ({ dst := some 9, op := Op.load _ _, type := _, pos := _, after := _, guard := _ } :: _) _ _); go_must (refine wpList_load_whole rfl 35 (.tmp 5) rfl f 35 a.cells _ Try.underlying35 rfl HSA.out CT.out.ra ?_ ?_; go_simp))
    | ((with_reducible show wpList _ _ _ ({ dst := some 10, op := Op.build _ _, type := _, pos := _, after := _, guard := _ } :: _) _ _); go_must (refine wpList_plain rfl fun K hK => wp_built _ _ _ rfl (by simp only [List.map_toArray, List.map_nil]; exact built_blank) (hK _ _ ?_))))
  clear NB
  go_wp2_with fail
  go_loopw [6, 7, 8] (fun s6 s7 i wr => ∃ (j : Nat) (X : List LHold) (put : Bool), j ≤ n ∧ i = .int .i64 j ∧ s7 = .bool put ∧ PO13 W wr s6 X ∧ X.length ≤ 2 * j ∧ Hid (X ++ putG k a put (L.drop j) = putH L k a)) (fun _ _ i _ => n - (intOf i).toNat)
  case atStart => exact ⟨0, [], _, Nat.zero_le _, rfl, rfl, ⟨Below.refl _ _, own_nilN _ _ _ _⟩, by simp, Lib.hid rfl⟩
  case round =>
    obtain ⟨j, X, put, hj, rfl, rfl, hpo, hxl, HX⟩ := hrel
    have PO := Lib.hid hpo
    clear hpo
    have hc0 := (CT.out.at_ PO.out.b).1.cell 0
    by_cases hlt : j < n
    · have hlt' : (j : Int) < n := by omega
      obtain ⟨ad, y, hadr, hab, hy, hok, hcy⟩ := CT.out.hh.get hlt
      have HCH : Hid (∀ V, Below W.heap.size W V → ∀ j' u, y.cells[j']? = some u → V.cell? ((ad.add (j * 66)).add j') = some u) := Lib.hid fun V hV j' u hu => by
        rw [hV.cell (by rw [addr_block, addr_block]; exact hab)]
        exact hcy j' u hu
      have HCK2 : Hid (∀ V, Below W.heap.size W V → ∀ j' u, (bv y.k)[j']? = some u → V.cell? ((ad.add (j * 66)).add j') = some u) := Lib.hid fun V hV j' u hu => HCH.out V hV j' u (hold_k hu)
      have HOK := Lib.hid hok
      have HDR : Hid (putG k a put (L.drop j) = ins13 k a put y ++ (keep13 k y ++ putG k a (put || kless k y.k) (L.drop (j + 1)))) := Lib.hid (by rw [drop_at hy]; rfl)
      have HSY : Hid ((Try.prog.info? 24).map (·.size) = some (bv y.k).length) := Lib.hid (by rw [size_key, bv_length, hok.k.1])
      have HSH := Lib.hid (size_hold hok.k.1 hok.a.o.1)
      have HYC : Hid (y.cells.length = 66) := Lib.hid (hold_len hok.k.1 hok.a.o.1)
      subst hadr
      clear hab hcy hy hok
      go_upto_if 36 with fail
      go_cut [36] (fun s36 wx => s36 = .bool (!put && kless k y.k) ∧ ∃ q, wx = wr.drewN q)
      case first =>
        cases put with
        | true =>
          go_wp2_with fail
          go_quiet (fail)
          go_wp2_with fail
          go_meet
          exact ⟨rfl, _, rfl⟩
        | false =>
          have NC1 := fun q => conv_key (wr.drewN q) (ad.add (j * 66)) 32 HOK.out.k.1 (HCK2.out _ (belowDN PO.out.b q))
          have NC2 := fun q => conv_key (wr.drewN q) ⟨g, 0, none⟩ 32 HK.out.1 (fun j u hu => by rw [addr_row, Nat.zero_add]; exact ((CT.out.at_ (belowDN PO.out.b q)).2.2.1.cell j).trans hu)
          go_wp2_with fail
          go_quiet (fail)
          go_wp2_with fail
          go_meet
          exact ⟨by rw [str_gt_is HOK.out.k.2 HK.out.2]; rfl, _, rfl⟩
      case rest =>
      obtain ⟨hs36, q, rfl⟩ := hcut
      have PO1 := Lib.hid (PO.out.drewN q)
      clear PO hc0
      generalize wr.drewN q = wq at *
      go_upto_if 36 with fail
      go_cut [6, 7] (fun s6 s7 wx => ∃ X2, PO13 W wx s6 X2 ∧ s7 = .bool (put || kless k y.k) ∧ X2.length ≤ 2 * j + 1 ∧ Hid (X2 = X ++ ins13 k a put y))
      case first =>
        cases put with
        | true =>
          have h36 : u36 = .bool false := hs36
          subst h36
          clear hs36
          go_wp2_with fail
          go_meet
          exact ⟨X, PO1.out, rfl, by omega, Lib.hid (by unfold ins13; simp)⟩
        | false =>
          cases hkl : kless k y.k with
          | true =>
            have HKL := Lib.hid hkl
            have h36 : u36 = .bool true := by rw [hs36, hkl]; rfl
            subst h36
            clear hkl hs36
            go_wp2_with (first
              | ((with_reducible show wpList _ _ _ ({ dst := some 38, op := Op.load 24 _, type := _, pos := _, after := _, guard := _ } :: _) _ _); go_must (refine wpList_load_whole rfl 24 (.tmp 4) rfl g 24 (bv k) _ Try.underlying24 rfl HSZ.out (CT.out.at_ PO1.out.b).2.2.1 ?_ ?_; go_simp))
              | ((with_reducible show wpList _ _ _ ({ dst := some 39, op := Op.load 35 _, type := _, pos := _, after := _, guard := _ } :: _) _ _); go_must (refine wpList_load_whole rfl 35 (.tmp 5) rfl f 35 a.cells _ Try.underlying35 rfl HSA.out (CT.out.at_ PO1.out.b).2.2.2 ?_ ?_; go_simp))
              | ((with_reducible show wpList _ _ _ ({ dst := some 40, op := Op.build _ _, type := _, pos := _, after := _, guard := _ } :: _) _ _); go_must (refine wpList_plain rfl fun K hK => wp_built _ _ _ rfl (by simp only [List.map_toArray, List.map_cons, List.map_nil]; exact HBUI.out) (hK _ _ ?_)))
              | ((with_reducible show wpList _ _ _ ({ dst := some 41, op := Op.buildSlice _ _ _, type := _, pos := _, after := _, guard := _ } :: _) _ _); go_must (refine wpList_buildOne rfl 29 60 (.tmp 40) rfl (LHold.cells ⟨k, a⟩) _ 66 80 Try.underlying29 infoHo zszHo (by omega) (by omega) HCK.out ?_ ?_; go_simp))
              | ((with_reducible show wpList _ _ _ ({ dst := some 42, op := Op.call _, type := _, pos := _, after := _, guard := _ } :: _) _ _); go_must (refine wpList_appendN rfl (.tmp 37) (.tmp 41) 29 60 _ 66 80 rfl Try.underlying29 infoHo zszHo (by omega) u6 X.length (holdsC X) W.heap.size _ _ 1 1 (LHold.cells ⟨k, a⟩) ?_ (PO1.out.lit _) ?_ (lit_sees _ ⟨k, a⟩ HCK.out) (hold_one _) (by unfold maxLen; omega) (by omega) (Nat.le_trans PO1.out.b.size (by simp)) ?_; go_simp; go_simp; intro v8 w8 ho8 hg8; have PO8 := Lib.hid (PO1.out.add ho8 hg8); clear ho8 hg8)))
            go_meet
            exact ⟨_, PO8.out, by rw [HKL.out]; rfl, by rw [List.length_append, List.length_singleton]; omega, Lib.hid (by unfold ins13; rw [HKL.out]; rfl)⟩
          | false =>
            have HKL := Lib.hid hkl
            have h36 : u36 = .bool false := by rw [hs36, hkl]; rfl
            subst h36
            clear hkl hs36
            go_wp2_with fail
            go_meet
            exact ⟨X, PO1.out, by rw [HKL.out]; rfl, by omega, Lib.hid (by unfold ins13; rw [HKL.out]; simp)⟩
      case rest =>
        obtain ⟨X2, hpo, rfl, hxl2, HX2⟩ := hcut
        have PO2 := Lib.hid hpo
        clear hpo PO1
        have hc1 := (CT.out.at_ PO2.out.b).1.cell 0
        have NK := fun w => key_neq HOK.out.k.1 HK.out.1 w
        have HCKW := Lib.hid (HCK2.out wc PO2.out.b)
        have HRK := Lib.hid (CT.out.at_ PO2.out.b).2.2.1
        by_cases hyk : y.k = k
        · rw [decide_eq_true hyk] at NK
          have HKP : Hid (keep13 k y = []) := Lib.hid (if_pos hyk)
          clear hyk
          go_wp2_with fail
          refine wp_region_quiet_lit (by kernel_rfl) (by kernel_rfl) ?_
          repeat (first
            | ((with_reducible show wpQuiet _ _ _ _ ({ dst := some 50, op := Op.load 24 _, type := _, pos := _, after := _, guard := _ } :: _) _); go_must (refine quiet_load_at (by kernel_rfl) 24 (.tmp 49) rfl (ad.add (j * 66)) (bv y.k) _ Try.underlying24 rfl HSY.out (by rintro _ ⟨nq, rfl⟩; exact HCKW.out) ?_ ?_; go_simp; go_simp))
            | ((with_reducible show wpQuiet _ _ _ _ ({ dst := some 51, op := Op.load 24 _, type := _, pos := _, after := _, guard := _ } :: _) _); go_must (refine quiet_load_at (by kernel_rfl) 24 (.tmp 4) rfl ⟨g, 0, none⟩ (bv k) _ Try.underlying24 rfl HSZ.out (by rintro _ ⟨nq, rfl⟩; intro j u hu; rw [addr_row, Nat.zero_add]; exact (HRK.out.cell j).trans hu) ?_ ?_; go_simp; go_simp))
            | go_big_quiet_step (fail))
          refine wpQuiet_nil ?_
          intro nq
          clear NK
          have PO3 := Lib.hid (PO2.out.drewN nq)
          go_wp2_with fail
          go_roundw
          case rel => exact ⟨j + 1, X2, _, by omega, by go_num, rfl, PO3.out, by omega, Lib.hid (by rw [← HX.out, HDR.out, HKP.out, HX2.out, List.nil_append, List.append_assoc])⟩
          case measure => simp [intOf]; omega
        · rw [decide_eq_false hyk] at NK
          have HKP : Hid (keep13 k y = [y]) := Lib.hid (if_neg hyk)
          clear hyk
          go_wp2_with fail
          refine wp_region_quiet_lit (by kernel_rfl) (by kernel_rfl) ?_
          repeat (first
            | ((with_reducible show wpQuiet _ _ _ _ ({ dst := some 50, op := Op.load 24 _, type := _, pos := _, after := _, guard := _ } :: _) _); go_must (refine quiet_load_at (by kernel_rfl) 24 (.tmp 49) rfl (ad.add (j * 66)) (bv y.k) _ Try.underlying24 rfl HSY.out (by rintro _ ⟨nq, rfl⟩; exact HCKW.out) ?_ ?_; go_simp; go_simp))
            | ((with_reducible show wpQuiet _ _ _ _ ({ dst := some 51, op := Op.load 24 _, type := _, pos := _, after := _, guard := _ } :: _) _); go_must (refine quiet_load_at (by kernel_rfl) 24 (.tmp 4) rfl ⟨g, 0, none⟩ (bv k) _ Try.underlying24 rfl HSZ.out (by rintro _ ⟨nq, rfl⟩; intro j u hu; rw [addr_row, Nat.zero_add]; exact (HRK.out.cell j).trans hu) ?_ ?_; go_simp; go_simp))
            | go_big_quiet_step (fail))
          refine wpQuiet_nil ?_
          intro nq
          clear NK
          have PO3 := Lib.hid (PO2.out.drewN nq)
          have hc2 := (CT.out.at_ PO3.out.b).1.cell 0
          have HCH3 := Lib.hid (HCH.out _ PO3.out.b)
          go_wp2_with (first
            | ((with_reducible show wpList _ _ _ ({ dst := some 60, op := Op.load 60 _, type := _, pos := _, after := _, guard := _ } :: _) _ _); go_must (refine wpList_load_at rfl 60 (.tmp 59) rfl (ad.add (j * 66)) y.cells _ Try.underlying60 rfl HSH.out HCH3.out ?_ ?_; go_simp))
            | ((with_reducible show wpList _ _ _ ({ dst := some 61, op := Op.buildSlice _ _ _, type := _, pos := _, after := _, guard := _ } :: _) _ _); go_must (refine wpList_buildOne rfl 29 60 (.tmp 60) rfl y.cells _ 66 80 Try.underlying29 infoHo zszHo (by omega) (by omega) HYC.out ?_ ?_; go_simp))
            | ((with_reducible show wpList _ _ _ ({ dst := some 62, op := Op.call _, type := _, pos := _, after := _, guard := _ } :: _) _ _); go_must (refine wpList_appendN rfl (.tmp 53) (.tmp 61) 29 60 _ 66 80 rfl Try.underlying29 infoHo zszHo (by omega) u6 X2.length (holdsC X2) W.heap.size _ _ 1 1 (LHold.cells y) ?_ (PO3.out.lit _) ?_ (lit_sees _ y HYC.out) (hold_one _) (by unfold maxLen; omega) (by omega) (Nat.le_trans PO3.out.b.size (by simp)) ?_; go_simp; go_simp; intro v8 w8 ho8 hg8; have PO8 := Lib.hid (PO3.out.add ho8 hg8); clear ho8 hg8)))
          go_roundw
          case rel => exact ⟨j + 1, _, _, by omega, by go_num, rfl, PO8.out, by rw [List.length_append, List.length_singleton]; omega, Lib.hid (by rw [← HX.out, HDR.out, HKP.out, HX2.out, List.append_assoc, List.append_assoc])⟩
          case measure => simp [intOf]; omega
    · have hlt' : ¬ (j : Int) < n := by omega
      have HD : Hid (L.drop j = []) := Lib.hid (List.drop_eq_nil_of_le (by rw [HNL.out]; omega))
      have HXX := Lib.hid HX.out
      rw [HD.out] at HXX
      have hf0 := (CT.out.at_ PO.out.b).1.frozen 0
      cases put with
      | true =>
        have HE : Hid (X = putH L k a) := Lib.hid (by rw [← HXX.out]; simp [putG])
        obtain ⟨A6, c6, hv6, _⟩ := own_form2 PO.out.own
        subst hv6
        go_wp2_with fail
        refine bodyPost_end (results_none rfl _ _ _) rfl ?_
        exact ⟨rfl, PO.out.done CT.out HBW.out HPL.out HBASE.out HSTO.out HK.out HA.out HE.out⟩
      | false =>
        have HE : Hid (X ++ [⟨k, a⟩] = putH L k a) := Lib.hid (by rw [← HXX.out]; simp [putG])
        go_upto_region 12 with fail
        go_upto_region 13 with (first
          | ((with_reducible show wpList _ _ _ ({ dst := some 66, op := Op.load 24 _, type := _, pos := _, after := _, guard := _ } :: _) _ _); go_must (refine wpList_load_whole rfl 24 (.tmp 4) rfl g 24 (bv k) _ Try.underlying24 rfl HSZ.out (CT.out.at_ PO.out.b).2.2.1 ?_ ?_; go_simp))
          | ((with_reducible show wpList _ _ _ ({ dst := some 67, op := Op.load 35 _, type := _, pos := _, after := _, guard := _ } :: _) _ _); go_must (refine wpList_load_whole rfl 35 (.tmp 5) rfl f 35 a.cells _ Try.underlying35 rfl HSA.out (CT.out.at_ PO.out.b).2.2.2 ?_ ?_; go_simp))
          | ((with_reducible show wpList _ _ _ ({ dst := some 68, op := Op.build _ _, type := _, pos := _, after := _, guard := _ } :: _) _ _); go_must (refine wpList_plain rfl fun K hK => wp_built _ _ _ rfl (by simp only [List.map_toArray, List.map_cons, List.map_nil]; exact HBUI.out) (hK _ _ ?_)))
          | ((with_reducible show wpList _ _ _ ({ dst := some 69, op := Op.buildSlice _ _ _, type := _, pos := _, after := _, guard := _ } :: _) _ _); go_must (refine wpList_buildOne rfl 29 60 (.tmp 68) rfl (LHold.cells ⟨k, a⟩) _ 66 80 Try.underlying29 infoHo zszHo (by omega) (by omega) HCK.out ?_ ?_; go_simp))
          | ((with_reducible show wpList _ _ _ ({ dst := some 70, op := Op.call _, type := _, pos := _, after := _, guard := _ } :: _) _ _); go_must (refine wpList_appendN rfl (.tmp 65) (.tmp 69) 29 60 _ 66 80 rfl Try.underlying29 infoHo zszHo (by omega) u6 X.length (holdsC X) W.heap.size _ _ 1 1 (LHold.cells ⟨k, a⟩) ?_ (PO.out.lit _) ?_ (lit_sees _ ⟨k, a⟩ HCK.out) (hold_one _) (by unfold maxLen; omega) (by omega) (Nat.le_trans PO.out.b.size (by simp)) ?_; go_simp; go_simp; intro v8 w8 ho8 hg8; have PO8 := Lib.hid (PO.out.add ho8 hg8); clear ho8 hg8)))
        have hc2 := (CT.out.at_ PO8.out.b).1.cell 0
        have hf2 := (CT.out.at_ PO8.out.b).1.frozen 0
        obtain ⟨A6, c6, hv6, _⟩ := own_form2 PO8.out.own
        subst hv6
        go_wp2_with fail
        refine bodyPost_end (results_none rfl _ _ _) rfl ?_
        have hd := PO8.out.done CT.out HBW.out HPL.out HBASE.out HSTO.out HK.out HA.out HE.out
        rw [show (X ++ [(⟨k, a⟩ : LHold)]).length = X.length + 1 by simp] at hd
        exact ⟨rfl, hd⟩
end Go.Proofs.Ytpkkgmmcindfgaa

/-
  Of part RefCoins13: what is needed here.
-/
namespace Go.Proofs.Ytpkkgmmcindfgaa
open Go.RowKit
set_option linter.unusedVariables false
set_option maxRecDepth 100000
def hi13 (L : List LHold) : Int := sumH L / 18446744073709551616
def lo13 (L : List LHold) : Int := sumH L % 18446744073709551616
/-- one account more -/
theorem coin_step {T n : Int} (hT : 0 ≤ T) (hT2 : T < 18446744073709551616000) (h0 : 0 ≤ n) (h1 : n < 18446744073709551616) :
    IntKind.u64.wrap (18446744073709551615 - n) = 18446744073709551615 - n ∧ IntKind.u64.wrap (T % 18446744073709551616 + n) = (T + n) % 18446744073709551616 ∧
    (18446744073709551615 - n < T % 18446744073709551616 → IntKind.u64.wrap (T / 18446744073709551616 + 1) = (T + n) / 18446744073709551616) ∧ (¬ 18446744073709551615 - n < T % 18446744073709551616 → T / 18446744073709551616 = (T + n) / 18446744073709551616) := by
  simp only [IntKind.wrap_u64]
  refine ⟨by omega, by omega, fun h => by omega, fun h => by omega⟩
theorem sum_take_succ {L : List LHold} {j : Nat} {x : LHold} (h : L[j]? = some x) : sumH (L.take (j + 1)) = sumH (L.take j) + x.a.c := by
  rw [List.take_add_one, h, Option.toList_some, sumH_app, sumH_cons, sumH_nil, Int.add_zero]
set_option maxHeartbeats 4000000 in
theorem refCoins13 (pb base : Nat) (v : Value) (L : List LHold) (w : World) (hs : RS13 w pb base v L) (hL : L.length ≤ 900) : Calls Try.prog 20 #[.pointer (some ⟨pb, 0, none⟩)] w fun e w' => e = .returned (.tuple #[.int .u64 (hi13 L), .int .u64 (lo13 L)]) ∧ w = w' := by
  obtain ⟨A, c, rfl, hh, hlc, hcm⟩ := hs.form
  have HH := Lib.hid hh
  have hc0 := hs.row.cell 0
  have HOKS := Lib.hid hs.sto.ok
  obtain ⟨n, hn⟩ : ∃ n, n = L.length := ⟨_, rfl⟩
  have HNL : Hid (L.length = n) := Lib.hid hn.symm
  rw [← hn] at HH hlc hc0 hL
  unfold maxLen at hcm
  have HT : Hid (∀ j, 0 ≤ sumH (L.take j) ∧ sumH (L.take j) < 18446744073709551616000) := Lib.hid fun j => by
    have h1 : ∀ x ∈ L.take j, HoldOk x := fun x hx => HOKS.out x (List.mem_of_mem_take hx)
    have h2 := sumH_nonneg h1
    have h3 := sumH_bound h1
    have h4 : (L.take j).length ≤ 900 := by rw [List.length_take, HNL.out]; omega
    exact ⟨h2, by omega⟩
  clear hs hh hn
  go_enter Try.func20, Try.ntmps20
  go_wp2_with fail
  go_loop [4, 5, 6, 7] (fun h l i _ => ∃ j : Nat, j ≤ n ∧ i = .int .i64 j ∧ h = .int .u64 (hi13 (L.take j)) ∧ l = .int .u64 (lo13 (L.take j))) (fun _ _ i _ => n - (intOf i).toNat)
  case atStart => exact ⟨0, Nat.zero_le _, rfl, rfl, rfl⟩
  case round =>
    obtain ⟨j, hj, rfl, rfl, rfl⟩ := hrel
    by_cases hlt : j < n
    · have hlt' : (j : Int) < n := by omega
      obtain ⟨a, y, rfl, hab, hy, hok, hcy⟩ := HH.out.get hlt
      have hcell : w.cell? ⟨(a.add (j * 66)).block, (a.add (j * 66)).off + 32, none⟩ = some (.int .u64 y.a.c) := by
        rw [addr_field _ (by omega)]
        have := hcy _ _ (hold_a hok.k.1 (acc_c y.a))
        exact this
      have hst := coin_step (HT.out j).1 (HT.out j).2 hok.a.c.1 hok.a.c.2
      have hts := sum_take_succ hy
      have HS1 : Hid (IntKind.u64.wrap (18446744073709551615 - y.a.c) = 18446744073709551615 - y.a.c) := Lib.hid hst.1
      have HS2 : Hid (IntKind.u64.wrap (lo13 (L.take j) + y.a.c) = lo13 (L.take (j + 1))) := Lib.hid (by unfold lo13; rw [hts]; exact hst.2.1)
      have HS3 : Hid (18446744073709551615 - y.a.c < lo13 (L.take j) → IntKind.u64.wrap (hi13 (L.take j) + 1) = hi13 (L.take (j + 1))) := Lib.hid (by unfold lo13 hi13; rw [hts]; exact hst.2.2.1)
      have HS4 : Hid (¬ 18446744073709551615 - y.a.c < lo13 (L.take j) → hi13 (L.take j) = hi13 (L.take (j + 1))) := Lib.hid (by unfold lo13 hi13; rw [hts]; exact hst.2.2.2)
      clear hst hts hab hy hok hcy
      generalize lo13 (L.take j) = l0 at *
      generalize hi13 (L.take j) = h0 at *
      obtain ⟨l1, hl1⟩ : ∃ l1, l1 = lo13 (L.take (j + 1)) := ⟨_, rfl⟩
      obtain ⟨h1, hh1⟩ : ∃ h1, h1 = hi13 (L.take (j + 1)) := ⟨_, rfl⟩
      have HL1 : Hid (l1 = lo13 (L.take (j + 1))) := Lib.hid hl1
      have HH1 : Hid (h1 = hi13 (L.take (j + 1))) := Lib.hid hh1
      rw [← hl1] at HS2
      rw [← hh1] at HS3 HS4
      clear hl1 hh1
      generalize y.a.c = cy at *
      generalize hD : (18446744073709551615 : Int) - cy = D at HS1 HS3 HS4
      by_cases hov : D < l0
      · have e3 := HS3.out hov
        have e2 := HS2.out
        have e1 : IntKind.u64.wrap (18446744073709551615 - cy) = D := by rw [hD]; exact HS1.out
        clear hD
        go_wp2_with fail
        go_round
        case rel => exact ⟨j + 1, by omega, by go_num, by rw [HH1.out], by rw [HL1.out]⟩
        case measure => simp [intOf]; omega
      · have HE3 := Lib.hid (HS4.out hov)
        have e2 := HS2.out
        have e1 : IntKind.u64.wrap (18446744073709551615 - cy) = D := by rw [hD]; exact HS1.out
        clear hD
        go_wp2_with fail
        go_round
        case rel => exact ⟨j + 1, by omega, by go_num, by rw [HE3.out, HH1.out], by rw [HL1.out]⟩
        case measure => simp [intOf]; omega
    · have hlt' : ¬ (j : Int) < n := by omega
      have HE : Hid (L.take j = L) := Lib.hid (List.take_of_length_le (by rw [HNL.out]; omega))
      rw [HE.out]
      go_wp2_with fail
      go_ret2
      exact ⟨rfl, rfl⟩
end Go.Proofs.Ytpkkgmmcindfgaa

/-
  Of part RefCopy13: what is needed here.
-/
namespace Go.Proofs.Ytpkkgmmcindfgaa
open Go.RowKit
set_option linter.unusedVariables false
set_option maxRecDepth 100000
theorem built_rs (A : Option Addr) (n c : Nat) : Try.prog.built 31 [(0, .slice A n c)] = some ([Value.slice A n c] : List Value).toArray := by kernel_rfl
set_option maxHeartbeats 4000000 in
theorem refCopy13 (pb base : Nat) (v : Value) (L : List LHold) (w : World) (hs : RS13 w pb base v L) (hb : base ≤ w.heap.size) (hL : L.length ≤ 900) : Calls Try.prog 11 #[.pointer (some ⟨pb, 0, none⟩)] w fun e w' => ∃ qb u, e = .returned (.pointer (some ⟨qb, 0, none⟩)) ∧ RS13 w' qb base u L ∧ w.heap.size ≤ qb ∧ (∀ g, u.ownBlock = some g → w.heap.size ≤ g) ∧ Below w.heap.size w w' := by
  obtain ⟨A, c, rfl, hh, hlc, hcm⟩ := hs.form
  have HH := Lib.hid hh
  have HS := Lib.hid hs
  have hc0 := hs.row.cell 0
  have HB := Lib.hid hb
  unfold maxLen at hcm
  clear hs hh hb
  go_enter Try.func11, Try.ntmps11
  go_wp2_with (first
    | ((with_reducible show wpList _ _ _ ({ dst := some 7, op := Op.call _, type := _, pos := _, after := _, guard := _ } :: _) _ _); go_must (refine wpList_appendN rfl (.const (.slice none 0 0)) (.tmp 6) 29 60 _ 66 80 rfl Try.underlying29 infoHo zszHo (by omega) (.slice none 0 0) 0 [] base _ A L.length c (holdsC L) rfl (own_nilN _ _ _ _) ?_ HH.out.sees (holdsC_one _) (by unfold maxLen; omega) (by omega) HB.out ?_; go_simp; intro v4 w4 ho4 hg4; rw [Nat.zero_add, List.nil_append] at ho4; obtain ⟨A4, c4, hv4, _⟩ := own_form2 ho4; subst hv4; have O4 := Lib.hid ho4; have G4 := Lib.hid hg4; clear ho4 hg4))
    | ((with_reducible show wpList _ _ _ ({ dst := some 8, op := Op.build _ _, type := _, pos := _, after := _, guard := _ } :: _) _ _); go_must (refine wpList_plain rfl fun K hK => wp_built _ _ _ rfl (by simp only [List.map_toArray, List.map_cons, List.map_nil]; exact built_rs _ _ _) (hK _ _ ?_)))
    | ((with_reducible show wpList _ _ _ ({ dst := some 9, op := Op.box _ _, type := _, pos := _, after := _, guard := _ } :: _) _ _); go_must (refine wpList_box_new rfl 31 (.tmp 8) rfl [Value.slice A4 L.length c4] ?_ ?_; go_simp)))
  go_ret
  have hb4 : Below w.heap.size w w4 := (Below.refl _ _).grown G4.out.grown (Nat.le_refl _) (fun k hk => by cases hk)
  have hb5 := (Below.refl w4.heap.size w4).alloc (Nat.le_refl _) (.cells ([Value.slice A4 L.length c4] : List Value).toArray 31)
  refine ⟨w4.heap.size, _, rfl, ⟨Row.new w4 _ _, own_below O4.out hb5, HS.out.sto⟩, hb4.size, fun g hg => ?_, hb4.trans (hb5.mono hb4.size)⟩
  rcases G4.out.fresh g hg with h | h
  · cases h
  · exact h
def SameDone13 (w : World) (b : Bool) (e : Ending) (w' : World) : Prop := e = .returned (.bool b) ∧ ∃ k, w' = w.drewN k
set_option maxHeartbeats 4000000 in
theorem refSame13 (pb qb base base' : Nat) (v u : Value) (L M : List LHold) (w : World) (hs : RS13 w pb base v L) (ht : RS13 w qb base' u M) (hL : L.length ≤ 900) (hM : M.length ≤ 900) : Calls Try.prog 17 #[.pointer (some ⟨pb, 0, none⟩), .pointer (some ⟨qb, 0, none⟩)] w (SameDone13 w (decide (L = M))) := by
  obtain ⟨A, c, rfl, hh, hlc, hcm⟩ := hs.form
  obtain ⟨B, d, rfl, hh', hld, hdm⟩ := ht.form
  have HH := Lib.hid hh
  have HH' := Lib.hid hh'
  have hc0 := hs.row.cell 0
  have hd0 := ht.row.cell 0
  unfold maxLen at hcm hdm
  obtain ⟨n, hn⟩ : ∃ n, n = L.length := ⟨_, rfl⟩
  obtain ⟨m, hm⟩ : ∃ m, m = M.length := ⟨_, rfl⟩
  have HNL : Hid (L.length = n) := Lib.hid hn.symm
  have HNM : Hid (M.length = m) := Lib.hid hm.symm
  rw [← hn] at HH hlc hc0 hL
  rw [← hm] at HH' hld hd0 hM
  clear hs ht hh hh' hn hm
  by_cases hnm : n = m
  · subst hnm
    go_enter Try.func17, Try.ntmps17
    go_wp2_with fail
    go_quiet (fail)
    go_wp2_with fail
    go_loopw [5] (fun i wr => ∃ j q : Nat, j ≤ n ∧ Hid (L.take j = M.take j) ∧ i = .int .i64 j ∧ wr = w.drewN q) (fun i _ => n - (intOf i).toNat)
    case atStart => exact ⟨0, _, Nat.zero_le _, Lib.hid rfl, rfl, rfl⟩
    case round =>
      obtain ⟨j, q, hj, HI, rfl, rfl⟩ := hrel
      by_cases hlt : j < n
      · have hlt' : (j : Int) < n := by omega
        obtain ⟨a, x, rfl, hab, hx, hok, hcx⟩ := HH.out.get hlt
        obtain ⟨b, y, rfl, hbb, hy, hok', hcy⟩ := HH'.out.get hlt
        have HEY := Lib.hid (fun w => hold_neq hok.k.1 hok'.k.1 hok.a.o.1 hok'.a.o.1 w)
        have HSX := Lib.hid (size_hold hok.k.1 hok.a.o.1)
        have HSY := Lib.hid (size_hold hok'.k.1 hok'.a.o.1)
        have HCX := Lib.hid hcx
        have HCY := Lib.hid hcy
        clear hab hbb hcx hcy hok hok'
        by_cases hxy : x = y
        · have HI2 : Hid (L.take (j + 1) = M.take (j + 1)) := Lib.hid (by rw [List.take_add_one, List.take_add_one, HI.out, hx, hy, hxy])
          rw [decide_eq_true hxy] at HEY
          clear hxy hx hy
          go_wp2_with fail
          have NEY := HEY.out
          clear HEY
          refine wp_region_quiet_lit (by kernel_rfl) (by kernel_rfl) ?_
          repeat (first
            | ((with_reducible show wpQuiet _ _ _ _ ({ dst := some 32, op := Op.load _ _, type := _, pos := _, after := _, guard := _ } :: _) _); go_must (refine quiet_load_at (by kernel_rfl) 60 (.tmp 31) rfl (a.add (j * 66)) x.cells _ Try.underlying60 rfl HSX.out (by rintro _ ⟨nq, rfl⟩; exact HCX.out) ?_ ?_; go_simp; go_simp))
            | ((with_reducible show wpQuiet _ _ _ _ ({ dst := some 39, op := Op.load _ _, type := _, pos := _, after := _, guard := _ } :: _) _); go_must (refine quiet_load_at (by kernel_rfl) 60 (.tmp 38) rfl (b.add (j * 66)) y.cells _ Try.underlying60 rfl HSY.out (by rintro _ ⟨nq, rfl⟩; exact HCY.out) ?_ ?_; go_simp; go_simp))
            | go_big_quiet_step (fail))
          refine wpQuiet_nil ?_
          intro nq
          clear NEY
          go_wp2_with fail
          go_roundw
          case rel => exact ⟨j + 1, q + nq, by omega, HI2, by go_num, rfl⟩
          case measure => simp [intOf]; omega
        · have HNE : Hid (¬ L = M) := Lib.hid (fun e => by
            rw [e, hy] at hx
            exact hxy (Option.some.inj hx).symm)
          rw [decide_eq_false hxy] at HEY
          clear hxy hx hy
          go_wp2_with fail
          have NEY := HEY.out
          clear HEY
          refine wp_region_quiet_lit (by kernel_rfl) (by kernel_rfl) ?_
          repeat (first
            | ((with_reducible show wpQuiet _ _ _ _ ({ dst := some 32, op := Op.load _ _, type := _, pos := _, after := _, guard := _ } :: _) _); go_must (refine quiet_load_at (by kernel_rfl) 60 (.tmp 31) rfl (a.add (j * 66)) x.cells _ Try.underlying60 rfl HSX.out (by rintro _ ⟨nq, rfl⟩; exact HCX.out) ?_ ?_; go_simp; go_simp))
            | ((with_reducible show wpQuiet _ _ _ _ ({ dst := some 39, op := Op.load _ _, type := _, pos := _, after := _, guard := _ } :: _) _); go_must (refine quiet_load_at (by kernel_rfl) 60 (.tmp 38) rfl (b.add (j * 66)) y.cells _ Try.underlying60 rfl HSY.out (by rintro _ ⟨nq, rfl⟩; exact HCY.out) ?_ ?_; go_simp; go_simp))
            | go_big_quiet_step (fail))
          refine wpQuiet_nil ?_
          intro nq
          clear NEY
          go_wp2_with fail
          go_ret
          exact ⟨by rw [decide_eq_false HNE.out]; rfl, q + nq, rfl⟩
      · have hlt' : ¬ (j : Int) < n := by omega
        have HE : Hid (L = M) := Lib.hid (by
          have := HI.out
          rwa [List.take_of_length_le (by rw [HNL.out]; omega), List.take_of_length_le (by rw [HNM.out]; omega)] at this)
        go_wp2_with fail
        go_ret
        exact ⟨by rw [decide_eq_true HE.out]; rfl, q, rfl⟩
  · have HNE : Hid (¬ L = M) := Lib.hid (fun e => hnm (by rw [← HNL.out, ← HNM.out, e]))
    have h1 : ¬ (n : Int) = m := by omega
    have h2 : ((n : Int) == m) = false := by simpa using h1
    clear hnm
    go_enter Try.func17, Try.ntmps17
    go_wp2_with fail
    go_quiet (fail)
    go_wp2_with fail
    go_ret
    exact ⟨by rw [decide_eq_false HNE.out]; rfl, _, rfl⟩
end Go.Proofs.Ytpkkgmmcindfgaa

/-
  Of part Range13: what is needed here.
-/
namespace Go.Proofs.Ytpkkgmmcindfgaa
open Go.RowKit Go.Maps
set_option linter.unusedVariables false
set_option maxRecDepth 100000
theorem nodup_le13 {α : Type} [DecidableEq α] : ∀ {l m : List α}, l.Nodup → (∀ x ∈ l, x ∈ m) → l.length ≤ m.length
  | [], _, _, _ => Nat.zero_le _
  | x :: l, m, hd, h => by
    have hd' := List.nodup_cons.1 hd
    have h1 := nodup_le13 (m := m.erase x) hd'.2 fun y hy => (List.mem_erase_of_ne (fun e => hd'.1 (by rw [← e]; exact hy))).2 (h y (List.mem_cons_of_mem _ hy))
    have h2 := List.length_erase_of_mem (h x List.mem_cons_self)
    have h3 : 0 < m.length := List.length_pos_of_mem (h x List.mem_cons_self)
    simp only [List.length_cons]
    omega
/-- the range is under way: vs have come -/
def RV13 (w : World) (mb rr : Nat) (L : List LHold) (D : DataW Unit) (vs : List (List Int)) : Prop :=
  ∃ (left : Lit → Bool) (cnt : Nat), w.ranges Try.prog 24 accE mb rr L.length D left cnt ∧ (∀ kl, left kl = true → Go.Maps.has D kl = true) ∧ (∀ x ∈ ks13 L, left (KL x) = decide (x ∉ vs)) ∧ vs.Nodup ∧ (∀ x ∈ vs, x ∈ ks13 L)
section
variable {w w' : World} {mb rr : Nat} {L : List LHold} {D : DataW Unit} {vs : List (List Int)}
theorem RV13.start (h : w.ranges Try.prog 24 accE mb rr L.length D (Go.Maps.has D) (Go.Maps.size D)) (had : AD D (ks13 L) (getH L)) : RV13 w mb rr L D [] :=
  ⟨_, _, h, fun _ h => h, fun x hx => by rw [had.has_key (had.ok x hx).1, decide_eq_true hx]; simp, List.nodup_nil, by simp⟩
theorem RV13.kept (h : RV13 w mb rr L D vs) {row : Option Nat} (hg : w.grownBy w' row) (hb : some mb ≠ row) (hr : some rr ≠ row) : RV13 w' mb rr L D vs ∧ w'.rangeLeft mb rr = w.rangeLeft mb rr := by
  obtain ⟨left, cnt, h1, h2⟩ := h
  have h3 := h1.kept hg hb hr
  exact ⟨⟨left, cnt, h3, h2⟩, by rw [h1.left_eq, h3.left_eq]⟩
theorem RV13.owns (h : RV13 w mb rr L D vs) : w.ownsMap Try.prog 24 accE mb L.length D := by
  obtain ⟨_, _, h1, _⟩ := h
  exact h1.owns
theorem RV13.own_ne (h : RV13 w mb rr L D vs) {base size n : Nat} {e : TypeId} {u : Value} {xs : List Value} (ho : w.ownsRow base e size u n xs) : ∀ g, u.ownBlock = some g → some mb ≠ some g ∧ some rr ≠ some g := fun g hg => by
  obtain ⟨_, _, ⟨es, clock, since, seen, c0, h1, _, _, _, h2, _⟩, _⟩ := h
  obtain ⟨cur, hc⟩ := own_is ho hg
  constructor
  · rintro e
    cases e
    rw [hc] at h1
    cases h1
  · rintro e
    cases e
    rw [hc] at h2
    cases h2
theorem RV13.len (h : RV13 w mb rr L D vs) : vs.length ≤ L.length := by
  obtain ⟨_, _, _, _, _, h1, h2⟩ := h
  have := nodup_le13 h1 h2
  rwa [ks13_len] at this
theorem RV13.nodup (h : RV13 w mb rr L D vs) : vs.Nodup := by
  obtain ⟨_, _, _, _, _, h1, _⟩ := h
  exact h1
/-- the range's step -/
theorem wpList_next13 {ops : Array Oper} {rest : List Oper} {o : Oper} {a : Act} {Q : Exit → Act → World → Prop} (hg : o.guard = none) (it : Operand) (hop : o.op = Op.next it false)
    (hit : a.eval it = .pointer (some ⟨rr, 0, none⟩)) (hs : Sto L) (h : RV13 w mb rr L D vs) (had : AD D (ks13 L) (getH L))
    (hDone : vs.Perm (ks13 L) → wpList Try.prog ops Q rest (a.put o.dst (.tuple #[.bool false])) w)
    (hMore : ∀ (k : List Int) (w' : World), k ∈ ks13 L → k ∉ vs → RV13 w' mb rr L D (k :: vs) → w'.rangeLeft mb rr < w.rangeLeft mb rr → w.grownBy w' (some rr) → w'.heap.size = w.heap.size →
      (Instr.entry (.pointer (some ⟨rr, 0, none⟩))).run Try.prog w' = .ok (.tuple #[.agg (bv k).toArray, .agg (getH L k).cells.toArray]) w' → wpList Try.prog ops Q rest (a.put o.dst (.tuple #[.bool true, .agg (bv k).toArray, .agg (getH L k).cells.toArray])) w') :
    wpList Try.prog ops Q (o :: rest) a w := by
  obtain ⟨left, cnt, hrg, hlf, hlk, hnd, hsub⟩ := h
  refine wpList_next_acc hg it hop mb rr L.length D (ks13 L) (getH L) left cnt hit hrg had hlf (fun _ hl => hDone ?_) (fun k w' cnt' hk hlk1 hrg1 hlt hgr hsz hen => ?_)
  · refine (List.perm_ext_iff_of_nodup hnd (ks13_nodup hs.rise)).2 fun x => ⟨hsub x, fun hx => ?_⟩
    have := hlk x hx
    rw [hl] at this
    simpa using this.symm
  · have hnv : k ∉ vs := by have := hlk k hk; rw [hlk1] at this; simpa using this.symm
    refine hMore k w' hk hnv ⟨_, cnt', hrg1, fun kl hkl => hlf kl (by simp at hkl; exact hkl.1), left_strike had hlk hk, List.nodup_cons.2 ⟨hnv, hnd⟩, fun x hx => ?_⟩ (by rw [hrg.left_eq, hrg1.left_eq]; exact hlt) hgr hsz hen
    rcases List.mem_cons.1 hx with rfl | hx
    · exact hk
    · exact hsub x hx
end
/-- the coins of some keys -/
def sumV (L : List LHold) : List (List Int) → Int
  | [] => 0
  | k :: r => (getH L k).c + sumV L r
theorem sumV_perm {L : List LHold} {l l' : List (List Int)} (h : l.Perm l') : sumV L l = sumV L l' := by
  induction h with
  | nil => rfl
  | cons x _ ih => simp only [sumV, ih]
  | swap x y l => simp only [sumV]; omega
  | trans _ _ h1 h2 => exact h1.trans h2
theorem sumV_map (L : List LHold) : ∀ l : List LHold, (∀ x ∈ l, getH L x.k = x.a) → sumV L (l.map LHold.k) = sumH l
  | [], _ => rfl
  | x :: r, h => by
    show (getH L x.k).c + sumV L (r.map LHold.k) = x.a.c + sumH r
    rw [h x List.mem_cons_self, sumV_map L r fun y hy => h y (List.mem_cons_of_mem _ hy)]
theorem sumV_all {L : List LHold} (h : Sto L) {vs : List (List Int)} (hp : vs.Perm (ks13 L)) : sumV L vs = sumH L := by
  rw [sumV_perm hp]
  exact sumV_map L L fun x hx => getH_at h.rise hx
theorem sumV_bound {L : List LHold} (h : Sto L) : ∀ vs : List (List Int), 0 ≤ sumV L vs ∧ sumV L vs ≤ vs.length * 18446744073709551615
  | [] => by simp [sumV]
  | k :: r => by
    have h1 := (h.get_ok k).c
    have h2 := sumV_bound h r
    simp only [sumV, List.length_cons]
    omega
def hiV (L : List LHold) (vs : List (List Int)) : Int := sumV L vs / 18446744073709551616
def loV (L : List LHold) (vs : List (List Int)) : Int := sumV L vs % 18446744073709551616
theorem add64_13 (x y : Int) (hx : 0 ≤ x) (hy : 0 ≤ y) (w : World) :
    (callFunc 32 #[.int .u64 x, .int .u64 y, .int .u64 0]).run Try.prog w =
      .ok (.value (.tuple #[.int .u64 ((x + y) % 18446744073709551616), .int .u64 ((x + y) / 18446744073709551616)])) w := by
  rw [run_callFunc_extern Try.func32 (by kernel_rfl) (by kernel_rfl) (by kernel_rfl) (e := add64Entry) (by kernel_rfl), run_add64 x y 0 hx hy (by omega) (by omega)]
  simp [Result.andThen]
theorem hi_lo_step {L : List LHold} (h : Sto L) {vs : List (List Int)} (hn : vs.length ≤ 900) (k : List Int) :
    (loV L vs + (getH L k).c) % 18446744073709551616 = loV L (k :: vs) ∧ IntKind.u64.wrap (hiV L vs + (loV L vs + (getH L k).c) / 18446744073709551616) = hiV L (k :: vs) ∧ 0 ≤ loV L vs := by
  have h1 := (h.get_ok k).c
  have h2 := sumV_bound h vs
  have h3 : sumV L (k :: vs) = (getH L k).c + sumV L vs := rfl
  unfold loV hiV
  rw [h3]
  generalize sumV L vs = s at *
  generalize (getH L k).c = c at *
  refine ⟨by omega, ?_, by omega⟩
  rw [IntKind.wrap_u64]
  omega
set_option maxHeartbeats 8000000 in
theorem coins13 (sb mb : Nat) (L : List LHold) (w : World) (h : StIn w sb mb L) (hL : L.length ≤ 900) : Calls Try.prog 19 #[.pointer (some ⟨sb, 0, none⟩)] w fun e w' => e = .returned (.tuple #[.int .u64 (hi13 L), .int .u64 (lo13 L)]) ∧ Below w.heap.size w w' := by
  have HT := Lib.hid (there13 sb mb L w h)
  have c0 : w.cell? ⟨sb, 0, none⟩ = some (.map (some mb)) := h.row.cell 0
  obtain ⟨D, ho, had⟩ := h.map
  have HAD := Lib.hid had
  have HOW := Lib.hid ho
  have HST := Lib.hid h.sto
  have HMB := Lib.hid h.lt.2
  clear h ho had
  go_enter Try.func19, Try.ntmps19
  go_wp2_with fail
  refine HT.out.mono ?_
  rintro e w' ⟨rfl, rfl⟩
  clear HT
  go_wp2_with (at_range; go_must (refine wpList_range_own _ rfl (.tmp 14) 53 rfl 24 35 key_law Try.underlying53 accE mb L.length D rfl HOW.out ?_; intro w4 hrg hg hsz))
  try go_frame
  have B4 : Hid (Below w.heap.size w w4) := Lib.hid ((Below.refl _ _).grown hg (Nat.le_refl _) (by intro k hk; cases hk))
  have R4 := Lib.hid (RV13.start hrg HAD.out)
  obtain ⟨rr, hrr⟩ : ∃ r, r = w.heap.size := ⟨_, rfl⟩
  have HRR : Hid (w.heap.size ≤ rr) := Lib.hid (Nat.le_of_eq hrr.symm)
  rw [← hrr] at R4 ⊢
  clear hrr hrg hg hsz HOW c0
  go_loopw [2, 3] (fun s2 s3 wx => ∃ vs, RV13 wx mb rr L D vs ∧ s2 = .int .u64 (hiV L vs) ∧ s3 = .int .u64 (loV L vs) ∧ Below w.heap.size w wx) (fun _ _ wx => wx.rangeLeft mb rr)
  case atStart => exact ⟨[], R4.out, by simp [hiV, sumV], by simp [loV, sumV], B4.out⟩
  case round =>
    clear B4 R4
    obtain ⟨vs, hrv, rfl, rfl, hb⟩ := hrel
    have RV := Lib.hid hrv
    have HB := Lib.hid hb
    have HVL : Hid (vs.length ≤ 900) := Lib.hid (Nat.le_trans hrv.len hL)
    clear hrv hb
    go_wp2_with (at_next; go_must (refine wpList_next13 rfl (.tmp 15) rfl rfl HST.out RV.out HAD.out ?_ ?_))
    · intro hp
      have E1 : Hid (hiV L vs = hi13 L) := Lib.hid (by unfold hiV hi13; rw [sumV_all HST.out hp])
      have E2 : Hid (loV L vs = lo13 L) := Lib.hid (by unfold loV lo13; rw [sumV_all HST.out hp])
      clear hp
      rw [E1.out, E2.out]
      go_wp2_with fail
      go_ret2
      exact ⟨rfl, HB.out⟩
    · intro k1 w5 hk1 hnv hrv1 hlt hg1 hs1 hen
      have RV5 := Lib.hid hrv1
      have HLT := Lib.hid hlt
      have B5 := Lib.hid (HB.out.grown hg1 HB.out.size (fun j hj => by cases hj; exact HRR.out))
      have HOK := Lib.hid (HST.out.get_ok k1)
      have HS := Lib.hid (hi_lo_step HST.out HVL.out k1)
      have HSF := Lib.hid (size_acc HOK.out.o.1)
      have HLA : Hid (blank13.cells.toArray.size = (getH L k1).cells.length) := Lib.hid (by rw [List.size_toArray, acc_len HOK.out.o.1]; rfl)
      clear hk1 hnv hrv1 hlt hg1 hs1
      go_upto_region 6 with (first
        | ((with_reducible show wpList _ _ _ ({ dst := some 5, op := Op.alloc _, type := _, pos := _, after := _, guard := _ } :: _) _ _); go_must (refine wpList_alloc_zero rfl 35 rfl blank13.cells zero_acc ?_))
        | ((with_reducible show wpList _ _ _ ({ dst := none, op := Op.store 35 _ _, type := _, pos := _, after := _, guard := _ } :: _) _ _); go_must (refine wpList_store_new rfl 35 (.tmp 5) (.tmp 19) rfl (getH L k1).cells HSF.out (acc_one _) HLA.out ?_ ?_ ?_; go_simp; go_simp; intro w6 hr6 hb6 hz6)))
      clear hen
      have hc6 : w6.cell? ⟨w5.heap.size, 0, none⟩ = some (.int .u64 (getH L k1).c) := (hr6.cell 0).trans (acc_c _)
      have K6 := RV5.out.kept (grown_none hb6) (by simp) (by simp)
      have RV6 := Lib.hid K6.1
      have HLT6 := Lib.hid K6.2
      have B6 := Lib.hid (B5.out.trans (hb6.mono B5.out.size))
      have s1 := fun w => add64_13 (loV L vs) (getH L k1).c HS.out.2.2 HOK.out.c.1 w
      rw [HS.out.1] at s1
      have s2 := HS.out.2.1
      clear hr6 hb6 hz6 K6
      obtain ⟨q, hq⟩ : ∃ q, q = (loV L vs + (getH L k1).c) / 18446744073709551616 := ⟨_, rfl⟩
      rw [← hq] at s1 s2
      generalize w5.heap.size = g at *
      clear hq HS HSF HLA HOK
      generalize (getH L k1).c = c at *
      have NV : Hid (∃ vs', vs' = k1 :: vs) := Lib.hid ⟨_, rfl⟩
      obtain ⟨vs', hv⟩ := NV.out
      rw [← hv] at RV6 s1 s2
      clear NV hv
      generalize hh0 : hiV L vs = h0 at *
      generalize hl0 : loV L vs = l0 at *
      generalize hh1 : hiV L vs' = h1 at *
      generalize hl1 : loV L vs' = l1 at *
      have EH := Lib.hid hh1
      have EL := Lib.hid hl1
      clear hh1 hl1 hh0 hl0
      go_wp2_with fail
      go_roundw
      case rel => exact ⟨vs', RV6.out, by rw [EH.out], by rw [EL.out], B6.out⟩
      case measure =>
        show World.rangeLeft _ mb rr < World.rangeLeft _ mb rr
        rw [HLT6.out]
        exact HLT.out
end Go.Proofs.Ytpkkgmmcindfgaa
