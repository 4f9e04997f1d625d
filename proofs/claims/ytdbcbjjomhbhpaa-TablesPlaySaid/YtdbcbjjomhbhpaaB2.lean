/-
  Parts joined: BookK TwinK Pages BookMsg TwinMsg Strays Example AppendN HoldWalk KeyEq MoreWalk OtherMem.
-/
import Derived.Below
import Derived.Laws.OwnMore
import Derived.Deep.AppendLies
import Derived.Deep.Draws
import Derived.Lib.Hide
import Derived.Laws.MakeOwn
import Derived.Laws.CopyOwn
import Derived.Laws.Rows
import Derived.Laws.BitsAllLaws
import Derived.WalkKit
import Derived.Test.YtdbcbjjomhbhpaaRows
import Derived.WalkSpells
import Derived.WalkLawsBesides
import Derived.IntWalk
import Derived.Maps.AppendAt
import Derived.OwnWalk
import Derived.Deep.MidRow
import Derived.Deep.WholeRow
import Derived.Great.BuildSlice
import Derived.ProofKit
import Derived.OpenShut
import Derived.ShutString
import Derived.ChangeOld
import Derived.Lib.SmallJoins
import Derived.Recover
import Derived.Deep.RegionHeld
import Derived.Deep.QuietTactic
import Derived.BigQuiet
import Derived.Deep.Slices
import Derived.Deep.Strs
import Derived.SizedLaws
import Derived.Maps.OwnSet
import Derived.DeepKeys4
import Derived.WideKeyArr
import Derived.ChangeKeysEq
import Derived.Deep.RegionHeld2
import Derived.Deep.CutBlock
import Derived.Laws.Tables
import Derived.Deep.DeepCutAuto
import Derived.Laws.Slices
import Derived.Laws.EntriesVeiled
import Derived.Deep.RegionHeld3
import Derived.WideKeyEntry
import Derived.Test.YtdbcbjjomhbhpaaB1
/-
  Of part BookK: what is needed here.
-/
namespace Go.Proofs.Ytdbcbjjomhbhpaa
open Go.RowKit
set_option linter.unusedVariables false
/-- a key's mark -/
def kz (a b l : Int) : List Int := [a, b, 77, 0, 0, 0, 0, 0, 0, 0, 0, 0, 0, 0, 0, 0, 0, 0, 0, 0, 0, 0, 0, 0, 0, 0, 0, 0, 0, 0, 0, l]
theorem built_key (a b l : Int) : Try.prog.built 32 [(0, .int .u8 a), (1, .int .u8 b), (2, .int .u8 77), (31, .int .u8 l)] = some (bv (kz a b l)).toArray := by kernel_rfl
theorem built_sheet (B : Option Addr) (m d : Nat) (z1 z2 : List Int) (h1 : z1.length = 32) (h2 : z2.length = 32) : Try.prog.built 73 [(0, .slice B m d), (1, .agg (bv z1).toArray), (2, .agg (bv z2).toArray)] = some (sheetCells (.slice B m d) z1 z2).toArray := by
  obtain ⟨f, rfl⟩ : ∃ f : Fin 32 → Int, z1 = List.ofFn f := ⟨fun i => z1.getD i 0, by
    refine List.ext_getElem (by simpa using h1) fun i h3 h4 => ?_
    rw [List.getElem_ofFn, List.getD_eq_getElem?_getD, List.getElem?_eq_getElem h3]
    rfl⟩
  obtain ⟨g, rfl⟩ : ∃ f : Fin 32 → Int, z2 = List.ofFn f := ⟨fun i => z2.getD i 0, by
    refine List.ext_getElem (by simpa using h2) fun i h3 h4 => ?_
    rw [List.getElem_ofFn, List.getD_eq_getElem?_getD, List.getElem?_eq_getElem h3]
    rfl⟩
  kernel_rfl
theorem exec_built {a : Act} {o : Oper} (w : World) (t : TypeId) (parts : Array (Nat × Operand)) (cells : Array Value) (ho : o.op = .build t parts) (h : Try.prog.built t (parts.map fun (i, x) => (i, a.eval x)).toList = some cells) : (execOp a.eval o).run Try.prog w = .ok (.value (.agg cells)) w := by
  simp only [execOp, ho, Sem.run_bind, run_build w t _ cells h, Result.andThen_ok]
  rfl
theorem wp_built {o : Oper} {a : Act} {w : World} {K : Act → World → Prop} {Q : Exit → Act → World → Prop} (t : TypeId) (parts : Array (Nat × Operand)) (cells : Array Value) (ho : o.op = .build t parts)
    (h : Try.prog.built t (parts.map fun (i, x) => (i, a.eval x)).toList = some cells) (hK : K (a.put o.dst (.agg cells)) w) : o.wp Try.prog a w K Q :=
  wp_build t parts ho (by rw [h]; rfl) (by rw [h]; exact hK)
/-- of the blocks below 'base' only p has been written -/
structure ButOne (base p : Nat) (w w' : World) : Prop where
  os : w'.os = w.os
  tape : w'.tape = w.tape
  output : w'.output = w.output
  size : w.heap.size ≤ w'.heap.size
  block : ∀ k, k < base → k ≠ p → w'.heap[k]? = w.heap[k]?
theorem ButOne.refl (base p : Nat) (w : World) : ButOne base p w w := ⟨rfl, rfl, rfl, Nat.le_refl _, fun _ _ _ => rfl⟩
theorem ButOne.trans {base p : Nat} {a b c : World} (h : ButOne base p a b) (k : ButOne base p b c) : ButOne base p a c :=
  ⟨k.os.trans h.os, k.tape.trans h.tape, k.output.trans h.output, Nat.le_trans h.size k.size, fun i hi hp => (k.block i hi hp).trans (h.block i hi hp)⟩
theorem ButOne.below {base p B : Nat} {a b : World} (h : ButOne base p a b) (hB : B ≤ base) (hp : B ≤ p) : Below B a b :=
  ⟨h.os, h.tape, h.output, h.size, fun k hk => h.block k (by omega) (by omega)⟩
/-- 'AllReadyH.cons', the operations a list -/
theorem allL {P : Program} {L : List Oper} {Q : Exit → Act → World → Prop} {md : Region.Mode} {S : World → Prop} {i : Nat} {o : Oper} {fuel : Nat} {listed : Array Bool} {a : Act} {w : World} {rs : List Nat} (ho : L[i]? = some o)
    (hw : Region.wanted o (yielded L.toArray a.tmps) = true)
    (h : ∀ K' : Act → World → Prop, Shut (∀ a w, S w → wpAnyH P md L.toArray Q S fuel (listed.setIfInBounds i true) a w → K' a w) → Oper.wp P o a w K' Q)
    (hs : AllReadyH P md L.toArray Q S fuel listed a w rs) : AllReadyH P md L.toArray Q S fuel listed a w (i :: rs) :=
  AllReadyH.cons (by simpa using ho) (fun K hK => by
    rw [if_pos hw]
    exact h K (fun a w hS hW => hK a w hS fun _ => hW)) hs
set_option maxRecDepth 100000 in
set_option maxHeartbeats 800000 in
theorem keyMark (x y : Int) (w : World) : Calls Try.prog 32 #[.int .i64 x, .int .u8 y] w fun e w' => ∃ z, e = .returned (.agg (bv z).toArray) ∧ z.length = 32 ∧ Below w.heap.size w w' := by
  go_enter Try.func32, Try.ntmps32
  go_wp2_with (first
    | ((with_reducible show wpList _ _ _ ({ dst := some 11, op := Op.build _ _, type := _, pos := _, after := _, guard := _ } :: _) _ _); go_must (refine wpList_plain rfl fun K hK => wp_built _ _ _ rfl (by simp only [List.map_toArray, List.map_cons, List.map_nil]; exact built_key _ _ _) (hK _ _ ?_)))
    | ((with_reducible show wpList _ _ _ ({ dst := none, op := Op.store 32 _ _, type := _, pos := _, after := _, guard := _ } :: _) _ _); go_must (refine wpList_store_new rfl 32 (.tmp 4) (.tmp 11) rfl (bv (kz (x % 256) (wrap64 (x.tdiv 256) % 256) y)) size_key (bv_one _) rfl ?_ ?_ ?_; go_simp; go_simp; intro w1 hr1 hb1 hz1; have HR1 := Lib.hid hr1; have HB1 := Lib.hid hb1; clear hr1 hb1)))
  refine bodyPost_ret (results_cell_row (h := rfl) _ w1 w.heap.size 32 _ (0, 0) _ (by rfl) HR1.out.is Try.underlying32 rfl size_key) rfl ?_
  exact ⟨_, rfl, rfl, HB1.out⟩
/-- block k holds no pages -/
def NoPages (w : World) (k : Nat) : Prop := ∀ xs fr, w.heap[k]? ≠ some (.cells xs 75 fr)
/-- a book, its pages of the call's own, from world w0 on -/
structure BookW (w0 : World) (p base : Nat) (A : Option Addr) (n c : Nat) (ps : List Value) (w : World) : Prop where
  row : Row w p 43 [.slice A n c]
  own : w.ownsRow base 75 1 (.slice A n c) n ps
  one : ButOne base p w0 w
  lt : base ≤ w.heap.size
  keep : ∀ k, k < w0.heap.size → k ≠ p → NoPages w0 k → w.heap[k]? = w0.heap[k]?
section
variable {w0 w w' : World} {p base n c : Nat} {A : Option Addr} {ps : List Value}
theorem BookW.start (h : BookW w0 p base A n c ps w) : BookW w p base A n c ps w := ⟨h.row, h.own, ButOne.refl _ _ _, h.lt, fun _ _ _ _ => rfl⟩
theorem BookW.trans {A' : Option Addr} {n' c' : Nat} {ps' : List Value} (h : BookW w0 p base A n c ps w) (h' : BookW w p base A' n' c' ps' w') : BookW w0 p base A' n' c' ps' w' :=
  ⟨h'.row, h'.own, h.one.trans h'.one, h'.lt, fun k hk hp hn => by
    have e := h.keep k hk hp hn
    refine (h'.keep k (Nat.lt_of_lt_of_le hk h.one.size) hp ?_).trans e
    intro xs fr
    rw [e]
    exact hn xs fr⟩
theorem BookW.below (h : BookW w0 p base A n c ps w) (hb : Below w.heap.size w w') : BookW w0 p base A n c ps w' :=
  ⟨h.row.below hb h.row.lt, own_below h.own hb, h.one.trans ⟨hb.os, hb.tape, hb.output, hb.size, fun k hk _ => hb.block k (by have := h.lt; omega)⟩, by have := h.lt; have := hb.size; omega,
    fun k hk hp hn => (hb.block k (Nat.lt_of_lt_of_le hk h.one.size)).trans (h.keep k hk hp hn)⟩
theorem BookW.alloc (h : BookW w0 p base A n c ps w) (o : Obj) : BookW w0 p base A n c ps (w.alloc o) := h.below ((Below.refl _ _).alloc (Nat.le_refl _) o)
theorem BookW.drewN (h : BookW w0 p base A n c ps w) (k : Nat) : BookW w0 p base A n c ps (w.drewN k) := ⟨h.row.drewN k, h.own, ⟨h.one.os, h.one.tape, h.one.output, h.one.size, h.one.block⟩, h.lt, h.keep⟩
theorem own_pages {v : Value} {m : Nat} (h : w.ownsRow base 75 1 v m ps) {k : Nat} (hn : NoPages w k) : some k ≠ v.ownBlock := by
  rcases h.2 with ⟨rfl, _⟩ | ⟨g', cap, cur, rfl, _, hh, _⟩
  · simp [Value.ownBlock]
  · intro he
    have hg : k = g' := by simpa [Value.ownBlock] using he
    subst hg
    exact hn _ _ hh
theorem BookW.last {q : List Value} {m : Nat} {A' : Option Addr} {c' : Nat} (h : BookW w0 p base A n c ps w) (hr : Row w' p 43 [.slice A n c]) (ho : w'.ownsRow base 75 1 (.slice A' m c') m (ps ++ q)) (hg : w.grownBy w' (Value.slice A n c).ownBlock) :
    BookW w0 p base A' m c' (ps ++ q) (w'.setCell ⟨p, 0, none⟩ (.slice A' m c')) := by
  have hT := turned_setCell w' ⟨p, 0, none⟩ (.slice A' m c')
  have hz := hg.size
  have hl := h.lt
  refine ⟨hr.set_ 0 _, own_far ho hr (by decide) 0 _, h.one.trans ⟨hg.os, hg.tape, hg.output, ?_, fun k hk hp => ?_⟩, by rw [hT.size]; omega, fun k hk hp hn => ?_⟩
  · rw [hT.size]; exact hz
  · rw [hT.block k hp]
    exact hg.block k (by omega) fun e => by have := (h.own.lt k e.symm).1; omega
  · have e := h.keep k hk hp hn
    rw [hT.block k hp]
    refine (hg.block k (Nat.lt_of_lt_of_le hk h.one.size) (own_pages h.own ?_)).trans e
    intro xs fr
    rw [e]
    exact hn xs fr
/-- a row of other things stays -/
theorem BookW.rowK {g t : Nat} {xs : List Value} (h : BookW w0 p base A n c ps w) (hr : Row w0 g t xs) (hg : g ≠ p) (ht : t ≠ 75) : Row w g t xs :=
  ⟨(h.keep g hr.lt hg (fun ys fr e => by
    rw [hr.is] at e
    injection e with e
    injection e with _ e
    exact ht e)).trans hr.is⟩
end
set_option maxRecDepth 100000 in
set_option maxHeartbeats 4000000 in
theorem bookKeys (p base : Nat) (A B : Option Addr) (n c m d : Nat) (ps : List Value) (w0 w : World) (h : BookW w0 p base A n c ps w) (hn : n ≤ 1000000) :
    Calls Try.prog 16 #[.pointer (some ⟨p, 0, none⟩), .slice B m d] w fun e w' => ∃ z1 z2 A' c', e = .returned (.tuple #[]) ∧ z1.length = 32 ∧ z2.length = 32 ∧
      BookW w0 p base A' (n + 1) c' (ps ++ [.iface 73 (.agg (sheetCells (.slice B m d) z1 z2).toArray)]) w' := by
  obtain ⟨i0, hi, hz0, hz1, hz2⟩ := info_parts info_page
  have HI := Lib.hid (And.intro hi (And.intro hz0 (And.intro hz1 hz2)))
  have HN := Lib.hid (number_ p A n c w h.row hn)
  have H0 := Lib.hid (h.drewN 1)
  clear h hi hz0 hz1 hz2
  go_enter Try.func16, Try.ntmps16
  go_wp2_with fail
  refine HN.out.mono ?_
  rintro e w1 ⟨rfl, rfl⟩
  go_wp2_with fail
  refine wp_region_held (S := fun _ => True) (by kernel_rfl) ?_
  try (change wpAnyH _ _ _ _ _ _ _ _ (World.drew _))
  refine takeL (i := 0) (v := ?_) rfl (by kernel_rfl) (by kernel_rfl) (by kernel_rfl) (fun _ _ _ h => h) (Or.inl ⟨by rfl, ?_⟩) trivial ?_
  rotate_left
  · intro w _
    go_simp
    try with_reducible rfl
  try simp only [Act.put, List.setIfInBounds_toArray, List.set_cons_zero, List.set_cons_succ]
  refine takeL (i := 1) (v := ?_) rfl (by kernel_rfl) (by kernel_rfl) (by kernel_rfl) (fun _ _ _ h => h) (Or.inl ⟨by rfl, ?_⟩) trivial ?_
  rotate_left
  · intro w _
    go_simp
    try with_reducible rfl
  try simp only [Act.put, List.setIfInBounds_toArray, List.set_cons_zero, List.set_cons_succ]
  refine takeL (i := 2) (v := ?_) rfl (by kernel_rfl) (by kernel_rfl) (by kernel_rfl) (fun _ _ _ h => h) (Or.inl ⟨by rfl, ?_⟩) trivial ?_
  rotate_left
  · intro w _
    go_simp
    try with_reducible rfl
  try simp only [Act.put, List.setIfInBounds_toArray, List.set_cons_zero, List.set_cons_succ]
  refine takeL (i := 3) (v := ?_) rfl (by kernel_rfl) (by kernel_rfl) (by kernel_rfl) (fun _ _ _ h => h) (Or.inl ⟨by rfl, ?_⟩) trivial ?_
  rotate_left
  · intro w _
    go_simp
    try with_reducible rfl
  try simp only [Act.put, List.setIfInBounds_toArray, List.set_cons_zero, List.set_cons_succ]
  refine takeL (i := 5) (v := ?_) rfl (by kernel_rfl) (by kernel_rfl) (by kernel_rfl) (fun _ _ _ h => h) (Or.inl ⟨by rfl, ?_⟩) trivial ?_
  rotate_left
  · intro w _
    go_simp
    try with_reducible rfl
  try simp only [Act.put, List.setIfInBounds_toArray, List.set_cons_zero, List.set_cons_succ]
  refine takeL (i := 6) (v := ?_) rfl (by kernel_rfl) (by kernel_rfl) (by kernel_rfl) (fun _ _ _ h => h) (Or.inl ⟨by rfl, ?_⟩) trivial ?_
  rotate_left
  · intro w _
    go_simp
    try with_reducible rfl
  try simp only [Act.put, List.setIfInBounds_toArray, List.set_cons_zero, List.set_cons_succ]
  refine takeL (i := 8) (v := ?_) rfl (by kernel_rfl) (by kernel_rfl) (by kernel_rfl) (fun _ _ _ h => h) (Or.inl ⟨by rfl, ?_⟩) trivial ?_
  rotate_left
  · intro w _
    go_simp
    try with_reducible rfl
  try simp only [Act.put, List.setIfInBounds_toArray, List.set_cons_zero, List.set_cons_succ]
  refine wpAnyH_ready (rs := [4, 7]) (by kernel_rfl) (by simp) ?_
  refine allL rfl (by kernel_rfl) (fun K hK => ?_) (allL rfl (by kernel_rfl) (fun K hK => ?_) (AllReadyH.nil))
  · have c1 : w.drew.cell? ⟨p, 0, none⟩ = some (.slice A n c) := H0.out.row.cell 0
    go_simp
    clear c1
    refine hK _ _ trivial ?_
    clear hK K
    try simp only [Act.put, List.setIfInBounds_toArray, List.set_cons_zero, List.set_cons_succ]
    refine readyL (i := 7) rfl (by kernel_rfl) (by kernel_rfl) fun K hK => ?_
    go_simp
    refine (keyMark _ _ _).mono ?_
    rintro e w12 ⟨z1, rfl, hz1, hb⟩
    have H12 := Lib.hid (H0.out.below hb)
    clear hb
    simp only []
    refine hK _ _ trivial ?_
    clear hK K
    try simp only [Act.put, List.setIfInBounds_toArray, List.set_cons_zero, List.set_cons_succ]
    refine readyL (i := 9) rfl (by kernel_rfl) (by kernel_rfl) fun K hK => ?_
    go_simp
    refine (keyMark _ _ _).mono ?_
    rintro e w23 ⟨z2, rfl, hz2, hb⟩
    have H23 := Lib.hid (H12.out.below hb)
    clear hb
    simp only []
    refine hK _ _ trivial ?_
    clear hK K
    try simp only [Act.put, List.setIfInBounds_toArray, List.set_cons_zero, List.set_cons_succ]
    refine takeL (i := 10) (v := .agg (sheetCells (.slice B m d) z1 z2).toArray) rfl (by kernel_rfl) (by kernel_rfl) (by kernel_rfl) (fun _ _ _ h => h) (Or.inl ⟨by rfl, fun w _ => ?_⟩) trivial ?_
    · exact exec_built w _ _ _ rfl (by simp only [List.map_toArray, List.map_cons, List.map_nil]; exact built_sheet B m d z1 z2 hz1 hz2)
    try simp only [Act.put, List.setIfInBounds_toArray, List.set_cons_zero, List.set_cons_succ]
    refine takeL (i := 11) (v := ?_) rfl (by kernel_rfl) (by kernel_rfl) (by kernel_rfl) (fun _ _ _ h => h) (Or.inl ⟨by rfl, ?_⟩) trivial ?_
    rotate_left
    · intro w _
      go_simp
      try with_reducible rfl
    try simp only [Act.put, List.setIfInBounds_toArray, List.set_cons_zero, List.set_cons_succ]
    refine readyL (i := 12) rfl (by kernel_rfl) (by kernel_rfl) fun K hK => ?_
    go_simp
    refine hK _ _ trivial ?_
    clear hK K
    try simp only [Act.put, List.setIfInBounds_toArray, List.set_cons_zero, List.set_cons_succ]
    have HB4 := Lib.hid (H23.out.alloc (.cells [Value.iface 73 (.agg (sheetCells (.slice B m d) z1 z2).toArray)].toArray 75))
    have hsee := (Row.new w23 75 [Value.iface 73 (.agg (sheetCells (.slice B m d) z1 z2).toArray)]).sees0
    have HSEE := Lib.hid hsee
    clear hsee
    refine readyL (i := 13) rfl (by kernel_rfl) (by kernel_rfl) fun K hK => ?_
    refine wp_append_sees (.tmp 11) (.tmp 19) rfl Try.underlying41 HI.out.1 HI.out.2.1 HI.out.2.2.1 HI.out.2.2.2 rfl rfl HB4.out.own rfl HSEE.out (by simp [Value.oneCell']) (by unfold maxLen; omega) (by omega) HB4.out.lt ?_
    intro v5 w5 ho5 hg5 hat5
    obtain ⟨A5, c5, rfl⟩ := own_form ho5
    refine hK _ _ trivial ?_
    clear hK K
    try simp only [Act.put, List.setIfInBounds_toArray, List.set_cons_zero, List.set_cons_succ]
    have hr5 := HB4.out.row.grown hg5 (own_row_ne HB4.out.own HB4.out.row (by decide))
    have e5 : w5.cell? ⟨p, 0, none⟩ = some (.slice A n c) := hr5.cell 0
    have g5 := hr5.frozen 0
    refine takeL (i := 14) (v := ?_) rfl (by kernel_rfl) (by kernel_rfl) (by kernel_rfl) (fun _ _ _ h => h) (Or.inl ⟨by rfl, ?_⟩) trivial ?_
    rotate_left
    · intro w _
      go_simp
      try with_reducible rfl
    try simp only [Act.put, List.setIfInBounds_toArray, List.set_cons_zero, List.set_cons_succ]
    refine takeL (i := 15) (v := ?_) rfl (by kernel_rfl) (by kernel_rfl) (by kernel_rfl) (fun _ _ _ h => h) (Or.inl ⟨by rfl, ?_⟩) trivial ?_
    rotate_left
    · intro w _
      go_simp
      try with_reducible rfl
    try simp only [Act.put, List.setIfInBounds_toArray, List.set_cons_zero, List.set_cons_succ]
    refine readyL (i := 16) rfl (by kernel_rfl) (by kernel_rfl) fun K hK => ?_
    go_simp
    refine hK _ _ trivial ?_
    clear hK K
    try simp only [Act.put, List.setIfInBounds_toArray, List.set_cons_zero, List.set_cons_succ]
    refine wpAnyH_done (by kernel_rfl) ?_ _
    have HE := Lib.hid (HB4.out.last hr5 ho5 hg5)
    clear e5 g5 hr5 ho5 hg5 hat5
    go_wp2_with fail
    go_end0
    exact ⟨z1, z2, A5, c5, rfl, hz1, hz2, HE.out⟩
  · go_simp
    refine (keyMark _ _ _).mono ?_
    rintro e w11 ⟨z1, rfl, hz1, hb⟩
    have H11 := Lib.hid (H0.out.below hb)
    clear hb
    simp only []
    refine hK _ _ trivial ?_
    clear hK K
    try simp only [Act.put, List.setIfInBounds_toArray, List.set_cons_zero, List.set_cons_succ]
    refine wpAnyH_ready (rs := [4, 9]) (by kernel_rfl) (by simp) ?_
    refine allL rfl (by kernel_rfl) (fun K hK => ?_) (allL rfl (by kernel_rfl) (fun K hK => ?_) (AllReadyH.nil))
    · have c2 : w11.cell? ⟨p, 0, none⟩ = some (.slice A n c) := H11.out.row.cell 0
      go_simp
      clear c2
      refine hK _ _ trivial ?_
      clear hK K
      try simp only [Act.put, List.setIfInBounds_toArray, List.set_cons_zero, List.set_cons_succ]
      refine readyL (i := 9) rfl (by kernel_rfl) (by kernel_rfl) fun K hK => ?_
      go_simp
      refine (keyMark _ _ _).mono ?_
      rintro e w23 ⟨z2, rfl, hz2, hb⟩
      have H23 := Lib.hid (H11.out.below hb)
      clear hb
      simp only []
      refine hK _ _ trivial ?_
      clear hK K
      try simp only [Act.put, List.setIfInBounds_toArray, List.set_cons_zero, List.set_cons_succ]
      refine takeL (i := 10) (v := .agg (sheetCells (.slice B m d) z1 z2).toArray) rfl (by kernel_rfl) (by kernel_rfl) (by kernel_rfl) (fun _ _ _ h => h) (Or.inl ⟨by rfl, fun w _ => ?_⟩) trivial ?_
      · exact exec_built w _ _ _ rfl (by simp only [List.map_toArray, List.map_cons, List.map_nil]; exact built_sheet B m d z1 z2 hz1 hz2)
      try simp only [Act.put, List.setIfInBounds_toArray, List.set_cons_zero, List.set_cons_succ]
      refine takeL (i := 11) (v := ?_) rfl (by kernel_rfl) (by kernel_rfl) (by kernel_rfl) (fun _ _ _ h => h) (Or.inl ⟨by rfl, ?_⟩) trivial ?_
      rotate_left
      · intro w _
        go_simp
        try with_reducible rfl
      try simp only [Act.put, List.setIfInBounds_toArray, List.set_cons_zero, List.set_cons_succ]
      refine readyL (i := 12) rfl (by kernel_rfl) (by kernel_rfl) fun K hK => ?_
      go_simp
      refine hK _ _ trivial ?_
      clear hK K
      try simp only [Act.put, List.setIfInBounds_toArray, List.set_cons_zero, List.set_cons_succ]
      have HB4 := Lib.hid (H23.out.alloc (.cells [Value.iface 73 (.agg (sheetCells (.slice B m d) z1 z2).toArray)].toArray 75))
      have hsee := (Row.new w23 75 [Value.iface 73 (.agg (sheetCells (.slice B m d) z1 z2).toArray)]).sees0
      have HSEE := Lib.hid hsee
      clear hsee
      refine readyL (i := 13) rfl (by kernel_rfl) (by kernel_rfl) fun K hK => ?_
      refine wp_append_sees (.tmp 11) (.tmp 19) rfl Try.underlying41 HI.out.1 HI.out.2.1 HI.out.2.2.1 HI.out.2.2.2 rfl rfl HB4.out.own rfl HSEE.out (by simp [Value.oneCell']) (by unfold maxLen; omega) (by omega) HB4.out.lt ?_
      intro v5 w5 ho5 hg5 hat5
      obtain ⟨A5, c5, rfl⟩ := own_form ho5
      refine hK _ _ trivial ?_
      clear hK K
      try simp only [Act.put, List.setIfInBounds_toArray, List.set_cons_zero, List.set_cons_succ]
      have hr5 := HB4.out.row.grown hg5 (own_row_ne HB4.out.own HB4.out.row (by decide))
      have e5 : w5.cell? ⟨p, 0, none⟩ = some (.slice A n c) := hr5.cell 0
      have g5 := hr5.frozen 0
      refine takeL (i := 14) (v := ?_) rfl (by kernel_rfl) (by kernel_rfl) (by kernel_rfl) (fun _ _ _ h => h) (Or.inl ⟨by rfl, ?_⟩) trivial ?_
      rotate_left
      · intro w _
        go_simp
        try with_reducible rfl
      try simp only [Act.put, List.setIfInBounds_toArray, List.set_cons_zero, List.set_cons_succ]
      refine takeL (i := 15) (v := ?_) rfl (by kernel_rfl) (by kernel_rfl) (by kernel_rfl) (fun _ _ _ h => h) (Or.inl ⟨by rfl, ?_⟩) trivial ?_
      rotate_left
      · intro w _
        go_simp
        try with_reducible rfl
      try simp only [Act.put, List.setIfInBounds_toArray, List.set_cons_zero, List.set_cons_succ]
      refine readyL (i := 16) rfl (by kernel_rfl) (by kernel_rfl) fun K hK => ?_
      go_simp
      refine hK _ _ trivial ?_
      clear hK K
      try simp only [Act.put, List.setIfInBounds_toArray, List.set_cons_zero, List.set_cons_succ]
      refine wpAnyH_done (by kernel_rfl) ?_ _
      have HE := Lib.hid (HB4.out.last hr5 ho5 hg5)
      clear e5 g5 hr5 ho5 hg5 hat5
      go_wp2_with fail
      go_end0
      exact ⟨z1, z2, A5, c5, rfl, hz1, hz2, HE.out⟩
    · go_simp
      refine (keyMark _ _ _).mono ?_
      rintro e w22 ⟨z2, rfl, hz2, hb⟩
      have H22 := Lib.hid (H11.out.below hb)
      clear hb
      simp only []
      refine hK _ _ trivial ?_
      clear hK K
      try simp only [Act.put, List.setIfInBounds_toArray, List.set_cons_zero, List.set_cons_succ]
      refine takeL (i := 10) (v := .agg (sheetCells (.slice B m d) z1 z2).toArray) rfl (by kernel_rfl) (by kernel_rfl) (by kernel_rfl) (fun _ _ _ h => h) (Or.inl ⟨by rfl, fun w _ => ?_⟩) trivial ?_
      · exact exec_built w _ _ _ rfl (by simp only [List.map_toArray, List.map_cons, List.map_nil]; exact built_sheet B m d z1 z2 hz1 hz2)
      try simp only [Act.put, List.setIfInBounds_toArray, List.set_cons_zero, List.set_cons_succ]
      refine takeL (i := 11) (v := ?_) rfl (by kernel_rfl) (by kernel_rfl) (by kernel_rfl) (fun _ _ _ h => h) (Or.inl ⟨by rfl, ?_⟩) trivial ?_
      rotate_left
      · intro w _
        go_simp
        try with_reducible rfl
      try simp only [Act.put, List.setIfInBounds_toArray, List.set_cons_zero, List.set_cons_succ]
      refine wpAnyH_ready (rs := [4, 12]) (by kernel_rfl) (by simp) ?_
      refine allL rfl (by kernel_rfl) (fun K hK => ?_) (allL rfl (by kernel_rfl) (fun K hK => ?_) (AllReadyH.nil))
      · have c3 : w22.cell? ⟨p, 0, none⟩ = some (.slice A n c) := H22.out.row.cell 0
        go_simp
        clear c3
        refine hK _ _ trivial ?_
        clear hK K
        try simp only [Act.put, List.setIfInBounds_toArray, List.set_cons_zero, List.set_cons_succ]
        refine readyL (i := 12) rfl (by kernel_rfl) (by kernel_rfl) fun K hK => ?_
        go_simp
        refine hK _ _ trivial ?_
        clear hK K
        try simp only [Act.put, List.setIfInBounds_toArray, List.set_cons_zero, List.set_cons_succ]
        have HB4 := Lib.hid (H22.out.alloc (.cells [Value.iface 73 (.agg (sheetCells (.slice B m d) z1 z2).toArray)].toArray 75))
        have hsee := (Row.new w22 75 [Value.iface 73 (.agg (sheetCells (.slice B m d) z1 z2).toArray)]).sees0
        have HSEE := Lib.hid hsee
        clear hsee
        refine readyL (i := 13) rfl (by kernel_rfl) (by kernel_rfl) fun K hK => ?_
        refine wp_append_sees (.tmp 11) (.tmp 19) rfl Try.underlying41 HI.out.1 HI.out.2.1 HI.out.2.2.1 HI.out.2.2.2 rfl rfl HB4.out.own rfl HSEE.out (by simp [Value.oneCell']) (by unfold maxLen; omega) (by omega) HB4.out.lt ?_
        intro v5 w5 ho5 hg5 hat5
        obtain ⟨A5, c5, rfl⟩ := own_form ho5
        refine hK _ _ trivial ?_
        clear hK K
        try simp only [Act.put, List.setIfInBounds_toArray, List.set_cons_zero, List.set_cons_succ]
        have hr5 := HB4.out.row.grown hg5 (own_row_ne HB4.out.own HB4.out.row (by decide))
        have e5 : w5.cell? ⟨p, 0, none⟩ = some (.slice A n c) := hr5.cell 0
        have g5 := hr5.frozen 0
        refine takeL (i := 14) (v := ?_) rfl (by kernel_rfl) (by kernel_rfl) (by kernel_rfl) (fun _ _ _ h => h) (Or.inl ⟨by rfl, ?_⟩) trivial ?_
        rotate_left
        · intro w _
          go_simp
          try with_reducible rfl
        try simp only [Act.put, List.setIfInBounds_toArray, List.set_cons_zero, List.set_cons_succ]
        refine takeL (i := 15) (v := ?_) rfl (by kernel_rfl) (by kernel_rfl) (by kernel_rfl) (fun _ _ _ h => h) (Or.inl ⟨by rfl, ?_⟩) trivial ?_
        rotate_left
        · intro w _
          go_simp
          try with_reducible rfl
        try simp only [Act.put, List.setIfInBounds_toArray, List.set_cons_zero, List.set_cons_succ]
        refine readyL (i := 16) rfl (by kernel_rfl) (by kernel_rfl) fun K hK => ?_
        go_simp
        refine hK _ _ trivial ?_
        clear hK K
        try simp only [Act.put, List.setIfInBounds_toArray, List.set_cons_zero, List.set_cons_succ]
        refine wpAnyH_done (by kernel_rfl) ?_ _
        have HE := Lib.hid (HB4.out.last hr5 ho5 hg5)
        clear e5 g5 hr5 ho5 hg5 hat5
        go_wp2_with fail
        go_end0
        exact ⟨z1, z2, A5, c5, rfl, hz1, hz2, HE.out⟩
      · go_simp
        refine hK _ _ trivial ?_
        clear hK K
        try simp only [Act.put, List.setIfInBounds_toArray, List.set_cons_zero, List.set_cons_succ]
        have HB3 := Lib.hid (H22.out.alloc (.cells [Value.iface 73 (.agg (sheetCells (.slice B m d) z1 z2).toArray)].toArray 75))
        have hsee := (Row.new w22 75 [Value.iface 73 (.agg (sheetCells (.slice B m d) z1 z2).toArray)]).sees0
        have HSEE := Lib.hid hsee
        clear hsee
        refine readyL (i := 4) rfl (by kernel_rfl) (by kernel_rfl) fun K hK => ?_
        have c4 : (w22.alloc (.cells [Value.iface 73 (.agg (sheetCells (.slice B m d) z1 z2).toArray)].toArray 75)).cell? ⟨p, 0, none⟩ = some (.slice A n c) := HB3.out.row.cell 0
        go_simp
        clear c4
        refine hK _ _ trivial ?_
        clear hK K
        try simp only [Act.put, List.setIfInBounds_toArray, List.set_cons_zero, List.set_cons_succ]
        refine readyL (i := 13) rfl (by kernel_rfl) (by kernel_rfl) fun K hK => ?_
        refine wp_append_sees (.tmp 11) (.tmp 19) rfl Try.underlying41 HI.out.1 HI.out.2.1 HI.out.2.2.1 HI.out.2.2.2 rfl rfl HB3.out.own rfl HSEE.out (by simp [Value.oneCell']) (by unfold maxLen; omega) (by omega) HB3.out.lt ?_
        intro v5 w5 ho5 hg5 hat5
        obtain ⟨A5, c5, rfl⟩ := own_form ho5
        refine hK _ _ trivial ?_
        clear hK K
        try simp only [Act.put, List.setIfInBounds_toArray, List.set_cons_zero, List.set_cons_succ]
        have hr5 := HB3.out.row.grown hg5 (own_row_ne HB3.out.own HB3.out.row (by decide))
        have e5 : w5.cell? ⟨p, 0, none⟩ = some (.slice A n c) := hr5.cell 0
        have g5 := hr5.frozen 0
        refine takeL (i := 14) (v := ?_) rfl (by kernel_rfl) (by kernel_rfl) (by kernel_rfl) (fun _ _ _ h => h) (Or.inl ⟨by rfl, ?_⟩) trivial ?_
        rotate_left
        · intro w _
          go_simp
          try with_reducible rfl
        try simp only [Act.put, List.setIfInBounds_toArray, List.set_cons_zero, List.set_cons_succ]
        refine takeL (i := 15) (v := ?_) rfl (by kernel_rfl) (by kernel_rfl) (by kernel_rfl) (fun _ _ _ h => h) (Or.inl ⟨by rfl, ?_⟩) trivial ?_
        rotate_left
        · intro w _
          go_simp
          try with_reducible rfl
        try simp only [Act.put, List.setIfInBounds_toArray, List.set_cons_zero, List.set_cons_succ]
        refine readyL (i := 16) rfl (by kernel_rfl) (by kernel_rfl) fun K hK => ?_
        go_simp
        refine hK _ _ trivial ?_
        clear hK K
        try simp only [Act.put, List.setIfInBounds_toArray, List.set_cons_zero, List.set_cons_succ]
        refine wpAnyH_done (by kernel_rfl) ?_ _
        have HE := Lib.hid (HB3.out.last hr5 ho5 hg5)
        clear e5 g5 hr5 ho5 hg5 hat5
        go_wp2_with fail
        go_end0
        exact ⟨z1, z2, A5, c5, rfl, hz1, hz2, HE.out⟩
end Go.Proofs.Ytdbcbjjomhbhpaa

/-
  Of part TwinK: what is needed here.
-/
namespace Go.Proofs.Ytdbcbjjomhbhpaa
open Go.RowKit
set_option linter.unusedVariables false
theorem made_len (z : Value) (n : Nat) : (madeCells z.cells n).toList.length = n := by simp [madeCells]
theorem Row.of_ownN {w : World} {base N size g : Nat} {e : TypeId} {xs : List Value} (h : w.ownsRow base e size (.slice (some ⟨g, 0, none⟩) N N) N xs) : Row w g e xs := by
  rcases h.2 with ⟨h1, _⟩ | ⟨g', cap, cur, h1, h2, h3, h4, h5, h6, h7⟩
  · cases h1
  · cases h1
    refine ⟨?_⟩
    rw [h3, ← h7, ← h6, ← Array.length_toList, List.take_length]
/-- keys that stand in a row -/
theorem keys_row {w : World} {g : Nat} {l : List (List Int)} {ys : List Value} {n : Nat} (hr : Row w g 32 (bv l.flatten ++ ys)) (hn : l.length = n) (h32 : ∀ k ∈ l, k.length = 32) {B : Nat} (hB : g < B) : KeysIn w B (some ⟨g, 0, none⟩) n l :=
  ⟨hn, h32, ⟨by rw [bv_length, flatten_len l h32, hn], fun i u hu => ⟨_, rfl, hB, by
    rw [addr_row, hr.cell, Nat.zero_add, List.getElem?_append_left (List.getElem?_eq_some_iff.1 hu).1]
    exact hu⟩⟩⟩
theorem keys_set {k : Nat} {l : List (List Int)} {x : List Int} {cs : List Value} (h32 : ∀ k ∈ l, k.length = 32) (hx : l[k]? = some x) :
    (bv (l.take k).flatten ++ cs.drop (k * 32)).take (k * 32) ++ bv x ++ (bv (l.take k).flatten ++ cs.drop (k * 32)).drop (k * 32 + (bv x).length) = bv (l.take (k + 1)).flatten ++ cs.drop ((k + 1) * 32) := by
  have hk := (List.getElem?_eq_some_iff.1 hx).1
  have hl : (bv (l.take k).flatten).length = k * 32 := by
    rw [bv_length, flatten_len _ (fun y hy => h32 y (List.mem_of_mem_take hy)), List.length_take]
    congr 1; omega
  have hxl := h32 x (List.mem_of_getElem? hx)
  rw [List.take_left' hl, bv_length, hxl, show k * 32 + 32 = (bv (l.take k).flatten).length + 32 by rw [hl], List.drop_length_add_append, List.drop_drop, flatten_take_succ hx, bv_append, show k * 32 + 32 = (k + 1) * 32 by omega]
set_option maxRecDepth 100000 in
set_option maxHeartbeats 1000000 in
theorem twinK (A : Option Addr) (n c : Nat) (l : List (List Int)) (z : List Int) (w : World) (S : Nat)
    (hx : KeysIn w S A n l) (hS : S ≤ w.heap.size) (hn : n ≤ 1000000000) (hz : z.length = 32) :
    Calls Try.prog 27 #[.slice A n c, .agg (bv z).toArray] w fun e w' => ∃ g, e = .returned (.slice (some ⟨g, 0, none⟩) n (n + 3)) ∧ w.heap.size ≤ g ∧ Row w' g 32 (bv l.flatten ++ keyRow 3 z) ∧ Below w.heap.size w w' := by
  have HX := Lib.hid hx
  have HZ := Lib.hid hz
  have RB := Lib.hid (Row.new w 32 (bv z))
  have hb0 : Below w.heap.size w (w.alloc (Obj.cells (bv z).toArray 32)) := (Below.refl _ _).alloc (Nat.le_refl _) _
  have HB0 := Lib.hid hb0
  have z0 : (w.alloc (Obj.cells (bv z).toArray 32)).heap.size = w.heap.size + 1 := by simp
  clear hx hb0
  go_enter Try.func27, Try.ntmps27
  go_upto_region 1 with fail
  generalize (w.alloc (Obj.cells (bv z).toArray 32)) = W at *
  have ZW := Lib.hid z0
  clear z0
  go_wp2_with (first
    | (at_make; (obtain ⟨i0, hi, hz0, hz1, hz2⟩ := info_parts info_key); go_must (refine wpList_make_full _ rfl (.tmp 10) (.tmp 10) 33 rfl W.heap.size 32 i0 _ 32 Try.underlying33 hi hz0 hz1 .i64 .i64 _ _ (n + 3) rfl rfl (by simp) (by simp) (by rw [hz2]; omega) (by unfold maxLen; omega) (Nat.le_refl _) ?_; intro w1 hown hgrow; have hrow := Row.of_ownN hown; have hb1 := (Below.refl W.heap.size W).grown hgrow (Nat.le_refl _) (fun k hk => by cases hk))))
  have hlen := made_len (.agg (zeros 32).toArray) ((n + 3) * 32)
  generalize (madeCells (Value.agg (zeros 32).toArray).cells ((n + 3) * 32)).toList = cs at *
  have HL := Lib.hid hlen
  have R := Lib.hid hrow
  have RB1 := Lib.hid (RB.out.below hb1 (by have := ZW.out; omega))
  have HB1 := Lib.hid (HB0.out.trans (hb1.mono (by have := ZW.out; omega)))
  have HZ1 : Hid (W.heap.size < w1.heap.size) := Lib.hid hrow.lt
  clear hlen hrow hown hgrow hb1 RB HB0
  have lenl := HX.out.len
  go_loopw [6] (fun i wr => ∃ k : Nat, k ≤ n ∧ i = .int .i64 k ∧ Row wr W.heap.size 32 (bv (l.take k).flatten ++ cs.drop (k * 32)) ∧ Below W.heap.size w1 wr) (fun i _ => n - (intOf i).toNat)
  case atStart => exact ⟨0, Nat.zero_le _, rfl, by simpa [bv, cv] using R.out, Below.refl _ _⟩
  case round =>
  clear R
  obtain ⟨k, hk, rfl, hr, hb⟩ := hrel
  have RR := Lib.hid hr
  have HB := Lib.hid hb
  clear hr hb
  by_cases hlt : k < n
  · obtain ⟨a, x, rfl, hab, hxl, hat⟩ := HX.out.get hlt
    have HX1 := Lib.hid hxl
    have HB2 := Lib.hid (HB1.out.trans (HB.out.mono (by have := ZW.out; omega)))
    have HAT := Lib.hid (hat.keep hab fun p hp => HB2.out.cell (by omega))
    have HSZ := Lib.hid (size_key' hat.len)
    have HCL : Hid (k * 32 + (bv x).length ≤ (bv (l.take k).flatten ++ cs.drop (k * 32)).length) := by
      have h1 := HL.out
      have h2 : (bv (l.take k).flatten).length = k * 32 := by
        rw [bv_length, flatten_len _ (fun y hy => HX.out.each y (List.mem_of_mem_take hy)), List.length_take]
        congr 1; omega
      refine Lib.hid ?_
      rw [List.length_append, h2, List.length_drop, bv_length, hat.len]
      omega
    clear hxl hat
    go_wp2_with (first
      | ((with_reducible show wpList _ _ _ ({ dst := some 23, op := Op.load _ _, type := _, pos := _, after := _, guard := _ } :: _) _ _); go_must (refine wpList_load_at rfl 32 (.tmp 22) rfl (a.add (k * 32)) (bv x) _ Try.underlying32 rfl HSZ.out HAT.out.cells ?_ ?_; go_simp))
      | ((with_reducible show wpList _ _ _ ({ dst := none, op := Op.store 32 _ _, type := _, pos := _, after := _, guard := _ } :: _) _ _); go_must (refine wpList_store_part rfl 32 (.tmp 24) (.tmp 23) rfl W.heap.size 32 (k * 32) _ (bv x) RR.out HSZ.out HCL.out (bv_one x) ?_ ?_ ?_; go_simp; go_simp; intro w2 hr2 ht2; have HR2 := Lib.hid hr2; have HT2 := Lib.hid ht2; clear hr2 ht2)))
    go_roundw
    case rel =>
      refine ⟨k + 1, by omega, by go_num, ?_, HB.out.trans (HT2.out.below (Nat.le_refl _))⟩
      have := HR2.out
      rwa [keys_set HX.out.each HX1.out] at this
    case measure => simp [intOf]; omega
  · obtain rfl : k = n := by omega
    have R2 : Hid (Row wr W.heap.size 32 (bv l.flatten ++ cs.drop (k * 32))) := by
      have := RR.out
      rw [List.take_of_length_le (by omega)] at this
      exact Lib.hid this
    have HFL : Hid ((bv l.flatten).length = k * 32) := Lib.hid (by rw [bv_length, flatten_len l HX.out.each, HX.out.len])
    clear RR
    go_wp2_with fail
    go_loopw [7] (fun i wr => ∃ j : Nat, j ≤ 3 ∧ i = .int .i64 j ∧ Row wr W.heap.size 32 (bv l.flatten ++ (keyRow j z ++ (cs.drop (k * 32)).drop (j * 32))) ∧ Below W.heap.size w1 wr) (fun i _ => 3 - (intOf i).toNat)
    case atStart => exact ⟨0, Nat.zero_le _, rfl, by simpa [keyRow] using R2.out, HB.out⟩
    case round =>
      clear R2 HB
      obtain ⟨j, hj, rfl, hr, hb⟩ := hrel
      have RR := Lib.hid hr
      have HB := Lib.hid hb
      clear hr hb
      by_cases hlt : j < 3
      · have HBX := Lib.hid (RB1.out.below HB.out (by have := ZW.out; omega))
        have HCL : Hid ((k + j) * 32 + (bv z).length ≤ (bv l.flatten ++ (keyRow j z ++ (cs.drop (k * 32)).drop (j * 32))).length) := by
          have h1 := HL.out
          have h2 := HFL.out
          have h3 := keyRow_len j HZ.out
          refine Lib.hid ?_
          rw [List.length_append, List.length_append, h2, h3, List.length_drop, List.length_drop, bv_length, HZ.out]
          omega
        go_wp2_with (first
          | ((with_reducible show wpList _ _ _ ({ dst := some 34, op := Op.load _ _, type := _, pos := _, after := _, guard := _ } :: _) _ _); go_must (refine wpList_load_whole rfl 32 (.tmp 3) rfl w.heap.size 32 (bv z) _ Try.underlying32 rfl (size_key' HZ.out) HBX.out ?_ ?_; go_simp))
          | ((with_reducible show wpList _ _ _ ({ dst := none, op := Op.store 32 _ _, type := _, pos := _, after := _, guard := _ } :: _) _ _); go_must (refine wpList_store_part rfl 32 (.tmp 35) (.tmp 34) rfl W.heap.size 32 ((k + j) * 32) _ (bv z) RR.out (size_key' HZ.out) HCL.out (bv_one z) ?_ ?_ ?_; go_simp; go_simp; intro w2 hr2 ht2; have HR2 := Lib.hid hr2; have HT2 := Lib.hid ht2; clear hr2 ht2)))
        go_roundw
        case rel =>
          refine ⟨j + 1, by omega, by go_num, ?_, HB.out.trans (HT2.out.below (Nat.le_refl _))⟩
          have := HR2.out
          have e := keyRow_set (k := j) HZ.out (bv l.flatten) (cs.drop (k * 32)) (by have := HL.out; rw [List.length_drop]; omega)
          rw [HFL.out, ← Nat.add_mul] at e
          rwa [e] at this
        case measure => simp [intOf]; omega
      · obtain rfl : j = 3 := by omega
        have R3 : Hid (Row wr W.heap.size 32 (bv l.flatten ++ keyRow 3 z)) := by
          have := RR.out
          rw [List.drop_of_length_le (by have := HL.out; rw [List.length_drop]; omega), List.append_nil] at this
          exact Lib.hid this
        clear RR
        go_wp2_with fail
        go_ret
        exact ⟨W.heap.size, rfl, by have := ZW.out; omega, R3.out, HB1.out.trans (HB.out.mono (by have := ZW.out; omega))⟩
/-- the mark behind keys -/
def mk0 : List Int := [165, 90, 0, 0, 0, 0, 0, 0, 0, 0, 0, 0, 0, 0, 0, 0, 0, 0, 0, 0, 0, 0, 0, 0, 0, 0, 0, 0, 0, 0, 0, 0]
theorem built_mk0 : Try.prog.built 32 [(0, .int .u8 165), (1, .int .u8 90)] = some (bv mk0).toArray := by kernel_rfl
set_option maxRecDepth 100000 in
set_option maxHeartbeats 400000 in
theorem markKey (w : World) : Calls Try.prog 28 #[] w fun e w' => e = .returned (.agg (bv mk0).toArray) ∧ Below w.heap.size w w' := by
  go_enter Try.func28, Try.ntmps28
  go_wp2_with (first
    | ((with_reducible show wpList _ _ _ ({ dst := some 1, op := Op.build _ _, type := _, pos := _, after := _, guard := _ } :: _) _ _); go_must (refine wpList_plain rfl fun K hK => wp_built _ _ _ rfl (by simp only [List.map_toArray, List.map_cons, List.map_nil]; exact built_mk0) (hK _ _ ?_)))
    | ((with_reducible show wpList _ _ _ ({ dst := none, op := Op.store 32 _ _, type := _, pos := _, after := _, guard := _ } :: _) _ _); go_must (refine wpList_store_new rfl 32 (.tmp 0) (.tmp 1) rfl (bv mk0) size_key (bv_one _) rfl ?_ ?_ ?_; go_simp; go_simp; intro w1 hr1 hb1 hz1; have HR1 := Lib.hid hr1; have HB1 := Lib.hid hb1; clear hr1 hb1)))
  refine bodyPost_ret (results_cell_row (h := rfl) _ w1 w.heap.size 32 _ (0, 0) _ (by rfl) HR1.out.is Try.underlying32 rfl size_key) rfl ?_
  exact ⟨rfl, HB1.out⟩
set_option maxRecDepth 100000 in
set_option maxHeartbeats 400000 in
/-- TwinKeys -/
theorem twinKeys (A : Option Addr) (n c : Nat) (l : List (List Int)) (w : World) (S : Nat) (hx : KeysIn w S A n l) (hS : S ≤ w.heap.size) (hn : n ≤ 1000000000) :
    Calls Try.prog 12 #[.slice A n c] w fun e w' => ∃ g, e = .returned (.slice (some ⟨g, 0, none⟩) n (n + 3)) ∧ w.heap.size ≤ g ∧ Row w' g 32 (bv l.flatten ++ keyRow 3 mk0) ∧ Below w.heap.size w w' := by
  have HX := Lib.hid hx
  clear hx
  go_enter Try.func12, Try.ntmps12
  go_wp2_with fail
  refine (markKey w).mono ?_
  rintro e w1 ⟨rfl, hb1⟩
  have HB1 := Lib.hid hb1
  have HT := Lib.hid (twinK A n c l mk0 w1 w.heap.size ((HX.out.more hS).below HB1.out) HB1.out.size hn rfl)
  clear hb1
  generalize hC : (bv mk0).toArray = C at *
  go_wp2_with fail
  rw [← hC]
  refine (hC ▸ HT.out).mono ?_
  rintro e w2 ⟨g, rfl, hg, hr, hb⟩
  have R := Lib.hid hr
  clear hr
  go_wp2_with fail
  go_ret
  exact ⟨g, rfl, Nat.le_trans HB1.out.size hg, R.out, HB1.out.trans (hb.mono HB1.out.size)⟩
theorem keyRow_at {j n : Nat} {z : List Int} (hz : z.length = 32) (hj : j < n) {i : Nat} {u : Value} (hu : (bv z)[i]? = some u) : (keyRow n z)[j * 32 + i]? = some u := by
  unfold keyRow
  have hl : ∀ (i : Nat) y, (List.replicate n (bv z))[i]? = some y → y.length = 32 := fun i y hy => by
    have := List.eq_of_mem_replicate (List.mem_of_getElem? hy)
    rw [this, bv_length, hz]
  exact flatten_at 32 (List.replicate n (bv z)) j (bv z) hl (by rw [List.getElem?_replicate_of_lt hj]) i u hu
set_option maxRecDepth 100000 in
set_option maxHeartbeats 1000000 in
theorem leftK (g : Nat) (B : Option Addr) (n d : Nat) (l : List (List Int)) (z : List Int) (w : World) (S : Nat)
    (hr : Row w g 32 (bv l.flatten ++ keyRow 3 z)) (hy : KeysIn w S B n l) (hS : S ≤ w.heap.size) (hn : n ≤ 1000000000) (hz : z.length = 32) :
    Calls Try.prog 30 #[.slice (some ⟨g, 0, none⟩) n (n + 3), .slice B n d, .agg (bv z).toArray] w fun e w' => e = .returned (.bool true) ∧ Below w.heap.size w w' := by
  have hb0 : Below w.heap.size w (w.alloc (Obj.cells (bv z).toArray 32)) := (Below.refl _ _).alloc (Nat.le_refl _) _
  have RB := Lib.hid (Row.new w 32 (bv z))
  have R := Lib.hid (hr.alloc (Obj.cells (bv z).toArray 32))
  have HB0 := Lib.hid hb0
  have hlen := hy.len
  have h32 := hy.each
  have HFL : Hid ((bv l.flatten).length = n * 32) := Lib.hid (by rw [bv_length, flatten_len l h32, hlen])
  have HK := Lib.hid (same_keys (some ⟨g, 0, none⟩) B n (n + 3) d l _ w.heap.size w.heap.size (keys_row R.out hlen h32 hr.lt) ((hy.more hS).below hb0) (by unfold maxLen; omega))
  have NQ := fun w => same_neq Try.underlying32 z hz w
  have HZ := Lib.hid hz
  clear hr hy hb0 h32 hlen
  go_enter Try.func30, Try.ntmps30
  go_upto_region 1 with fail
  generalize (w.alloc (Obj.cells (bv z).toArray 32)) = W at *
  go_wp2_with fail
  refine HK.out.mono ?_
  rintro e w1 ⟨rfl, k, rfl⟩
  go_wp2_with fail
  go_loopw [8] (fun i wr => ∃ j q : Nat, j ≤ 3 ∧ i = .int .i64 j ∧ wr = W.drewN q) (fun i _ => 3 - (intOf i).toNat)
  case atStart => exact ⟨0, k, Nat.zero_le _, rfl, rfl⟩
  case round =>
    obtain ⟨j, q, hj, rfl, rfl⟩ := hrel
    by_cases hlt : j < 3
    · have CA := Lib.hid (show ∀ i u, (bv z)[i]? = some u → W.cell? ((⟨g, (n + j) * 32, none⟩ : Addr).add i) = some u from fun i u hu => by
        rw [addr_row, R.out.cell, List.getElem?_append_right (by rw [HFL.out]; omega), HFL.out, show (n + j) * 32 + i - n * 32 = j * 32 + i by omega]
        exact keyRow_at HZ.out hlt hu)
      have CB := Lib.hid (show ∀ i u, (bv z)[i]? = some u → W.cell? ((⟨w.heap.size, 0, none⟩ : Addr).add i) = some u from fun i u hu => by
        rw [addr_row, RB.out.cell, Nat.zero_add]; exact hu)
      have HSZ := Lib.hid (size_key' HZ.out)
      generalize bv z = X at *
      go_wp2
      refine wp_region_quiet_lit (by kernel_rfl) (by kernel_rfl) ?_
      repeat (first
        | ((with_reducible show wpQuiet _ _ _ _ ({ dst := some 36, op := Op.load _ _, type := _, pos := _, after := _, guard := _ } :: _) _); go_must (refine quiet_load_at (by kernel_rfl) 32 (.tmp 35) rfl ⟨g, (n + j) * 32, none⟩ X _ Try.underlying32 rfl HSZ.out (by rintro _ ⟨nq, rfl⟩; exact CA.out) ?_ ?_; go_simp; go_simp))
        | ((with_reducible show wpQuiet _ _ _ _ ({ dst := some 37, op := Op.load _ _, type := _, pos := _, after := _, guard := _ } :: _) _); go_must (refine quiet_load_at (by kernel_rfl) 32 (.tmp 5) rfl ⟨w.heap.size, 0, none⟩ X _ Try.underlying32 rfl HSZ.out (by rintro _ ⟨nq, rfl⟩; exact CB.out) ?_ ?_; go_simp; go_simp))
        | go_big_quiet_step (fail))
      refine wpQuiet_nil ?_
      intro nq
      go_wp2
      go_roundw
      case rel => exact ⟨j + 1, q + nq, by omega, by go_num, by simp⟩
      case measure => simp [intOf]; omega
    · go_wp2
      go_ret
      exact ⟨rfl, below_drewN HB0.out q⟩
set_option maxRecDepth 100000 in
set_option maxHeartbeats 400000 in
/-- LeftKeys -/
theorem leftKeys (g : Nat) (B : Option Addr) (n d : Nat) (l : List (List Int)) (w : World) (S : Nat)
    (hr : Row w g 32 (bv l.flatten ++ keyRow 3 mk0)) (hy : KeysIn w S B n l) (hS : S ≤ w.heap.size) (hn : n ≤ 1000000000) :
    Calls Try.prog 15 #[.slice (some ⟨g, 0, none⟩) n (n + 3), .slice B n d] w fun e w' => e = .returned (.bool true) ∧ Below w.heap.size w w' := by
  have HX := Lib.hid hy
  have R := Lib.hid hr
  clear hy hr
  go_enter Try.func15, Try.ntmps15
  go_wp2_with fail
  refine (markKey w).mono ?_
  rintro e w1 ⟨rfl, hb1⟩
  have HB1 := Lib.hid hb1
  have HT := Lib.hid (leftK g B n d l mk0 w1 w.heap.size (R.out.below HB1.out R.out.lt) ((HX.out.more hS).below HB1.out) HB1.out.size hn rfl)
  clear hb1
  generalize hC : (bv mk0).toArray = C at *
  go_wp2_with fail
  rw [← hC]
  refine (hC ▸ HT.out).mono ?_
  rintro e w2 ⟨rfl, hb⟩
  go_wp2_with fail
  go_ret
  exact ⟨rfl, HB1.out.trans (hb.mono HB1.out.size)⟩
end Go.Proofs.Ytdbcbjjomhbhpaa

/-
  Of part Pages: what is needed here.
-/
namespace Go.Proofs.Ytdbcbjjomhbhpaa
open Go.RowKit
set_option linter.unusedVariables false
/-- a page's kind -/
inductive Kd where
  | k
/-- a page's kind, with its two signs -/
inductive Sg where
  | k (h f : List Int)
def Sg.et : Sg → TypeId
  | .k _ _ => 32
def Sg.sz : Sg → Nat
  | .k _ _ => 32
def Sg.here : Sg → Nat → List Value
  | .k h _, n => keyRow n h
def Sg.far : Sg → Nat → List Value
  | .k _ f, n => keyRow n f
def Sg.pay : Sg → Value → Value
  | .k h f, l => .agg (sheetCells l h f).toArray
def Sg.ty : Sg → TypeId
  | .k _ _ => 73
def Sg.Wf : Sg → Prop
  | .k h f => h.length = 32 ∧ f.length = 32
def Sg.signFn : Sg → FuncId
  | .k _ _ => 58
def Sg.ownFn : Sg → FuncId
  | .k _ _ => 57
/-- a page: where its list lies, how long it is, its room, its kind -/
structure Pg2 where
  A : Option Nat
  n : Nat
  c : Nat
  s : Sg
def Pg2.list (p : Pg2) : Value := .slice (p.A.map fun g => ⟨g, 0, none⟩) p.n p.c
def Pg2.val (p : Pg2) : Value := .iface p.s.ty (p.s.pay p.list)
/-- the page's list lies in memory; a: its cells bear its sign; b: its room bears its other one -/
def Pg2.Fit (w : World) (q : Pg2) (a b : Prop) : Prop :=
  match q.A with
  | none => q.n = 0 ∧ q.c = 0
  | some g => q.n ≤ q.c ∧ q.c ≤ 9223372036854775807 ∧ ∃ xs ys zs, Row w g q.s.et (xs ++ (ys ++ zs)) ∧ xs.length = q.n * q.s.sz ∧ ys.length = (q.c - q.n) * q.s.sz ∧ (q.s.sz = 64 → zs = []) ∧ (a → xs = q.s.here q.n) ∧ (b → ys = q.s.far (q.c - q.n))
theorem Pg2.Fit.keep {w w' : World} {q : Pg2} {a b : Prop} {r : Option Nat} (h : q.Fit w a b) (hg : w.grownBy w' r) (hne : ∀ g, q.A = some g → some g ≠ r) : q.Fit w' a b := by
  obtain ⟨A, n, c, s⟩ := q
  cases A with
  | none => exact h
  | some g =>
    obtain ⟨h1, h2, xs, ys, zs, hr, h3⟩ := h
    exact ⟨h1, h2, xs, ys, zs, hr.grown hg (hne g rfl), h3⟩
theorem sign_page2 (q : Pg2) (w : World) (a b : Prop) (h : q.Fit w a b) (hs : q.s.Wf) :
    Calls Try.prog q.s.signFn #[q.s.pay q.list, .bool false] w fun e w' => e = .returned (.tuple #[]) ∧ q.Fit w' True b ∧ w.grownBy w' q.A := by
  obtain ⟨A, n, c, s⟩ := q
  cases A with
  | none =>
    obtain ⟨rfl, rfl⟩ := h
    cases s with
    | k hh ff =>
      refine (signK_nil false hh ff w).mono ?_
      rintro e w' ⟨rfl, hg⟩
      exact ⟨rfl, ⟨rfl, rfl⟩, hg⟩
  | some g =>
    obtain ⟨h1, h2, xs, ys, zs, hr, h3, h4, hz, h5, h6⟩ := h
    have h1 : n ≤ c := h1
    cases s with
    | k hh ff =>
      have h3' : xs.length = n * 32 := h3
      have h4' : ys.length = (c - n) * 32 := h4
      refine (signK_false g n c hh ff (xs ++ (ys ++ zs)) w hr (by simp only [List.length_append]; omega) h1 h2 hs.1 hs.2).mono ?_
      rintro e w' ⟨rfl, hr', hg⟩
      refine ⟨rfl, ⟨h1, h2, keyRow n hh, ys, zs, ?_, keyRow_len n hs.1, h4, hz, fun _ => rfl, h6⟩, hg⟩
      rwa [List.drop_append_of_le_length (by omega), List.drop_of_length_le (by omega), List.nil_append] at hr'
theorem sign_room2 (q : Pg2) (w : World) (a b : Prop) (h : q.Fit w a b) (hs : q.s.Wf) :
    Calls Try.prog q.s.signFn #[q.s.pay q.list, .bool true] w fun e w' => e = .returned (.tuple #[]) ∧ q.Fit w' a True ∧ w.grownBy w' q.A := by
  obtain ⟨A, n, c, s⟩ := q
  cases A with
  | none =>
    obtain ⟨rfl, rfl⟩ := h
    cases s with
    | k hh ff =>
      refine (signK_nil true hh ff w).mono ?_
      rintro e w' ⟨rfl, hg⟩
      exact ⟨rfl, ⟨rfl, rfl⟩, hg⟩
  | some g =>
    obtain ⟨h1, h2, xs, ys, zs, hr, h3, h4, hz, h5, h6⟩ := h
    have h1 : n ≤ c := h1
    cases s with
    | k hh ff =>
      have h4' : ys.length = (c - n) * 32 := h4
      refine (signK_true g n c hh ff xs (ys ++ zs) w hr h3 (by rw [List.length_append]; omega) h1 h2 hs.1 hs.2).mono ?_
      rintro e w' ⟨rfl, hr', hg⟩
      rw [List.drop_append_of_le_length (by omega), List.drop_of_length_le (by omega), List.nil_append] at hr'
      exact ⟨rfl, ⟨h1, h2, xs, _, zs, hr', h3, keyRow_len _ hs.2, hz, h5, fun _ => rfl⟩, hg⟩
theorem own_page2 (q : Pg2) (w : World) (h : q.Fit w True True) (hs : q.s.Wf) :
    Calls Try.prog q.s.ownFn #[q.s.pay q.list] w fun e w' => e = .returned (.bool true) ∧ w.grownBy w' none := by
  obtain ⟨A, n, c, s⟩ := q
  cases A with
  | none =>
    obtain ⟨rfl, rfl⟩ := h
    cases s with
    | k hh ff => exact ownK_nil hh ff w
  | some g =>
    obtain ⟨h1, h2, xs, ys, zs, hr, h3, h4, hz, h5, h6⟩ := h
    rw [h5 trivial, h6 trivial] at hr
    cases s with
    | k hh ff => exact ownK_true g n c hh ff zs w hr h1 h2 hs.1 hs.2
/-- of the blocks of w only the pages' have been written -/
structure Touched (P : List Pg2) (w w' : World) : Prop where
  os : w'.os = w.os
  tape : w'.tape = w.tape
  output : w'.output = w.output
  size : w.heap.size ≤ w'.heap.size
  block : ∀ k, k < w.heap.size → (∀ q ∈ P, q.A ≠ some k) → w'.heap[k]? = w.heap[k]?
theorem Touched.refl (P : List Pg2) (w : World) : Touched P w w := ⟨rfl, rfl, rfl, Nat.le_refl _, fun _ _ _ => rfl⟩
theorem Touched.step {P : List Pg2} {w a b : World} {r : Option Nat} (h : Touched P w a) (hg : a.grownBy b r) (hr : ∀ g, r = some g → ∃ q ∈ P, q.A = some g) : Touched P w b :=
  ⟨hg.os.trans h.os, hg.tape.trans h.tape, hg.output.trans h.output, Nat.le_trans h.size hg.size, fun k hk hne => by
    rw [hg.block k (Nat.lt_of_lt_of_le hk h.size) (fun e => by obtain ⟨q, hq, e'⟩ := hr k e.symm; exact hne q hq e'), h.block k hk hne]⟩
theorem Touched.below {P : List Pg2} {w w' : World} {B : Nat} (h : Touched P w w') (hB : B ≤ w.heap.size) (hp : ∀ q ∈ P, ∀ g, q.A = some g → B ≤ g) : Below B w w' :=
  ⟨h.os, h.tape, h.output, h.size, fun k hk => h.block k (by omega) fun q hq e => by have := hp q hq k e; omega⟩
/-- the book, with its pages, in memory -/
structure BookAt (w : World) (p : Nat) (base : Nat) (A : Option Addr) (c : Nat) (P : List Pg2) (ka kb : Nat) : Prop where
  row : Row w p 43 [.slice A P.length c]
  own : w.ownsRow base 75 1 (.slice A P.length c) P.length (P.map Pg2.val)
  fit : ∀ i (hi : i < P.length), P[i].Fit w (i < ka) (i < kb)
def Parted (P : List Pg2) : Prop := ∀ i j (hi : i < P.length) (hj : j < P.length) g, P[i].A = some g → P[j].A = some g → i = j
theorem row_ne {w : World} {g g' t t' : Nat} {xs ys : List Value} (h : Row w g t xs) (h' : Row w g' t' ys) (hne : t ≠ t') : g ≠ g' := by
  rintro rfl
  have a := h.is
  rw [h'.is] at a
  injection a with a
  injection a with _ a
  exact hne a.symm
theorem Fit_row {w : World} {q : Pg2} {a b : Prop} {g : Nat} (h : q.Fit w a b) (hg : q.A = some g) : ∃ xs, Row w g q.s.et xs := by
  obtain ⟨A, n, c, s⟩ := q
  cases hg
  obtain ⟨_, _, xs, ys, zs, hr, _⟩ := h
  exact ⟨_, hr⟩
theorem et_book (s : Sg) : 43 ≠ s.et := by
  cases s with
  | k => exact (by decide : (43 : Nat) ≠ 32)
theorem et_page (s : Sg) : 75 ≠ s.et := by
  cases s with
  | k => exact (by decide : (75 : Nat) ≠ 32)
/-- a page is signed: the others stay -/
theorem BookAt.signed {w w' : World} {p base : Nat} {A : Option Addr} {c : Nat} {P : List Pg2} {ka kb : Nat} (h : BookAt w p base A c P ka kb) (hP : Parted P) {k : Nat} (hk : k < P.length) {a b : Prop}
    (hf : P[k].Fit w' a b) (hg : w.grownBy w' P[k].A) {ka' kb' : Nat} (h1 : (k < ka') → a) (h2 : (k < kb') → b) (h3 : ∀ i, i ≠ k → (i < ka' → i < ka)) (h4 : ∀ i, i ≠ k → (i < kb' → i < kb)) : BookAt w' p base A c P ka' kb' := by
  have fitk := h.fit k hk
  refine ⟨h.row.grown hg ?_, h.own.kept hg ?_, fun i hi => ?_⟩
  · intro e
    obtain ⟨xs, hr⟩ := Fit_row fitk e.symm
    exact row_ne h.row hr (et_book _) rfl
  · cases e : P[k].A with
    | none => cases (Value.slice A P.length c).ownBlock <;> simp
    | some g =>
      obtain ⟨xs, hr⟩ := Fit_row fitk e
      exact .inr (fun e' => own_row_ne h.own hr (et_page _) e'.symm)
  · by_cases hik : i = k
    · subst hik
      obtain ⟨⟨A', n', c', s'⟩, hq⟩ : ∃ q, q = P[i] := ⟨_, rfl⟩
      rw [← hq] at hf ⊢
      cases A' with
      | none => exact hf
      | some g =>
        obtain ⟨e1, e2, xs, ys, zs, hr, e3, e4, ez, e5, e6⟩ := hf
        exact ⟨e1, e2, xs, ys, zs, hr, e3, e4, ez, fun x => e5 (h1 x), fun x => e6 (h2 x)⟩
    · have := (h.fit i hi).keep hg (fun g e e' => hik (hP i k hi hk g e e'.symm))
      obtain ⟨⟨A', n', c', s'⟩, hq⟩ : ∃ q, q = P[i] := ⟨_, rfl⟩
      rw [← hq] at this ⊢
      cases A' with
      | none => exact this
      | some g =>
        obtain ⟨e1, e2, xs, ys, zs, hr, e3, e4, ez, e5, e6⟩ := this
        exact ⟨e1, e2, xs, ys, zs, hr, e3, e4, ez, fun x => e5 (h3 i hik x), fun x => e6 (h4 i hik x)⟩
theorem BookAt.page {w : World} {p base : Nat} {A : Option Addr} {c : Nat} {P : List Pg2} {ka kb : Nat} (h : BookAt w p base A c P ka kb) {k : Nat} (hk : k < P.length) : ∃ a, A = some a ∧ w.cell? (a.add k) = some P[k].val := by
  have hl := h.own
  obtain ⟨a, u, e, _, hx, hc⟩ := (Sees.of_own hl).at_ hk
  refine ⟨a, e, ?_⟩
  rw [hc]
  rw [List.getElem?_map, List.getElem?_eq_getElem hk] at hx
  exact hx.symm
theorem meth_signK (v : Array Value) (w : World) : (method 199 73 (.agg v) "ferryhouse/ferryhouselaw01.sign").run Try.prog w = .ok (58, .agg v) w := by kernel_rfl
theorem meth_ownK (v : Array Value) (w : World) : (method 199 73 (.agg v) "ferryhouse/ferryhouselaw01.own").run Try.prog w = .ok (57, .agg v) w := by kernel_rfl
theorem meth_sign (s : Sg) (l : Value) (w : World) : (method 199 s.ty (s.pay l) "ferryhouse/ferryhouselaw01.sign").run Try.prog w = .ok (s.signFn, s.pay l) w := by
  cases s with
  | k h f => exact meth_signK _ w
theorem meth_own (s : Sg) (l : Value) (w : World) : (method 199 s.ty (s.pay l) "ferryhouse/ferryhouselaw01.own").run Try.prog w = .ok (s.ownFn, s.pay l) w := by
  cases s with
  | k h f => exact meth_ownK _ w
theorem call_sign (s : Sg) (args : Array Value) (w : World) : (callFunc s.signFn args).run Try.prog w = .ok (.enter s.signFn args) w := by
  cases s with
  | k => exact (by kernel_rfl : (callFunc 58 args).run Try.prog w = .ok (.enter 58 args) w)
theorem call_own (s : Sg) (args : Array Value) (w : World) : (callFunc s.ownFn args).run Try.prog w = .ok (.enter s.ownFn args) w := by
  cases s with
  | k => exact (by kernel_rfl : (callFunc 57 args).run Try.prog w = .ok (.enter 57 args) w)
set_option maxRecDepth 100000 in
set_option maxHeartbeats 1000000 in
theorem apart_many (p : Nat) (A : Option Addr) (n c : Nat) (w : World) (h : Row w p 43 [.slice A n c]) (hn : 120 < n) :
    Calls Try.prog 17 #[.pointer (some ⟨p, 0, none⟩)] w fun e w' => e = .returned (.bool true) ∧ w = w' := by
  have c0 : w.cell? ⟨p, 0, none⟩ = some (.slice A n c) := h.cell 0
  clear h
  go_enter Try.func17, Try.ntmps17
  go_wp2_with fail
  go_ret
  exact ⟨rfl, rfl⟩
set_option maxRecDepth 100000 in
set_option maxHeartbeats 2000000 in
theorem apart (p base : Nat) (A : Option Addr) (c : Nat) (P : List Pg2) (w : World) (h : BookAt w p base A c P 0 0) (hP : Parted P) (hW : ∀ q ∈ P, q.s.Wf) (hn : P.length ≤ 120) :
    Calls Try.prog 17 #[.pointer (some ⟨p, 0, none⟩)] w fun e w' => e = .returned (.bool true) ∧ Touched P w w' := by
  have c0 : w.cell? ⟨p, 0, none⟩ = some (.slice A P.length c) := h.row.cell 0
  obtain ⟨n, hN⟩ : ∃ n, P.length = n := ⟨_, rfl⟩
  have HN := Lib.hid hN
  rw [hN] at c0
  clear hN
  have H := Lib.hid h
  have HW := Lib.hid hW
  have hn : n ≤ 120 := by rw [← HN.out]; exact hn
  clear h hW
  go_enter Try.func17, Try.ntmps17
  go_wp2_with fail
  go_loopw [3] (fun i wr => ∃ k : Nat, k ≤ n ∧ i = .int .i64 k ∧ BookAt wr p base A c P k 0 ∧ Touched P w wr) (fun i _ => n - (intOf i).toNat)
  case atStart => exact ⟨0, Nat.zero_le _, rfl, H.out, Touched.refl _ _⟩
  case round =>
    obtain ⟨k, hk, rfl, hbk, ht⟩ := hrel
    have HB := Lib.hid hbk
    clear c0 H
    have c0 : wr.cell? ⟨p, 0, none⟩ = some (.slice A P.length c) := hbk.row.cell 0
    rw [HN.out] at c0
    by_cases hlt : k < n
    · have hkP : k < P.length := by rw [HN.out]; exact hlt
      obtain ⟨a, rfl, hc⟩ := hbk.page hkP
      have HC := Lib.hid (sign_page2 P[k] wr _ _ (HB.out.fit k hkP) (HW.out _ (List.getElem_mem hkP)))
      have ms := meth_sign P[k].s P[k].list
      have cf := call_sign P[k].s
      simp only [Pg2.val] at hc
      clear hbk
      generalize P[k].s.ty = T at *
      generalize P[k].s.pay P[k].list = V at *
      generalize P[k].s.signFn = FN at *
      go_wp2_with fail
      refine HC.out.mono ?_
      rintro e w2 ⟨rfl, hf, hg⟩
      go_wp2_with fail
      go_roundw
      case rel => exact ⟨k + 1, by omega, by go_num, HB.out.signed hP hkP hf hg (fun _ => trivial) (fun h => h) (fun i hi h => by omega) (fun i _ h => h), ht.step hg (fun g e => ⟨P[k], List.getElem_mem hkP, e⟩)⟩
      case measure => simp [intOf]; omega
    · have hkn : k = n := by omega
      have HB1 : Hid (BookAt wr p base A c P n 0) := by rw [← hkn]; exact HB.out
      clear hbk HB hkn
      go_wp2_with fail
      go_loopw [4] (fun i wr => ∃ k : Nat, k ≤ n ∧ i = .int .i64 k ∧ BookAt wr p base A c P n k ∧ Touched P w wr) (fun i _ => n - (intOf i).toNat)
      case atStart => exact ⟨0, Nat.zero_le _, rfl, HB1.out, ht⟩
      case round =>
        clear c0 HB1 ht
        obtain ⟨k, hk, rfl, hbk, ht⟩ := hrel
        have HB := Lib.hid hbk
        rename World => wr0
        obtain ⟨wr, hwr⟩ : ∃ wr, wr = wr0 := ⟨_, rfl⟩
        subst hwr
        have c0 : wr.cell? ⟨p, 0, none⟩ = some (.slice A P.length c) := hbk.row.cell 0
        rw [HN.out] at c0
        by_cases hlt : k < n
        · have hkP : k < P.length := by rw [HN.out]; exact hlt
          obtain ⟨a, rfl, hc⟩ := hbk.page hkP
          have HC := Lib.hid (sign_room2 P[k] wr _ _ (HB.out.fit k hkP) (HW.out _ (List.getElem_mem hkP)))
          have ms := meth_sign P[k].s P[k].list
          have cf := call_sign P[k].s
          simp only [Pg2.val] at hc
          clear hbk
          generalize P[k].s.ty = T at *
          generalize P[k].s.pay P[k].list = V at *
          generalize P[k].s.signFn = FN at *
          go_wp2_with fail
          refine HC.out.mono ?_
          rintro e w2 ⟨rfl, hf, hg⟩
          go_wp2_with fail
          go_roundw
          case rel => exact ⟨k + 1, by omega, by go_num, HB.out.signed hP hkP hf hg (fun h => h) (fun _ => trivial) (fun i _ h => h) (fun i hi h => by omega), ht.step hg (fun g e => ⟨P[k], List.getElem_mem hkP, e⟩)⟩
          case measure => simp [intOf]; omega
        · have hkn : k = n := by omega
          have HB1 : Hid (BookAt wr p base A c P n n) := by
            have := HB.out
            rw [hkn] at this
            exact this
          clear hbk HB hkn
          go_wp2_with fail
          go_loopw [5] (fun i wr => ∃ k : Nat, k ≤ n ∧ i = .int .i64 k ∧ BookAt wr p base A c P n n ∧ Touched P w wr) (fun i _ => n - (intOf i).toNat)
          case atStart => exact ⟨0, Nat.zero_le _, rfl, HB1.out, ht⟩
          case round =>
            clear c0 HB1 ht
            obtain ⟨k, hk, rfl, hbk, ht⟩ := hrel
            have HB := Lib.hid hbk
            rename World => wr0
            obtain ⟨wr, hwr⟩ : ∃ wr, wr = wr0 := ⟨_, rfl⟩
            subst hwr
            have c0 : wr.cell? ⟨p, 0, none⟩ = some (.slice A P.length c) := hbk.row.cell 0
            rw [HN.out] at c0
            by_cases hlt : k < n
            · have hkP : k < P.length := by rw [HN.out]; exact hlt
              obtain ⟨a, rfl, hc⟩ := hbk.page hkP
              have HC := Lib.hid (own_page2 P[k] wr (by have := HB.out.fit k hkP; simpa [HN.out, hlt] using this) (HW.out _ (List.getElem_mem hkP)))
              have ms := meth_own P[k].s P[k].list
              have cf := call_own P[k].s
              simp only [Pg2.val] at hc
              clear hbk
              generalize P[k].s.ty = T at *
              generalize P[k].s.pay P[k].list = V at *
              generalize P[k].s.ownFn = FN at *
              go_wp2_with fail
              refine HC.out.mono ?_
              rintro e w2 ⟨rfl, hg⟩
              go_wp2_with fail
              go_roundw
              case rel =>
                refine ⟨k + 1, by omega, by go_num, ⟨HB.out.row.grown hg (by simp), HB.out.own.kept hg (by cases (Value.slice (some a) P.length c).ownBlock <;> simp), fun i hi => (HB.out.fit i hi).keep hg (by simp)⟩, ht.step hg (fun g e => by cases e)⟩
              case measure => simp [intOf]; omega
            · clear hbk
              go_wp2_with fail
              go_ret
              exact ⟨rfl, ht⟩
end Go.Proofs.Ytdbcbjjomhbhpaa

/-
  Of part BookMsg: what is needed here.
-/
namespace Go.Proofs.Ytdbcbjjomhbhpaa
open Go.RowKit
set_option linter.unusedVariables false
/-- a list: where it lies, how long it is, its room -/
structure Sl where
  A : Option Nat
  n : Nat
  c : Nat
def Sl.val (x : Sl) : Value := .slice (x.A.map fun g => ⟨g, 0, none⟩) x.n x.c
def Sg.isK : Sg → Kd
  | .k _ _ => .k
def Pg2.key (q : Pg2) : Sl × Kd := (⟨q.A, q.n, q.c⟩, q.s.isK)
/-- a book of the call's own, from world w0 on, its pages' lists and kinds -/
def Bk (w0 : World) (p base : Nat) (ks : List (Sl × Kd)) (w : World) : Prop :=
  ∃ (P : List Pg2) (A : Option Addr) (c : Nat), P.map Pg2.key = ks ∧ (∀ q ∈ P, q.s.Wf) ∧ BookW w0 p base A P.length c (P.map Pg2.val) w
section
variable {w0 w w' : World} {p base B : Nat} {ks ks' : List (Sl × Kd)}
theorem Bk.start (h : Bk w0 p base ks w) : Bk w p base ks w := by
  obtain ⟨P, A, c, h1, h2, h3⟩ := h
  exact ⟨P, A, c, h1, h2, h3.start⟩
theorem Bk.trans (h : Bk w0 p base ks w) (h' : Bk w p base ks' w') : Bk w0 p base ks' w' := by
  obtain ⟨P, A, c, h1, h2, h3⟩ := h
  obtain ⟨P', A', c', h1', h2', h3'⟩ := h'
  exact ⟨P', A', c', h1', h2', h3.trans h3'⟩
theorem Bk.alloc (h : Bk w0 p base ks w) (o : Obj) : Bk w0 p base ks (w.alloc o) := by
  obtain ⟨P, A, c, h1, h2, h3⟩ := h
  exact ⟨P, A, c, h1, h2, h3.alloc o⟩
theorem Bk.one (h : Bk w0 p base ks w) : ButOne base p w0 w := by
  obtain ⟨P, A, c, h1, h2, h3⟩ := h
  exact h3.one
theorem Bk.row {g t : Nat} {xs : List Value} (h : Bk w0 p base ks w) (hr : Row w0 g t xs) (hg : g ≠ p) (ht : t ≠ 75) : Row w g t xs := by
  obtain ⟨P, A, c, h1, h2, h3⟩ := h
  exact h3.rowK hr hg ht
end
theorem bkKeys (p base : Nat) (ks : List (Sl × Kd)) (x : Sl) (w0 w : World) (h : Bk w0 p base ks w) (hn : ks.length ≤ 1000000) :
    Calls Try.prog 16 #[.pointer (some ⟨p, 0, none⟩), x.val] w fun e w' => e = .returned (.tuple #[]) ∧ Bk w0 p base (ks ++ [(x, Kd.k)]) w' := by
  obtain ⟨P, A, c, h1, h2, h3⟩ := h
  subst h1
  refine (bookKeys p base A _ P.length c x.n x.c _ w0 w h3 (by simpa using hn)).mono ?_
  rintro e w' ⟨z1, z2, A', c', rfl, hz1, hz2, h4⟩
  refine ⟨rfl, P ++ [⟨x.A, x.n, x.c, .k z1 z2⟩], A', c', by simp [Pg2.key, Sg.isK], fun q hq => ?_, ?_⟩
  · rcases List.mem_append.1 hq with hq | hq
    · exact h2 q hq
    · obtain rfl : q = _ := List.mem_singleton.1 hq
      exact ⟨hz1, hz2⟩
  · rw [List.length_append, List.map_append]
    exact h4
def ety : Kd → TypeId
  | .k => 32
def esz : Kd → Nat
  | .k => 32
/-- a page's list lies in memory, whole -/
def SlFit (w : World) (y : Sl × Kd) : Prop :=
  match y.1.A with
  | none => y.1.n = 0 ∧ y.1.c = 0
  | some g => y.1.n ≤ y.1.c ∧ y.1.c ≤ 9223372036854775807 ∧ ∃ xs, Row w g (ety y.2) xs ∧ y.1.c * esz y.2 ≤ xs.length ∧ (esz y.2 = 64 → xs.length = y.1.c * esz y.2)
theorem SlFit.keep {w w' : World} {y : Sl × Kd} (h : SlFit w y) (hk : ∀ g, y.1.A = some g → w'.heap[g]? = w.heap[g]?) : SlFit w' y := by
  obtain ⟨⟨A, n, c⟩, kd⟩ := y
  cases A with
  | none => exact h
  | some g =>
    obtain ⟨h1, h2, xs, hr, hl⟩ := h
    exact ⟨h1, h2, xs, ⟨(hk g rfl).trans hr.is⟩, hl⟩
theorem own_sl {w : World} {base n size : Nat} {e : TypeId} {v : Value} {xs : List Value} (h : w.ownsRow base e size v n xs) :
    ∃ x : Sl, v = x.val ∧ x.n = n ∧ (x.A = none → x.n = 0 ∧ x.c = 0) ∧ ∀ g, x.A = some g → base ≤ g ∧ g < w.heap.size ∧ v.ownBlock = some g ∧ x.n ≤ x.c ∧ x.c ≤ 9223372036854775807 ∧ ∃ cur, Row w g e cur ∧ cur.length = x.c * size := by
  rcases h.2 with ⟨rfl, h2⟩ | ⟨g, cap, cur, rfl, hg, hh, r1, r2, r3, r4⟩
  · exact ⟨⟨none, 0, 0⟩, rfl, h2.symm, fun _ => ⟨rfl, rfl⟩, fun g e => by cases e⟩
  · refine ⟨⟨some g, n, cap⟩, rfl, rfl, ?_, ?_⟩
    · intro e'
      cases e'
    intro g' e'
    cases e'
    exact ⟨hg, (Array.getElem?_eq_some_iff.1 hh).1, rfl, r1, by unfold maxLen at r2; omega, cur.toList, ⟨by simpa using hh⟩, by simpa using r3⟩
/-- the blocks of some pages -/
def blocks (ks : List (Sl × Kd)) : List Nat := ks.filterMap fun y => y.1.A
theorem blocks_app (a b : List (Sl × Kd)) : blocks (a ++ b) = blocks a ++ blocks b := by simp [blocks, List.filterMap_append]
theorem blocks_one (y : Sl × Kd) : ∀ g ∈ blocks [y], y.1.A = some g := by
  intro g hg
  unfold blocks at hg
  rw [List.filterMap_cons] at hg
  split at hg
  · cases hg
  · rename_i h
    simp at hg
    rw [h, hg]
theorem pair_one (y : Sl × Kd) : (blocks [y]).Pairwise (· < ·) := by
  unfold blocks
  rw [List.filterMap_cons]
  split <;> simp
theorem pair_rel {R : Nat → Nat → Prop} : ∀ {P : List Pg2} {i j : Nat} {g g' : Nat}, (P.filterMap fun q => q.A).Pairwise R → i < j → (hi : i < P.length) → (hj : j < P.length) → P[i].A = some g → P[j].A = some g' → R g g'
  | [], i, j, g, g', _, _, hi, _, _, _ => absurd hi (by simp)
  | q :: r, i, j, g, g', h, hij, hi, hj, e, e' => by
    cases j with
    | zero => omega
    | succ j =>
      have hj' : j < r.length := by simpa using hj
      have e'' : r[j].A = some g' := by simpa using e'
      cases i with
      | zero =>
        have e0 : q.A = some g := e
        rw [List.filterMap_cons, e0] at h
        exact (List.pairwise_cons.1 h).1 g' (List.mem_filterMap.2 ⟨r[j], List.getElem_mem hj', e''⟩)
      | succ i =>
        have hr : (r.filterMap fun q => q.A).Pairwise R := by
          rw [List.filterMap_cons] at h
          split at h
          · exact h
          · exact (List.pairwise_cons.1 h).2
        exact pair_rel (i := i) (j := j) hr (by omega) (by simpa using hi) hj' (by simpa using e) e''
/-- of the blocks that there were only these have been written -/
structure OnlyIn (bs : List Nat) (w w' : World) : Prop where
  os : w'.os = w.os
  tape : w'.tape = w.tape
  output : w'.output = w.output
  size : w.heap.size ≤ w'.heap.size
  block : ∀ k, k < w.heap.size → k ∉ bs → w'.heap[k]? = w.heap[k]?
/-- a book whose pages lie apart -/
theorem apartTo (p base : Nat) (ks : List (Sl × Kd)) (w0 w : World) (h : Bk w0 p base ks w) (hf : ∀ y ∈ ks, SlFit w0 y) (hd : (blocks ks).Pairwise (· ≠ ·)) (hlow : ∀ g ∈ blocks ks, g < base ∧ g ≠ p) :
    Calls Try.prog 17 #[.pointer (some ⟨p, 0, none⟩)] w fun e w' => e = .returned (.bool true) ∧ OnlyIn (blocks ks) w w' := by
  have ho := h.one
  obtain ⟨P, A, c, h1, h2, h3⟩ := h
  by_cases hn : P.length ≤ 120
  · have hmem : ∀ q ∈ P, q.key ∈ ks := fun q hq => by rw [← h1]; exact List.mem_map.2 ⟨q, hq, rfl⟩
    have hbl : ∀ q ∈ P, ∀ g, q.A = some g → g ∈ blocks ks := fun q hq g hg => List.mem_filterMap.2 ⟨q.key, hmem q hq, hg⟩
    have hfit : ∀ q ∈ P, q.Fit w False False := by
      intro q hq
      have hy := hf _ (hmem q hq)
      have hl := hbl q hq
      obtain ⟨A', n', c', s'⟩ := q
      cases A' with
      | none => exact hy
      | some g =>
        obtain ⟨e1, e2, xs, hr, he, hek⟩ := hy
        obtain ⟨l2, l3⟩ := hlow g (hl g rfl)
        have hr' : Row w g (ety s'.isK) xs := ⟨(ho.block g l2 l3).trans hr.is⟩
        have hes : esz s'.isK = s'.sz := by cases s' <;> rfl
        have het : ety s'.isK = s'.et := by cases s' <;> rfl
        rw [het] at hr'
        rw [show (Pg2.key ⟨some g, n', c', s'⟩).2 = s'.isK from rfl, hes] at he hek
        have he' : c' * s'.sz ≤ xs.length := he
        have hek' : s'.sz = 64 → xs.length = c' * s'.sz := hek
        have e1' : n' ≤ c' := e1
        have hle : n' * s'.sz ≤ c' * s'.sz := Nat.mul_le_mul_right _ e1'
        have hsum : c' * s'.sz = n' * s'.sz + (c' - n') * s'.sz := by rw [← Nat.add_mul]; congr 1; omega
        refine ⟨e1, e2, xs.take (n' * s'.sz), (xs.drop (n' * s'.sz)).take ((c' - n') * s'.sz), (xs.drop (n' * s'.sz)).drop ((c' - n') * s'.sz), by rwa [List.take_append_drop, List.take_append_drop], ?_, ?_, ?_, fun x => x.elim, fun x => x.elim⟩
        · show (xs.take (n' * s'.sz)).length = n' * s'.sz
          rw [List.length_take]
          exact Nat.min_eq_left (by omega)
        · show ((xs.drop (n' * s'.sz)).take ((c' - n') * s'.sz)).length = (c' - n') * s'.sz
          rw [List.length_take, List.length_drop]
          exact Nat.min_eq_left (by omega)
        · intro hz
          have := hek' hz
          exact List.drop_of_length_le (by rw [List.length_drop]; omega)
    refine (apart p base A c P w ⟨h3.row, h3.own, fun i hi => ?_⟩ ?_ h2 hn).mono ?_
    · have := hfit P[i] (List.getElem_mem hi)
      simpa using this
    · have hd' : (P.filterMap fun q => q.A).Pairwise (· ≠ ·) := by
        have : blocks ks = P.filterMap fun q => q.A := by
          rw [← h1]
          unfold blocks
          rw [List.filterMap_map]
          rfl
        rw [← this]
        exact hd
      intro i j hi hj g e e'
      rcases Nat.lt_trichotomy i j with hij | hij | hij
      · exact absurd rfl (pair_rel hd' hij hi hj e e')
      · exact hij
      · exact absurd rfl (pair_rel hd' hij hj hi e' e)
    · rintro e w' ⟨rfl, ht⟩
      exact ⟨rfl, ht.os, ht.tape, ht.output, ht.size, fun k hk hn => ht.block k hk fun q hq e => hn (hbl q hq k e)⟩
  · refine (apart_many p A P.length c w h3.row (by omega)).mono ?_
    rintro e w' ⟨rfl, rfl⟩
    exact ⟨rfl, rfl, rfl, rfl, Nat.le_refl _, fun _ _ _ => rfl⟩
/-- likewise, all of them above B -/
theorem apartNe (p base B : Nat) (ks : List (Sl × Kd)) (w0 w : World) (h : Bk w0 p base ks w) (hf : ∀ y ∈ ks, SlFit w0 y) (hd : (blocks ks).Pairwise (· ≠ ·)) (hlow : ∀ g ∈ blocks ks, B ≤ g ∧ g < base ∧ g ≠ p) (hB : B ≤ w.heap.size) :
    Calls Try.prog 17 #[.pointer (some ⟨p, 0, none⟩)] w fun e w' => e = .returned (.bool true) ∧ Below B w w' :=
  (apartTo p base ks w0 w h hf hd fun g hg => (hlow g hg).2).mono fun e w' ⟨he, ht⟩ => ⟨he, ht.os, ht.tape, ht.output, ht.size, fun k hk => ht.block k (Nat.lt_of_lt_of_le hk hB) fun hm => by have := (hlow k hm).1; omega⟩
/-- a book that has just been laid -/
theorem Bk.new (w : World) : Bk (w.alloc (.cells #[.slice none 0 0] 43)) w.heap.size w.heap.size [] (w.alloc (.cells #[.slice none 0 0] 43)) := by
  refine ⟨[], none, 0, rfl, by simp, ?_⟩
  exact ⟨Row.new w 43 [.slice none 0 0], World.ownsRow_nil _ _ _ _, ButOne.refl _ _ _, by simp, fun _ _ _ _ => rfl⟩
end Go.Proofs.Ytdbcbjjomhbhpaa

/-
  Of part TwinMsg: what is needed here.
-/
namespace Go.Proofs.Ytdbcbjjomhbhpaa
open Go.RowKit
set_option linter.unusedVariables false
/-- a load of many cells yields them -/
theorem exec_load_at {P : Program} {a : Act} {o : Oper} (w : World) (ty : TypeId) (x : Operand) (ho : o.op = .load ty x) (p : Addr) (cs : List Value) (d : TypeDesc) (hu : P.underlying ty = some d) (hd : d.isRow = true) (hi : (P.info? ty).map (·.size) = some cs.length)
    (hc : ∀ j v, cs[j]? = some v → w.cell? (p.add j) = some v) (hx : a.eval x = .pointer (some p)) : (execOp a.eval o).run P w = .ok (.value (.agg cs.toArray)) w := by
  unfold execOp
  simp only [ho, hx, Sem.run_bind, Sem.run_pure, run_loadAt_at w p ty cs d hc hu hd hi, Result.andThen_ok]
theorem built_look3 (l : List Value) (hl : l.length = 32) (A1 A2 : Option Addr) (n1 c1 n2 c2 : Nat) : Try.prog.built 60 [(0, .agg l.toArray), (1, .slice A1 n1 c1), (2, .slice A2 n2 c2)] = some (l ++ [Value.slice A1 n1 c1, .slice A2 n2 c2]).toArray := by
  obtain ⟨f, rfl⟩ : ∃ f : Fin 32 → Value, l = List.ofFn f := ⟨fun i => l.getD i undef, by
    refine List.ext_getElem (by simpa using hl) fun i h1 h2 => ?_
    rw [List.getElem_ofFn, List.getD_eq_getElem?_getD, List.getElem?_eq_getElem h1]
    rfl⟩
  kernel_rfl
theorem LookAt.keep {w w' : World} {B k : Nat} {a : Addr} {x : LLook} {va vd : Value} (h : LookAt w B a k x va vd) (ha : a.block < B) (hk : ∀ p : Addr, p.block < B → w'.cell? p = w.cell? p) : LookAt w' B a k x va vd :=
  ⟨fun j u hu => (hk _ (by rw [addr_block, addr_block]; exact ha)).trans (h.cells j u hu), h.len, h.wr.keep hk, h.rd.keep hk⟩
end Go.Proofs.Ytdbcbjjomhbhpaa

/-
  Of part Strays: what is needed here.
-/
namespace Go.Proofs.Ytdbcbjjomhbhpaa
open Go.RowKit
set_option linter.unusedVariables false
/-- a place's number that tells whether there is one -/
def IdxDone (p : Bool) (e : Ending) : Prop := ∃ r : Int, e = .returned (.int .i64 r) ∧ (0 ≤ r ↔ p = true)
theorem idx_told {r : Int} {p : Bool} (h : 0 ≤ r ↔ p = true) : decide (0 ≤ r) = p := by
  rw [Bool.eq_iff_iff, decide_eq_true_iff]
  exact h
theorem told_bool {p q : Bool} (h : p = q) : Ending.returned (.bool p) = .returned (.bool q) := by rw [h]
theorem any_take_succ {α : Type} {p : α → Bool} {l : List α} {k : Nat} {x : α} (h : l[k]? = some x) : (l.take (k + 1)).any p = ((l.take k).any p || p x) := by
  rw [List.take_add_one, h]
  simp
theorem any_hit {α : Type} {p : α → Bool} {l : List α} {k : Nat} {x : α} (h : l[k]? = some x) (hp : p x = true) : l.any p = true :=
  List.any_eq_true.2 ⟨x, List.mem_of_getElem? h, hp⟩
theorem getD_at {l : List Int} {k : Nat} (h : k < l.length) : l[k]? = some (l.getD k 0) := by
  rw [List.getD_eq_getElem?_getD, List.getElem?_eq_getElem h]; rfl
end Go.Proofs.Ytdbcbjjomhbhpaa

/-
  Of part Example: what is needed here.
-/
namespace Go.Proofs.Ytdbcbjjomhbhpaa
open Go.RowKit
set_option linter.unusedVariables false
def xk (a : Int) : List Int := a :: List.replicate 31 0
theorem xk_ok (a : Int) (h : IsByte a) : (xk a).length = 32 ∧ AllBytes (xk a) := ⟨rfl, fun z hz => by
  rcases List.mem_cons.1 hz with rfl | hz
  · exact h
  · obtain rfl : z = 0 := List.eq_of_mem_replicate hz
    constructor <;> decide⟩
theorem built_xk (a : Int) : Try.prog.built 32 [(0, .int .u8 a)] = some (bv (xk a)).toArray := by kernel_rfl
end Go.Proofs.Ytdbcbjjomhbhpaa

/-
  Of part AppendN: what is needed here.
-/
namespace Go.Proofs.Ytdbcbjjomhbhpaa
open Go.RowKit
set_option linter.unusedVariables false
section
variable {P : Program} {w : World} {base : Nat} {t ty e : TypeId} {i : TypeInfo} {z : Value} {size bytes : Nat} {v : Value} {n m c B : Nat} {A : Option Addr} {xs news : List Value}
theorem run_append_nothingN (ht : P.underlying t = some (.slice e)) (hi : P.info? e = some i) (hown : w.ownsRow base e size v n xs) (c : Nat) :
    (Builtin.append_ #[t, t] ty #[v, .slice none 0 c]).run P w = .ok v w := by
  rcases hown.2 with ⟨rfl, rfl⟩ | ⟨g, cap, cur, rfl, _, _, hnc, _⟩ <;>
    simp [Builtin.append_, run_underlying ht, sizeOf, typeInfo, Builtin.lenOf, Builtin.firstCells, storeCells, *]
theorem wp_appendN {o : Oper} {a : Act} {K : Act → World → Prop} {Q : Exit → Act → World → Prop} (s x : Operand) (t e : TypeId) (z : Value) (size bytes : Nat)
    (ho : o.op = .call { callee := .builtin .append, args := #[s, x], argTypes := #[t, t] })
    (ht : P.underlying t = some (.slice e)) (hi : (P.info? e).map (fun i => (i.zero, i.size, i.bytes)) = some (some z, size, bytes)) (hzs : z.cells.size = size) (hs0 : 0 < size)
    (v : Value) (n : Nat) (xs : List Value) (base B : Nat) (A : Option Addr) (m c : Nat) (news : List Value)
    (hs : a.eval s = v) (hown : w.ownsRow base e size v n xs) (hx : a.eval x = .slice A m c) (hr : Sees w B A (m * size) news) (h1 : ∀ u ∈ news, u.oneCell' = true)
    (hnm : n + m ≤ maxLen) (hbytes : (n + m) * bytes ≤ 140737488355328) (hbase : base ≤ w.heap.size)
    (h : ∀ v' w', w'.ownsRow base e size v' (n + m) (xs ++ news) → Grew w w' v v' → K (a.put o.dst v') w') : o.wp P a w K Q := by
  obtain ⟨i0, hi, hz0, hz1, hz2⟩ := info_parts hi
  have hrun : ∃ v' w', (Builtin.append_ #[t, t] o.type #[v, .slice A m c]).run P w = .ok v' w' ∧ w'.ownsRow base e size v' (n + m) (xs ++ news) ∧ Grew w w' v v' := by
    cases A with
    | none =>
      have hn : news = [] := by
        cases news with
        | nil => rfl
        | cons u r =>
          obtain ⟨a, h, _⟩ := hr.cell 0 u rfl
          cases h
      subst hn
      have hl : m * size = 0 := by simpa using hr.len.symm
      obtain rfl : m = 0 := by
        rcases Nat.mul_eq_zero.1 hl with h | h
        · exact h
        · omega
      exact ⟨v, w, run_append_nothingN ht hi hown c, by simpa using hown, Grew.refl _ _⟩
    | some ad =>
      obtain ⟨v', w', hrun, h2, h3, _, h5⟩ := run_append_own_at (P := P) w base t o.type e i0 z size bytes ht hi hz0 hz1 hz2 hzs hs0 v n xs hown ad m c news hr.len
        (fun j u hu => by
          obtain ⟨a, h, _, hc⟩ := hr.cell j u hu
          cases h
          exact hc) h1 hnm hbytes hbase
      refine ⟨v', w', hrun, h2, ⟨h3, fun k hk => ?_⟩⟩
      rcases h5 with h5 | h5
      · exact .inl (h5 ▸ hk)
      · rw [h5] at hk
        cases hk
        exact .inr (Nat.le_refl _)
  obtain ⟨v', w', hr2, h2, h3⟩ := hrun
  unfold Oper.wp execOp
  simp only [ho, resolve, invoke, builtin, Sem.run_bind, Sem.run_pure, Result.andThen_ok, List.map_toArray, List.map_cons, List.map_nil, hs, hx, hr2]
  exact h v' w' h2 h3
theorem wpList_appendN {ops : Array Oper} {rest : List Oper} {o : Oper} {a : Act} {Q : Exit → Act → World → Prop} (hgd : o.guard = none) (s x : Operand) (t e : TypeId) (z : Value) (size bytes : Nat)
    (ho : o.op = .call { callee := .builtin .append, args := #[s, x], argTypes := #[t, t] })
    (ht : P.underlying t = some (.slice e)) (hi : (P.info? e).map (fun i => (i.zero, i.size, i.bytes)) = some (some z, size, bytes)) (hzs : z.cells.size = size) (hs0 : 0 < size)
    (v : Value) (n : Nat) (xs : List Value) (base B : Nat) (A : Option Addr) (m c : Nat) (news : List Value)
    (hs : a.eval s = v) (hown : w.ownsRow base e size v n xs) (hx : a.eval x = .slice A m c) (hr : Sees w B A (m * size) news) (h1 : ∀ u ∈ news, u.oneCell' = true)
    (hnm : n + m ≤ maxLen) (hbytes : (n + m) * bytes ≤ 140737488355328) (hbase : base ≤ w.heap.size)
    (h : ∀ v' w', w'.ownsRow base e size v' (n + m) (xs ++ news) → Grew w w' v v' → wpList P ops Q rest (a.put o.dst v') w') : wpList P ops Q (o :: rest) a w :=
  wpList_plain hgd fun _ hK => wp_appendN s x t e z size bytes ho ht hi hzs hs0 v n xs base B A m c news hs hown hx hr h1 hnm hbytes hbase fun v' w' h2 h3 => hK _ _ (h v' w' h2 h3)
end
theorem own_nilN (w : World) (base : Nat) (e : TypeId) (size : Nat) : w.ownsRow base e size (.slice none 0 0) 0 [] := World.ownsRow_nil w base e size
theorem own_form2 {w : World} {base : Nat} {e : TypeId} {size n : Nat} {v : Value} {xs : List Value} (h : w.ownsRow base e size v n xs) : ∃ A c, v = .slice A n c ∧ Sees w w.heap.size A (n * size) xs ∧ n ≤ c ∧ c ≤ maxLen ∧ (∀ g, v.ownBlock = some g → base ≤ g ∧ g < w.heap.size) := by
  have hlt := h.lt
  rcases h.2 with ⟨rfl, rfl⟩ | ⟨g, cap, cur, rfl, hg, hh, h1, h2, h3, h4⟩
  · have hx : xs = [] := List.eq_nil_of_length_eq_zero (by simpa using h.1)
    subst hx
    exact ⟨none, 0, rfl, by rw [Nat.zero_mul]; exact Sees.nil _ _ _, Nat.le_refl _, by simp [maxLen], hlt⟩
  · refine ⟨_, cap, rfl, ⟨h.1, fun j u hu => ⟨_, rfl, (Array.getElem?_eq_some_iff.1 hh).1, h.cells (g := g) rfl j u hu⟩⟩, h1, h2, hlt⟩
theorem BytesIn.one {w : World} {B : Nat} {v : Value} {l : List Int} (h : BytesIn w B v l) : v.oneCell' = true := by
  obtain ⟨A, c, rfl, _⟩ := h.is
  rfl
end Go.Proofs.Ytdbcbjjomhbhpaa

/-
  Of part HoldWalk: what is needed here.
-/
namespace Go.Proofs.Ytdbcbjjomhbhpaa
open Go.RowKit Go.Maps
set_option linter.unusedVariables false
def i1 : DataW Unit := .lit (.int .i64 1)
end Go.Proofs.Ytdbcbjjomhbhpaa

/-
  Of part KeyEq: what is needed here.
-/
namespace Go.Proofs.Ytdbcbjjomhbhpaa
open Go.RowKit
set_option linter.unusedVariables false
def same32 (x y : List Int) (is : List Nat) : Bool := is.all fun i => x.getD i 0 == y.getD i 0
theorem eqItems_any (x y : List Int) (w : World) : ∀ (is : List Nat), (∀ i ∈ is, i < x.length ∧ i < y.length) → (Op.eqItems 9999 5 1 (bv x).toArray (bv y).toArray is).run Try.prog w = .ok (same32 x y is) w
  | [], _ => by simp [Op.eqItems, same32]
  | i :: is, h => by
    have hi := h i (by simp)
    have hc : (bv x).toArray[i]? = some (.int .u8 (x.getD i 0)) := by
      rw [List.getElem?_toArray]
      exact bv_at hi.1
    have hd : (bv y).toArray[i]? = some (.int .u8 (y.getD i 0)) := by
      rw [List.getElem?_toArray]
      exact bv_at hi.2
    have p := run_part_plain (P := Try.prog) w plainU8 (xs := (bv x).toArray) (off := i) hc
    have p2 := run_part_plain (P := Try.prog) w plainU8 (xs := (bv y).toArray) (off := i) hd
    have ih := eqItems_any x y w is fun k hk => h k (by simp [hk])
    simp only [Op.eqItems, Nat.mul_one, Sem.run_bind, p, p2, Result.andThen_ok, run_equalIn_int w 9998 5 .u8 .u8 _ _ Try.underlying5]
    cases hb : (x.getD i 0 == y.getD i 0)
    · have : same32 x y (i :: is) = false := by simp only [same32, List.all_cons, hb, Bool.false_and]
      rw [this]
      simp
    · have : same32 x y (i :: is) = same32 x y is := by simp only [same32, List.all_cons, hb, Bool.true_and]
      rw [this]
      simpa using ih
theorem same32_iff {x y : List Int} {n : Nat} (hx : x.length = n) (hy : y.length = n) : same32 x y (List.range n) = decide (x = y) := by
  rw [Bool.eq_iff_iff, decide_eq_true_iff]
  unfold same32
  rw [List.all_eq_true]
  constructor
  · intro h
    refine List.ext_getElem (by omega) fun i h1 h2 => ?_
    have := h i (by simp; omega)
    rw [beq_iff_eq, List.getD_eq_getElem?_getD, List.getD_eq_getElem?_getD, List.getElem?_eq_getElem h1, List.getElem?_eq_getElem h2] at this
    exact this
  · rintro rfl i _
    simp
theorem key_eql {x y : List Int} (hx : x.length = 32) (hy : y.length = 32) (w : World) :
    (binOp .eql 32 (.agg (bv x).toArray) (.agg (bv y).toArray)).run Try.prog w = .ok (.bool (decide (x = y))) w := by
  obtain ⟨i, hi⟩ := infoU8
  rw [run_eql_struct, show (10000 : Nat) = 9999 + 1 from rfl, run_equalIn_array w 9999 _ _ Try.underlying32 hi, cellsOfU8, eqItems_any x y w _ (fun i hi => by simp at hi; omega), same32_iff hx hy]
  rfl
end Go.Proofs.Ytdbcbjjomhbhpaa

/-
  Of part MoreWalk: what is needed here.
-/
namespace Go.Proofs.Ytdbcbjjomhbhpaa
open Go.RowKit
set_option linter.unusedVariables false
theorem Sees.far {w : World} {B n : Nat} {A : Option Addr} {xs : List Value} (h : Sees w B A n xs) {p : Addr} (hp : ∀ a, A = some a → a.block ≠ p.block) (u : Value) : Sees (w.setCell p u) B A n xs :=
  ⟨h.len, fun i v hv => by
    obtain ⟨a, ha, hb, hc⟩ := h.cell i v hv
    exact ⟨a, ha, hb, (World.cell?_setCell_other w p _ u (fun e => hp a ha (by rw [e, addr_block]))).trans hc⟩⟩
end Go.Proofs.Ytdbcbjjomhbhpaa

/-
  Of part OtherMem: what is needed here.
-/
namespace Go.Proofs.Ytdbcbjjomhbhpaa
open Go.RowKit
set_option linter.unusedVariables false
theorem own_keep {w w' : World} {base : Nat} {e : TypeId} {size n : Nat} {v : Value} {xs : List Value} (h : w.ownsRow base e size v n xs) (hk : ∀ g, v.ownBlock = some g → w'.heap[g]? = w.heap[g]?) : w'.ownsRow base e size v n xs := by
  refine ⟨h.1, ?_⟩
  rcases h.2 with h2 | ⟨g, cap, cur, hv, hg, hh, r⟩
  · exact .inl h2
  · exact .inr ⟨g, cap, cur, hv, hg, (hk g (by rw [hv]; rfl)).trans hh, r⟩
theorem own_is {w : World} {base : Nat} {e : TypeId} {size n g : Nat} {v : Value} {xs : List Value} (h : w.ownsRow base e size v n xs) (hg : v.ownBlock = some g) : ∃ cur, w.heap[g]? = some (.cells cur e (0, 0)) := by
  rcases h.2 with ⟨rfl, _⟩ | ⟨g', cap, cur, rfl, _, hh, _⟩
  · cases hg
  · cases hg
    exact ⟨cur, hh⟩
theorem own_turned {w w' : World} {base g : Nat} {e t : TypeId} {size n : Nat} {v : Value} {xs ys : List Value} (h : w.ownsRow base e size v n xs) (hr : Row w g t ys) (hne : e ≠ t) (ht : Turned w w' g) : w'.ownsRow base e size v n xs :=
  own_keep h fun k hk => ht.block k (fun e1 => by
    obtain ⟨cur, hc⟩ := own_is h hk
    rw [e1, hr.is] at hc
    injection (Option.some.inj hc) with _ h3 _
    exact hne h3.symm)
end Go.Proofs.Ytdbcbjjomhbhpaa
