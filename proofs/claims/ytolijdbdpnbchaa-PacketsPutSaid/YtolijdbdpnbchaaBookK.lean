/-
  ferryhouselaw01: key, Book.Keys.
-/
import Derived.Test.YtolijdbdpnbchaaBook
import Derived.Test.YtolijdbdpnbchaaSheetK
import Derived.Test.YtolijdbdpnbchaaRefAt
namespace Go.Proofs.Ytolijdbdpnbchaa
open Go.RowKit
set_option linter.unusedVariables false

/-- a key's mark -/
def kz (a b l : Int) : List Int := [a, b, 77, 0, 0, 0, 0, 0, 0, 0, 0, 0, 0, 0, 0, 0, 0, 0, 0, 0, 0, 0, 0, 0, 0, 0, 0, 0, 0, 0, 0, l]
theorem built_key (a b l : Int) : Try.prog.built 58 [(0, .int .u8 a), (1, .int .u8 b), (2, .int .u8 77), (31, .int .u8 l)] = some (bv (kz a b l)).toArray := by kernel_rfl
theorem built_sheet (B : Option Addr) (m d : Nat) (z1 z2 : List Int) (h1 : z1.length = 32) (h2 : z2.length = 32) : Try.prog.built 112 [(0, .slice B m d), (1, .agg (bv z1).toArray), (2, .agg (bv z2).toArray)] = some (sheetCells (.slice B m d) z1 z2).toArray := by
  obtain ⟨f, rfl⟩ : ∃ f : Fin 32 → Int, z1 = List.ofFn f := ⟨fun i => z1.getD i 0, by
    refine List.ext_getElem (by simpa using h1) fun i h3 h4 => ?_
    rw [List.getElem_ofFn, List.getD_eq_getElem?_getD, List.getElem?_eq_getElem h3]
    rfl⟩
  obtain ⟨g, rfl⟩ : ∃ f : Fin 32 → Int, z2 = List.ofFn f := ⟨fun i => z2.getD i 0, by
    refine List.ext_getElem (by simpa using h2) fun i h3 h4 => ?_
    rw [List.getElem_ofFn, List.getD_eq_getElem?_getD, List.getElem?_eq_getElem h3]
    rfl⟩
  kernel_rfl
theorem exec_built {a : Act} {o : Oper} (w : World) (t : TypeId) (parts : Array (Nat × Operand)) (cells : Array Value) (ho : o.op = .build t parts) (h : Try.prog.built t (parts.map fun (i, x) => (i, a.eval x)).toList = some cells) : (execOp a.eval o).run Try.prog w = .ok (.value (.agg cells)) w := by
  simp only [execOp, ho, Sem.run_bind, run_build w t _ cells h, Result.andThen_ok]
  rfl

theorem wp_built {o : Oper} {a : Act} {w : World} {K : Act → World → Prop} {Q : Exit → Act → World → Prop} (t : TypeId) (parts : Array (Nat × Operand)) (cells : Array Value) (ho : o.op = .build t parts)
    (h : Try.prog.built t (parts.map fun (i, x) => (i, a.eval x)).toList = some cells) (hK : K (a.put o.dst (.agg cells)) w) : o.wp Try.prog a w K Q :=
  wp_build t parts ho (by rw [h]; rfl) (by rw [h]; exact hK)
/-- of the blocks below 'base' only p has been written -/
structure ButOne (base p : Nat) (w w' : World) : Prop where
  os : w'.os = w.os
  tape : w'.tape = w.tape
  output : w'.output = w.output
  size : w.heap.size ≤ w'.heap.size
  block : ∀ k, k < base → k ≠ p → w'.heap[k]? = w.heap[k]?
theorem ButOne.refl (base p : Nat) (w : World) : ButOne base p w w := ⟨rfl, rfl, rfl, Nat.le_refl _, fun _ _ _ => rfl⟩
theorem ButOne.trans {base p : Nat} {a b c : World} (h : ButOne base p a b) (k : ButOne base p b c) : ButOne base p a c :=
  ⟨k.os.trans h.os, k.tape.trans h.tape, k.output.trans h.output, Nat.le_trans h.size k.size, fun i hi hp => (k.block i hi hp).trans (h.block i hi hp)⟩
theorem ButOne.below {base p B : Nat} {a b : World} (h : ButOne base p a b) (hB : B ≤ base) (hp : B ≤ p) : Below B a b :=
  ⟨h.os, h.tape, h.output, h.size, fun k hk => h.block k (by omega) (by omega)⟩
theorem Row.butOne {w w' : World} {g t base p : Nat} {xs : List Value} (h : Row w g t xs) (hb : ButOne base p w w') (hg : g < base) (hp : g ≠ p) : Row w' g t xs := ⟨(hb.block g hg hp).trans h.is⟩

/-- 'AllReadyH.cons', the operations a list -/
theorem allL {P : Program} {L : List Oper} {Q : Exit → Act → World → Prop} {md : Region.Mode} {S : World → Prop} {i : Nat} {o : Oper} {fuel : Nat} {listed : Array Bool} {a : Act} {w : World} {rs : List Nat} (ho : L[i]? = some o)
    (hw : Region.wanted o (yielded L.toArray a.tmps) = true)
    (h : ∀ K' : Act → World → Prop, Shut (∀ a w, S w → wpAnyH P md L.toArray Q S fuel (listed.setIfInBounds i true) a w → K' a w) → Oper.wp P o a w K' Q)
    (hs : AllReadyH P md L.toArray Q S fuel listed a w rs) : AllReadyH P md L.toArray Q S fuel listed a w (i :: rs) :=
  AllReadyH.cons (by simpa using ho) (fun K hK => by
    rw [if_pos hw]
    exact h K (fun a w hS hW => hK a w hS fun _ => hW)) hs

set_option maxRecDepth 100000 in
set_option maxHeartbeats 800000 in
theorem keyMark (x y : Int) (w : World) : Calls Try.prog 69 #[.int .i64 x, .int .u8 y] w fun e w' => ∃ z, e = .returned (.agg (bv z).toArray) ∧ z.length = 32 ∧ Below w.heap.size w w' := by
  go_enter Try.func69, Try.ntmps69
  go_wp2_with (first
    | ((with_reducible show wpList _ _ _ ({ dst := some 11, op := Op.build _ _, type := _, pos := _, after := _, guard := _ } :: _) _ _); go_must (refine wpList_plain rfl fun K hK => wp_built _ _ _ rfl (by simp only [List.map_toArray, List.map_cons, List.map_nil]; exact built_key _ _ _) (hK _ _ ?_)))
    | ((with_reducible show wpList _ _ _ ({ dst := none, op := Op.store 58 _ _, type := _, pos := _, after := _, guard := _ } :: _) _ _); go_must (refine wpList_store_new rfl 58 (.tmp 4) (.tmp 11) rfl (bv (kz (x % 256) (wrap64 (x.tdiv 256) % 256) y)) size_key (bv_one _) rfl ?_ ?_ ?_; go_simp; go_simp; intro w1 hr1 hb1 hz1; have HR1 := Lib.hid hr1; have HB1 := Lib.hid hb1; clear hr1 hb1)))
  refine bodyPost_ret (results_cell_row (h := rfl) _ w1 w.heap.size 58 _ (0, 0) _ (by rfl) HR1.out.is Try.underlying58 rfl size_key) rfl ?_
  exact ⟨_, rfl, rfl, HB1.out⟩

/-- block k holds no pages -/
def NoPages (w : World) (k : Nat) : Prop := ∀ xs fr, w.heap[k]? ≠ some (.cells xs 75 fr)

/-- a book, its pages of the call's own, from world w0 on -/
structure BookW (w0 : World) (p base : Nat) (A : Option Addr) (n c : Nat) (ps : List Value) (w : World) : Prop where
  row : Row w p 45 [.slice A n c]
  own : w.ownsRow base 75 1 (.slice A n c) n ps
  one : ButOne base p w0 w
  lt : base ≤ w.heap.size
  keep : ∀ k, k < w0.heap.size → k ≠ p → NoPages w0 k → w.heap[k]? = w0.heap[k]?

section
variable {w0 w w' : World} {p base n c : Nat} {A : Option Addr} {ps : List Value}
theorem BookW.start (h : BookW w0 p base A n c ps w) : BookW w p base A n c ps w := ⟨h.row, h.own, ButOne.refl _ _ _, h.lt, fun _ _ _ _ => rfl⟩
theorem BookW.trans {A' : Option Addr} {n' c' : Nat} {ps' : List Value} (h : BookW w0 p base A n c ps w) (h' : BookW w p base A' n' c' ps' w') : BookW w0 p base A' n' c' ps' w' :=
  ⟨h'.row, h'.own, h.one.trans h'.one, h'.lt, fun k hk hp hn => by
    have e := h.keep k hk hp hn
    refine (h'.keep k (Nat.lt_of_lt_of_le hk h.one.size) hp ?_).trans e
    intro xs fr
    rw [e]
    exact hn xs fr⟩
theorem BookW.below (h : BookW w0 p base A n c ps w) (hb : Below w.heap.size w w') : BookW w0 p base A n c ps w' :=
  ⟨h.row.below hb h.row.lt, own_below h.own hb, h.one.trans ⟨hb.os, hb.tape, hb.output, hb.size, fun k hk _ => hb.block k (by have := h.lt; omega)⟩, by have := h.lt; have := hb.size; omega,
    fun k hk hp hn => (hb.block k (Nat.lt_of_lt_of_le hk h.one.size)).trans (h.keep k hk hp hn)⟩
theorem BookW.alloc (h : BookW w0 p base A n c ps w) (o : Obj) : BookW w0 p base A n c ps (w.alloc o) := h.below ((Below.refl _ _).alloc (Nat.le_refl _) o)
theorem BookW.drewN (h : BookW w0 p base A n c ps w) (k : Nat) : BookW w0 p base A n c ps (w.drewN k) := ⟨h.row.drewN k, h.own, ⟨h.one.os, h.one.tape, h.one.output, h.one.size, h.one.block⟩, h.lt, h.keep⟩
theorem own_pages {v : Value} {m : Nat} (h : w.ownsRow base 75 1 v m ps) {k : Nat} (hn : NoPages w k) : some k ≠ v.ownBlock := by
  rcases h.2 with ⟨rfl, _⟩ | ⟨g', cap, cur, rfl, _, hh, _⟩
  · simp [Value.ownBlock]
  · intro he
    have hg : k = g' := by simpa [Value.ownBlock] using he
    subst hg
    exact hn _ _ hh
theorem BookW.last {q : List Value} {m : Nat} {A' : Option Addr} {c' : Nat} (h : BookW w0 p base A n c ps w) (hr : Row w' p 45 [.slice A n c]) (ho : w'.ownsRow base 75 1 (.slice A' m c') m (ps ++ q)) (hg : w.grownBy w' (Value.slice A n c).ownBlock) :
    BookW w0 p base A' m c' (ps ++ q) (w'.setCell ⟨p, 0, none⟩ (.slice A' m c')) := by
  have hT := turned_setCell w' ⟨p, 0, none⟩ (.slice A' m c')
  have hz := hg.size
  have hl := h.lt
  refine ⟨hr.set_ 0 _, own_far ho hr (by decide) 0 _, h.one.trans ⟨hg.os, hg.tape, hg.output, ?_, fun k hk hp => ?_⟩, by rw [hT.size]; omega, fun k hk hp hn => ?_⟩
  · rw [hT.size]; exact hz
  · rw [hT.block k hp]
    exact hg.block k (by omega) fun e => by have := (h.own.lt k e.symm).1; omega
  · have e := h.keep k hk hp hn
    rw [hT.block k hp]
    refine (hg.block k (Nat.lt_of_lt_of_le hk h.one.size) (own_pages h.own ?_)).trans e
    intro xs fr
    rw [e]
    exact hn xs fr
/-- a row of other things stays -/
theorem BookW.rowK {g t : Nat} {xs : List Value} (h : BookW w0 p base A n c ps w) (hr : Row w0 g t xs) (hg : g ≠ p) (ht : t ≠ 75) : Row w g t xs :=
  ⟨(h.keep g hr.lt hg (fun ys fr e => by
    rw [hr.is] at e
    injection e with e
    injection e with _ e
    exact ht e)).trans hr.is⟩
end

set_option maxHeartbeats 400000 in
theorem bookBytesW (p base : Nat) (A B : Option Addr) (n c m d : Nat) (ps : List Value) (w0 w : World) (h : BookW w0 p base A n c ps w) (hn : n ≤ 1000000) :
    Calls Try.prog 16 #[.pointer (some ⟨p, 0, none⟩), .slice B m d] w fun e w' => ∃ hh ff A' c', e = .returned (.tuple #[]) ∧
      BookW w0 p base A' (n + 1) c' (ps ++ [.iface 73 (.agg #[.slice B m d, .int .u8 hh, .int .u8 ff])]) w' := by
  obtain ⟨i0, hi, hz0, hz1, hz2⟩ := info_parts info_page
  have c0 : w.cell? ⟨p, 0, none⟩ = some (.slice A n c) := h.row.cell 0
  have f0 := h.row.frozen 0
  have HN := Lib.hid (number_ p A n c w h.row hn)
  have HH := Lib.hid h
  let q : Value := .iface 73 (.agg #[.slice B m d, .int .u8 (((n : Int) + 1) % 256), .int .u8 (255 - ((n : Int) + 1) % 256)])
  have hsees := (Row.new w 75 [q]).sees0
  have HH1 := Lib.hid (h.alloc (.cells [q].toArray 75))
  have hown1 := HH1.out.own
  have hone : ∀ u ∈ [q], u.oneCell' = true := by simp [q, Value.oneCell']
  have hbase := HH1.out.lt
  clear h
  go_enter Try.func16, Try.ntmps16
  go_wp2_with fail
  refine HN.out.mono ?_
  rintro e w1 ⟨rfl, rfl⟩
  go_wp2_with (at_builtin; go_must (refine wpList_append_sees rfl (.tmp 12) (.tmp 19) 43 rfl base 75 i0 _ 16 Try.underlying43 hi hz0 hz1 hz2 rfl _ n _ rfl hown1 _ _ 1 _ _ rfl hsees hone (by unfold maxLen; omega) (by omega) hbase ?_); intro v2 w2 hown2 hg2 hat2; have hR2 := HH1.out.row.grown hg2 (own_row_ne HH1.out.own HH1.out.row (by decide)); have c2 : w2.cell? ⟨p, 0, none⟩ = some (.slice A n c) := hR2.cell 0; have f2 := hR2.frozen 0; obtain ⟨A', c', rfl⟩ := own_form hown2; have HR2 := Lib.hid hR2; clear hR2)
  go_end0
  exact ⟨_, _, A', c', rfl, HH1.out.last HR2.out hown2 hg2⟩

set_option maxRecDepth 100000 in
set_option maxHeartbeats 4000000 in
theorem bookKeys (p base : Nat) (A B : Option Addr) (n c m d : Nat) (ps : List Value) (w0 w : World) (h : BookW w0 p base A n c ps w) (hn : n ≤ 1000000) :
    Calls Try.prog 59 #[.pointer (some ⟨p, 0, none⟩), .slice B m d] w fun e w' => ∃ z1 z2 A' c', e = .returned (.tuple #[]) ∧ z1.length = 32 ∧ z2.length = 32 ∧
      BookW w0 p base A' (n + 1) c' (ps ++ [.iface 112 (.agg (sheetCells (.slice B m d) z1 z2).toArray)]) w' := by
  obtain ⟨i0, hi, hz0, hz1, hz2⟩ := info_parts info_page
  have HI := Lib.hid (And.intro hi (And.intro hz0 (And.intro hz1 hz2)))
  have HN := Lib.hid (number_ p A n c w h.row hn)
  have H0 := Lib.hid (h.drewN 1)
  clear h hi hz0 hz1 hz2
  go_enter Try.func59, Try.ntmps59
  go_wp2_with fail
  refine HN.out.mono ?_
  rintro e w1 ⟨rfl, rfl⟩
  go_wp2_with fail
  refine wp_region_held (S := fun _ => True) (by kernel_rfl) ?_
  try (change wpAnyH _ _ _ _ _ _ _ _ (World.drew _))
  refine takeL (i := 0) (v := ?_) rfl (by kernel_rfl) (by kernel_rfl) (by kernel_rfl) (fun _ _ _ h => h) (Or.inl ⟨by rfl, ?_⟩) trivial ?_
  rotate_left
  · intro w _
    go_simp
    try with_reducible rfl
  try simp only [Act.put, List.setIfInBounds_toArray, List.set_cons_zero, List.set_cons_succ]
  refine takeL (i := 1) (v := ?_) rfl (by kernel_rfl) (by kernel_rfl) (by kernel_rfl) (fun _ _ _ h => h) (Or.inl ⟨by rfl, ?_⟩) trivial ?_
  rotate_left
  · intro w _
    go_simp
    try with_reducible rfl
  try simp only [Act.put, List.setIfInBounds_toArray, List.set_cons_zero, List.set_cons_succ]
  refine takeL (i := 2) (v := ?_) rfl (by kernel_rfl) (by kernel_rfl) (by kernel_rfl) (fun _ _ _ h => h) (Or.inl ⟨by rfl, ?_⟩) trivial ?_
  rotate_left
  · intro w _
    go_simp
    try with_reducible rfl
  try simp only [Act.put, List.setIfInBounds_toArray, List.set_cons_zero, List.set_cons_succ]
  refine takeL (i := 3) (v := ?_) rfl (by kernel_rfl) (by kernel_rfl) (by kernel_rfl) (fun _ _ _ h => h) (Or.inl ⟨by rfl, ?_⟩) trivial ?_
  rotate_left
  · intro w _
    go_simp
    try with_reducible rfl
  try simp only [Act.put, List.setIfInBounds_toArray, List.set_cons_zero, List.set_cons_succ]
  refine takeL (i := 5) (v := ?_) rfl (by kernel_rfl) (by kernel_rfl) (by kernel_rfl) (fun _ _ _ h => h) (Or.inl ⟨by rfl, ?_⟩) trivial ?_
  rotate_left
  · intro w _
    go_simp
    try with_reducible rfl
  try simp only [Act.put, List.setIfInBounds_toArray, List.set_cons_zero, List.set_cons_succ]
  refine takeL (i := 6) (v := ?_) rfl (by kernel_rfl) (by kernel_rfl) (by kernel_rfl) (fun _ _ _ h => h) (Or.inl ⟨by rfl, ?_⟩) trivial ?_
  rotate_left
  · intro w _
    go_simp
    try with_reducible rfl
  try simp only [Act.put, List.setIfInBounds_toArray, List.set_cons_zero, List.set_cons_succ]
  refine takeL (i := 8) (v := ?_) rfl (by kernel_rfl) (by kernel_rfl) (by kernel_rfl) (fun _ _ _ h => h) (Or.inl ⟨by rfl, ?_⟩) trivial ?_
  rotate_left
  · intro w _
    go_simp
    try with_reducible rfl
  try simp only [Act.put, List.setIfInBounds_toArray, List.set_cons_zero, List.set_cons_succ]
  refine wpAnyH_ready (rs := [4, 7]) (by kernel_rfl) (by simp) ?_
  refine allL rfl (by kernel_rfl) (fun K hK => ?_) (allL rfl (by kernel_rfl) (fun K hK => ?_) (AllReadyH.nil))
  · have c1 : w.drew.cell? ⟨p, 0, none⟩ = some (.slice A n c) := H0.out.row.cell 0
    go_simp
    clear c1
    refine hK _ _ trivial ?_
    clear hK K
    try simp only [Act.put, List.setIfInBounds_toArray, List.set_cons_zero, List.set_cons_succ]
    refine readyL (i := 7) rfl (by kernel_rfl) (by kernel_rfl) fun K hK => ?_
    go_simp
    refine (keyMark _ _ _).mono ?_
    rintro e w12 ⟨z1, rfl, hz1, hb⟩
    have H12 := Lib.hid (H0.out.below hb)
    clear hb
    simp only []
    refine hK _ _ trivial ?_
    clear hK K
    try simp only [Act.put, List.setIfInBounds_toArray, List.set_cons_zero, List.set_cons_succ]
    refine readyL (i := 9) rfl (by kernel_rfl) (by kernel_rfl) fun K hK => ?_
    go_simp
    refine (keyMark _ _ _).mono ?_
    rintro e w23 ⟨z2, rfl, hz2, hb⟩
    have H23 := Lib.hid (H12.out.below hb)
    clear hb
    simp only []
    refine hK _ _ trivial ?_
    clear hK K
    try simp only [Act.put, List.setIfInBounds_toArray, List.set_cons_zero, List.set_cons_succ]
    refine takeL (i := 10) (v := .agg (sheetCells (.slice B m d) z1 z2).toArray) rfl (by kernel_rfl) (by kernel_rfl) (by kernel_rfl) (fun _ _ _ h => h) (Or.inl ⟨by rfl, fun w _ => ?_⟩) trivial ?_
    · exact exec_built w _ _ _ rfl (by simp only [List.map_toArray, List.map_cons, List.map_nil]; exact built_sheet B m d z1 z2 hz1 hz2)
    try simp only [Act.put, List.setIfInBounds_toArray, List.set_cons_zero, List.set_cons_succ]
    refine takeL (i := 11) (v := ?_) rfl (by kernel_rfl) (by kernel_rfl) (by kernel_rfl) (fun _ _ _ h => h) (Or.inl ⟨by rfl, ?_⟩) trivial ?_
    rotate_left
    · intro w _
      go_simp
      try with_reducible rfl
    try simp only [Act.put, List.setIfInBounds_toArray, List.set_cons_zero, List.set_cons_succ]
    refine readyL (i := 12) rfl (by kernel_rfl) (by kernel_rfl) fun K hK => ?_
    go_simp
    refine hK _ _ trivial ?_
    clear hK K
    try simp only [Act.put, List.setIfInBounds_toArray, List.set_cons_zero, List.set_cons_succ]
    have HB4 := Lib.hid (H23.out.alloc (.cells [Value.iface 112 (.agg (sheetCells (.slice B m d) z1 z2).toArray)].toArray 75))
    have hsee := (Row.new w23 75 [Value.iface 112 (.agg (sheetCells (.slice B m d) z1 z2).toArray)]).sees0
    have HSEE := Lib.hid hsee
    clear hsee
    refine readyL (i := 13) rfl (by kernel_rfl) (by kernel_rfl) fun K hK => ?_
    refine wp_append_sees (.tmp 11) (.tmp 19) rfl Try.underlying43 HI.out.1 HI.out.2.1 HI.out.2.2.1 HI.out.2.2.2 rfl rfl HB4.out.own rfl HSEE.out (by simp [Value.oneCell']) (by unfold maxLen; omega) (by omega) HB4.out.lt ?_
    intro v5 w5 ho5 hg5 hat5
    obtain ⟨A5, c5, rfl⟩ := own_form ho5
    refine hK _ _ trivial ?_
    clear hK K
    try simp only [Act.put, List.setIfInBounds_toArray, List.set_cons_zero, List.set_cons_succ]
    have hr5 := HB4.out.row.grown hg5 (own_row_ne HB4.out.own HB4.out.row (by decide))
    have e5 : w5.cell? ⟨p, 0, none⟩ = some (.slice A n c) := hr5.cell 0
    have g5 := hr5.frozen 0
    refine takeL (i := 14) (v := ?_) rfl (by kernel_rfl) (by kernel_rfl) (by kernel_rfl) (fun _ _ _ h => h) (Or.inl ⟨by rfl, ?_⟩) trivial ?_
    rotate_left
    · intro w _
      go_simp
      try with_reducible rfl
    try simp only [Act.put, List.setIfInBounds_toArray, List.set_cons_zero, List.set_cons_succ]
    refine takeL (i := 15) (v := ?_) rfl (by kernel_rfl) (by kernel_rfl) (by kernel_rfl) (fun _ _ _ h => h) (Or.inl ⟨by rfl, ?_⟩) trivial ?_
    rotate_left
    · intro w _
      go_simp
      try with_reducible rfl
    try simp only [Act.put, List.setIfInBounds_toArray, List.set_cons_zero, List.set_cons_succ]
    refine readyL (i := 16) rfl (by kernel_rfl) (by kernel_rfl) fun K hK => ?_
    go_simp
    refine hK _ _ trivial ?_
    clear hK K
    try simp only [Act.put, List.setIfInBounds_toArray, List.set_cons_zero, List.set_cons_succ]
    refine wpAnyH_done (by kernel_rfl) ?_ _
    have HE := Lib.hid (HB4.out.last hr5 ho5 hg5)
    clear e5 g5 hr5 ho5 hg5 hat5
    go_wp2_with fail
    go_end0
    exact ⟨z1, z2, A5, c5, rfl, hz1, hz2, HE.out⟩
  · go_simp
    refine (keyMark _ _ _).mono ?_
    rintro e w11 ⟨z1, rfl, hz1, hb⟩
    have H11 := Lib.hid (H0.out.below hb)
    clear hb
    simp only []
    refine hK _ _ trivial ?_
    clear hK K
    try simp only [Act.put, List.setIfInBounds_toArray, List.set_cons_zero, List.set_cons_succ]
    refine wpAnyH_ready (rs := [4, 9]) (by kernel_rfl) (by simp) ?_
    refine allL rfl (by kernel_rfl) (fun K hK => ?_) (allL rfl (by kernel_rfl) (fun K hK => ?_) (AllReadyH.nil))
    · have c2 : w11.cell? ⟨p, 0, none⟩ = some (.slice A n c) := H11.out.row.cell 0
      go_simp
      clear c2
      refine hK _ _ trivial ?_
      clear hK K
      try simp only [Act.put, List.setIfInBounds_toArray, List.set_cons_zero, List.set_cons_succ]
      refine readyL (i := 9) rfl (by kernel_rfl) (by kernel_rfl) fun K hK => ?_
      go_simp
      refine (keyMark _ _ _).mono ?_
      rintro e w23 ⟨z2, rfl, hz2, hb⟩
      have H23 := Lib.hid (H11.out.below hb)
      clear hb
      simp only []
      refine hK _ _ trivial ?_
      clear hK K
      try simp only [Act.put, List.setIfInBounds_toArray, List.set_cons_zero, List.set_cons_succ]
      refine takeL (i := 10) (v := .agg (sheetCells (.slice B m d) z1 z2).toArray) rfl (by kernel_rfl) (by kernel_rfl) (by kernel_rfl) (fun _ _ _ h => h) (Or.inl ⟨by rfl, fun w _ => ?_⟩) trivial ?_
      · exact exec_built w _ _ _ rfl (by simp only [List.map_toArray, List.map_cons, List.map_nil]; exact built_sheet B m d z1 z2 hz1 hz2)
      try simp only [Act.put, List.setIfInBounds_toArray, List.set_cons_zero, List.set_cons_succ]
      refine takeL (i := 11) (v := ?_) rfl (by kernel_rfl) (by kernel_rfl) (by kernel_rfl) (fun _ _ _ h => h) (Or.inl ⟨by rfl, ?_⟩) trivial ?_
      rotate_left
      · intro w _
        go_simp
        try with_reducible rfl
      try simp only [Act.put, List.setIfInBounds_toArray, List.set_cons_zero, List.set_cons_succ]
      refine readyL (i := 12) rfl (by kernel_rfl) (by kernel_rfl) fun K hK => ?_
      go_simp
      refine hK _ _ trivial ?_
      clear hK K
      try simp only [Act.put, List.setIfInBounds_toArray, List.set_cons_zero, List.set_cons_succ]
      have HB4 := Lib.hid (H23.out.alloc (.cells [Value.iface 112 (.agg (sheetCells (.slice B m d) z1 z2).toArray)].toArray 75))
      have hsee := (Row.new w23 75 [Value.iface 112 (.agg (sheetCells (.slice B m d) z1 z2).toArray)]).sees0
      have HSEE := Lib.hid hsee
      clear hsee
      refine readyL (i := 13) rfl (by kernel_rfl) (by kernel_rfl) fun K hK => ?_
      refine wp_append_sees (.tmp 11) (.tmp 19) rfl Try.underlying43 HI.out.1 HI.out.2.1 HI.out.2.2.1 HI.out.2.2.2 rfl rfl HB4.out.own rfl HSEE.out (by simp [Value.oneCell']) (by unfold maxLen; omega) (by omega) HB4.out.lt ?_
      intro v5 w5 ho5 hg5 hat5
      obtain ⟨A5, c5, rfl⟩ := own_form ho5
      refine hK _ _ trivial ?_
      clear hK K
      try simp only [Act.put, List.setIfInBounds_toArray, List.set_cons_zero, List.set_cons_succ]
      have hr5 := HB4.out.row.grown hg5 (own_row_ne HB4.out.own HB4.out.row (by decide))
      have e5 : w5.cell? ⟨p, 0, none⟩ = some (.slice A n c) := hr5.cell 0
      have g5 := hr5.frozen 0
      refine takeL (i := 14) (v := ?_) rfl (by kernel_rfl) (by kernel_rfl) (by kernel_rfl) (fun _ _ _ h => h) (Or.inl ⟨by rfl, ?_⟩) trivial ?_
      rotate_left
      · intro w _
        go_simp
        try with_reducible rfl
      try simp only [Act.put, List.setIfInBounds_toArray, List.set_cons_zero, List.set_cons_succ]
      refine takeL (i := 15) (v := ?_) rfl (by kernel_rfl) (by kernel_rfl) (by kernel_rfl) (fun _ _ _ h => h) (Or.inl ⟨by rfl, ?_⟩) trivial ?_
      rotate_left
      · intro w _
        go_simp
        try with_reducible rfl
      try simp only [Act.put, List.setIfInBounds_toArray, List.set_cons_zero, List.set_cons_succ]
      refine readyL (i := 16) rfl (by kernel_rfl) (by kernel_rfl) fun K hK => ?_
      go_simp
      refine hK _ _ trivial ?_
      clear hK K
      try simp only [Act.put, List.setIfInBounds_toArray, List.set_cons_zero, List.set_cons_succ]
      refine wpAnyH_done (by kernel_rfl) ?_ _
      have HE := Lib.hid (HB4.out.last hr5 ho5 hg5)
      clear e5 g5 hr5 ho5 hg5 hat5
      go_wp2_with fail
      go_end0
      exact ⟨z1, z2, A5, c5, rfl, hz1, hz2, HE.out⟩
    · go_simp
      refine (keyMark _ _ _).mono ?_
      rintro e w22 ⟨z2, rfl, hz2, hb⟩
      have H22 := Lib.hid (H11.out.below hb)
      clear hb
      simp only []
      refine hK _ _ trivial ?_
      clear hK K
      try simp only [Act.put, List.setIfInBounds_toArray, List.set_cons_zero, List.set_cons_succ]
      refine takeL (i := 10) (v := .agg (sheetCells (.slice B m d) z1 z2).toArray) rfl (by kernel_rfl) (by kernel_rfl) (by kernel_rfl) (fun _ _ _ h => h) (Or.inl ⟨by rfl, fun w _ => ?_⟩) trivial ?_
      · exact exec_built w _ _ _ rfl (by simp only [List.map_toArray, List.map_cons, List.map_nil]; exact built_sheet B m d z1 z2 hz1 hz2)
      try simp only [Act.put, List.setIfInBounds_toArray, List.set_cons_zero, List.set_cons_succ]
      refine takeL (i := 11) (v := ?_) rfl (by kernel_rfl) (by kernel_rfl) (by kernel_rfl) (fun _ _ _ h => h) (Or.inl ⟨by rfl, ?_⟩) trivial ?_
      rotate_left
      · intro w _
        go_simp
        try with_reducible rfl
      try simp only [Act.put, List.setIfInBounds_toArray, List.set_cons_zero, List.set_cons_succ]
      refine wpAnyH_ready (rs := [4, 12]) (by kernel_rfl) (by simp) ?_
      refine allL rfl (by kernel_rfl) (fun K hK => ?_) (allL rfl (by kernel_rfl) (fun K hK => ?_) (AllReadyH.nil))
      · have c3 : w22.cell? ⟨p, 0, none⟩ = some (.slice A n c) := H22.out.row.cell 0
        go_simp
        clear c3
        refine hK _ _ trivial ?_
        clear hK K
        try simp only [Act.put, List.setIfInBounds_toArray, List.set_cons_zero, List.set_cons_succ]
        refine readyL (i := 12) rfl (by kernel_rfl) (by kernel_rfl) fun K hK => ?_
        go_simp
        refine hK _ _ trivial ?_
        clear hK K
        try simp only [Act.put, List.setIfInBounds_toArray, List.set_cons_zero, List.set_cons_succ]
        have HB4 := Lib.hid (H22.out.alloc (.cells [Value.iface 112 (.agg (sheetCells (.slice B m d) z1 z2).toArray)].toArray 75))
        have hsee := (Row.new w22 75 [Value.iface 112 (.agg (sheetCells (.slice B m d) z1 z2).toArray)]).sees0
        have HSEE := Lib.hid hsee
        clear hsee
        refine readyL (i := 13) rfl (by kernel_rfl) (by kernel_rfl) fun K hK => ?_
        refine wp_append_sees (.tmp 11) (.tmp 19) rfl Try.underlying43 HI.out.1 HI.out.2.1 HI.out.2.2.1 HI.out.2.2.2 rfl rfl HB4.out.own rfl HSEE.out (by simp [Value.oneCell']) (by unfold maxLen; omega) (by omega) HB4.out.lt ?_
        intro v5 w5 ho5 hg5 hat5
        obtain ⟨A5, c5, rfl⟩ := own_form ho5
        refine hK _ _ trivial ?_
        clear hK K
        try simp only [Act.put, List.setIfInBounds_toArray, List.set_cons_zero, List.set_cons_succ]
        have hr5 := HB4.out.row.grown hg5 (own_row_ne HB4.out.own HB4.out.row (by decide))
        have e5 : w5.cell? ⟨p, 0, none⟩ = some (.slice A n c) := hr5.cell 0
        have g5 := hr5.frozen 0
        refine takeL (i := 14) (v := ?_) rfl (by kernel_rfl) (by kernel_rfl) (by kernel_rfl) (fun _ _ _ h => h) (Or.inl ⟨by rfl, ?_⟩) trivial ?_
        rotate_left
        · intro w _
          go_simp
          try with_reducible rfl
        try simp only [Act.put, List.setIfInBounds_toArray, List.set_cons_zero, List.set_cons_succ]
        refine takeL (i := 15) (v := ?_) rfl (by kernel_rfl) (by kernel_rfl) (by kernel_rfl) (fun _ _ _ h => h) (Or.inl ⟨by rfl, ?_⟩) trivial ?_
        rotate_left
        · intro w _
          go_simp
          try with_reducible rfl
        try simp only [Act.put, List.setIfInBounds_toArray, List.set_cons_zero, List.set_cons_succ]
        refine readyL (i := 16) rfl (by kernel_rfl) (by kernel_rfl) fun K hK => ?_
        go_simp
        refine hK _ _ trivial ?_
        clear hK K
        try simp only [Act.put, List.setIfInBounds_toArray, List.set_cons_zero, List.set_cons_succ]
        refine wpAnyH_done (by kernel_rfl) ?_ _
        have HE := Lib.hid (HB4.out.last hr5 ho5 hg5)
        clear e5 g5 hr5 ho5 hg5 hat5
        go_wp2_with fail
        go_end0
        exact ⟨z1, z2, A5, c5, rfl, hz1, hz2, HE.out⟩
      · go_simp
        refine hK _ _ trivial ?_
        clear hK K
        try simp only [Act.put, List.setIfInBounds_toArray, List.set_cons_zero, List.set_cons_succ]
        have HB3 := Lib.hid (H22.out.alloc (.cells [Value.iface 112 (.agg (sheetCells (.slice B m d) z1 z2).toArray)].toArray 75))
        have hsee := (Row.new w22 75 [Value.iface 112 (.agg (sheetCells (.slice B m d) z1 z2).toArray)]).sees0
        have HSEE := Lib.hid hsee
        clear hsee
        refine readyL (i := 4) rfl (by kernel_rfl) (by kernel_rfl) fun K hK => ?_
        have c4 : (w22.alloc (.cells [Value.iface 112 (.agg (sheetCells (.slice B m d) z1 z2).toArray)].toArray 75)).cell? ⟨p, 0, none⟩ = some (.slice A n c) := HB3.out.row.cell 0
        go_simp
        clear c4
        refine hK _ _ trivial ?_
        clear hK K
        try simp only [Act.put, List.setIfInBounds_toArray, List.set_cons_zero, List.set_cons_succ]
        refine readyL (i := 13) rfl (by kernel_rfl) (by kernel_rfl) fun K hK => ?_
        refine wp_append_sees (.tmp 11) (.tmp 19) rfl Try.underlying43 HI.out.1 HI.out.2.1 HI.out.2.2.1 HI.out.2.2.2 rfl rfl HB3.out.own rfl HSEE.out (by simp [Value.oneCell']) (by unfold maxLen; omega) (by omega) HB3.out.lt ?_
        intro v5 w5 ho5 hg5 hat5
        obtain ⟨A5, c5, rfl⟩ := own_form ho5
        refine hK _ _ trivial ?_
        clear hK K
        try simp only [Act.put, List.setIfInBounds_toArray, List.set_cons_zero, List.set_cons_succ]
        have hr5 := HB3.out.row.grown hg5 (own_row_ne HB3.out.own HB3.out.row (by decide))
        have e5 : w5.cell? ⟨p, 0, none⟩ = some (.slice A n c) := hr5.cell 0
        have g5 := hr5.frozen 0
        refine takeL (i := 14) (v := ?_) rfl (by kernel_rfl) (by kernel_rfl) (by kernel_rfl) (fun _ _ _ h => h) (Or.inl ⟨by rfl, ?_⟩) trivial ?_
        rotate_left
        · intro w _
          go_simp
          try with_reducible rfl
        try simp only [Act.put, List.setIfInBounds_toArray, List.set_cons_zero, List.set_cons_succ]
        refine takeL (i := 15) (v := ?_) rfl (by kernel_rfl) (by kernel_rfl) (by kernel_rfl) (fun _ _ _ h => h) (Or.inl ⟨by rfl, ?_⟩) trivial ?_
        rotate_left
        · intro w _
          go_simp
          try with_reducible rfl
        try simp only [Act.put, List.setIfInBounds_toArray, List.set_cons_zero, List.set_cons_succ]
        refine readyL (i := 16) rfl (by kernel_rfl) (by kernel_rfl) fun K hK => ?_
        go_simp
        refine hK _ _ trivial ?_
        clear hK K
        try simp only [Act.put, List.setIfInBounds_toArray, List.set_cons_zero, List.set_cons_succ]
        refine wpAnyH_done (by kernel_rfl) ?_ _
        have HE := Lib.hid (HB3.out.last hr5 ho5 hg5)
        clear e5 g5 hr5 ho5 hg5 hat5
        go_wp2_with fail
        go_end0
        exact ⟨z1, z2, A5, c5, rfl, hz1, hz2, HE.out⟩
end Go.Proofs.Ytolijdbdpnbchaa
